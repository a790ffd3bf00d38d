/- Layer 2, the law FaultWraps: what the world's shape gives of the table of powers, and the law out of its walks. No condition of its own but what the two listed variables hold. -/
import Derived.Test.YtkcgmheljdkacaaDoorFaultWraps
namespace Go.Proofs.YtkcgmheljdkacaaDoor
open Go.RowKit Go.Extern.Stop Go.Stop Go.Extern Go.ChangeShapes Go.WideShapes Go.ChangeAt

theorem tab_zero : ((begin Tryd.prog (fun _ _ => 0) default).world.heap[2]?).bind Obj.row? = some (Array.replicate 20 (.int .u64 0), 111) := by kernel_rfl
theorem tab_types : Tryd.prog.cellTypes Tryd.prog.depth 111 = some (List.replicate 20 103) := by kernel_rfl
set_option maxRecDepth 100000 in
theorem tab_of_shape {W : World} (h : W.ShapedOpen Tryd.prog) : ∃ pw : Nat → Nat, Tab pw W := by
  obtain ⟨cs, hh, hs, hr⟩ := h.1 2 _ _ (of_decide_eq_true (by kernel_rfl)) tab_zero
  obtain ⟨ts, hts, _, hall⟩ := hr (by kernel_rfl)
  obtain rfl := Option.some.inj (tab_types.symm.trans hts)
  rw [Array.size_replicate] at hs
  have each : ∀ i, i < 20 → ∃ n : Nat, cs[i]? = some (.int .u64 n) := by
    intro i hi
    have hc : cs[i]? = some (cs[i]'(by omega)) := Array.getElem?_eq_getElem (by omega)
    obtain ⟨u, hu, hok⟩ := hall i _ hc
    rw [List.length_replicate, Nat.mod_eq_of_lt hi, List.getElem?_replicate, if_pos hi] at hu
    obtain rfl := Option.some.inj hu
    unfold Cell.ok at hok
    rw [Tryd.underlying103] at hok
    rw [hc]
    cases hv : cs[i]'(by omega) <;> rw [hv] at hok <;> simp at hok
    case int k n =>
      obtain ⟨rfl, hn⟩ := hok
      refine ⟨n.toNat, ?_⟩
      have : 0 ≤ n := by
        have h1 := hn.1
        rwa [show IntKind.u64.min = 0 by decide] at h1
      rw [Int.toNat_of_nonneg this]
  refine ⟨fun i => if h : i < 20 then (each i h).choose else 0, fun i hi => ?_⟩
  have := (each i hi).choose_spec
  simp only [dif_pos hi]
  rw [cell_of_row _ _ i cs _ _ hh]
  exact this

set_option maxRecDepth 100000 in
theorem law_FaultWraps {H : Type} {enc : TypeId × Value → H} {W : World} {base : Nat} {v0 v1 : Value} {d0 d1 : DataW H} {p0 p1 : List MemPlace}
    (o0 : Value.okWide Tryd.prog W .any base 24 v0) (h0 : DataW.Trod enc Tryd.prog W 0 (fun _ => true) true 24 v0 d0 p0) (_s0 : Small Tryd.prog 24 d0)
    (o1 : Value.okWide Tryd.prog W .any base 9 v1) (h1 : DataW.Trod enc Tryd.prog W 0 (fun _ => true) true 9 v1 d1 p1) (_s1 : Small Tryd.prog 9 d1) (hL : laidMetH Tryd.prog laidL W) (hS : W.ShapedOpen Tryd.prog) :
    Calls Tryd.prog 5 #[v0, v1] W fun e w' => e = .returned (.bool true) ∧ Below W.heap.size W w' := by
  obtain ⟨part, rfl, _⟩ := Go.ChangeMaps.open_string Tryd.underlying9 o1 h1
  obtain ⟨nl, A, c, code, a, fl, ps, rfl, hl, hm, wc, _⟩ := open_desc o0 h0
  have hcb : -9223372036854775808 ≤ code ∧ code ≤ 9223372036854775807 := by
    have := bounds_i64 wc
    omega
  have hh := handle_of_laid hL
  have hN := names_of_laid hL
  cases hF : fewB ps a
  · exact wraps_few nl A c ps code a fl part W hl hm hF hh hN
  · cases nl
    · by_cases hp : 50 < part.size
      · exact wraps_long A c ps code a fl part W hl hm hF hp hh hN
      · obtain ⟨pw, hT⟩ := tab_of_shape hS
        obtain ⟨hs50, hlen, _, _⟩ := few_of hF
        cases hr : ps.reverse with
        | nil =>
          cases fl
          · exact wraps_some_c A c ps code a false part W hl hm hF hp (.int .i64 code) _ (by rw [hr]; rfl) hh hN pw hT (fun w hw => cerr_any pw code hcb.1 hcb.2 w hw)
          · exact wraps_some_f A c ps code a true part W hl hm hF hp (.agg #[.int .i64 code, .int .i64 a]) _ (by rw [hr]; rfl) hh hN pw hT (fun w hw => ferr_any pw code a hcb.1 hcb.2 w hw)
        | cons q qs =>
          have hq : ∀ s ∈ q :: qs, s.size ≤ 50 := fun s hs => hs50 s (by rw [← hr] at hs; exact List.mem_reverse.1 hs)
          have hql : qs.length ≤ 30 := by
            have := congrArg List.length hr
            rw [List.length_reverse, List.length_cons] at this
            omega
          exact wraps_some_w A c ps code a fl part W hl hm hF hp (.agg #[.string q, wraps qs (baseV fl code a)]) _ (by rw [hr]; rfl) hh hN pw hT (fun w hw => werr_any pw fl code a hcb.1 hcb.2 qs q hq hql w hw)
    · exact wraps_nil A c ps code a fl part W hl hm hF hh hN
end Go.Proofs.YtkcgmheljdkacaaDoor
