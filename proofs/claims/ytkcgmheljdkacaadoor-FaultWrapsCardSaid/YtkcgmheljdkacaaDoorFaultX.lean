/- Layer 2, the law FaultWraps: what the world's shape gives of the table of powers, and the law out of its walks. No condition of its own but what the two listed variables hold. -/
import Derived.Test.YtkcgmheljdkacaaDoorFaultWraps
import Derived.Handed
import Derived.SizedLaws
namespace Go.Proofs.YtkcgmheljdkacaaDoor
open Go.RowKit Go.Extern.Stop Go.Stop Go.Extern Go.ChangeShapes Go.WideShapes Go.ChangeAt

/-- as the library's own step from a contract to a row, the world's shape handed on beside the listed variables -/
theorem handed_shaped {H : Type} {enc : TypeId × Value → H} {a : Assume} {C : Checked} {os : Os} {f : FuncId} {fn : Func} {s : ChangeSpec} {conds : List PathCond} {apart fresh handsOn again : Bool} {X : World → Array Value → Prop}
    (hX : ∀ (w w' : World) (args : Array Value), w.heap = w'.heap → X w args → X w' args)
    (own : ownKnob C.prog.godebug = none) (started : os.Started) (noInit : C.prog.inits.idxOf? f = none) (hfn : C.prog.funcs[f]? = some fn)
    (witness : ∃ (w : World) (tape : Tape) (i : Input), w.os = os ∧ (w.forCall tape i).Shaped C.prog ∧ i.vars = [] ∧ Input.okWide C.prog (w.forCall tape i) .any w.heap.size f i ∧
      ((s.pre enc C.prog fn conds apart (w.forCall tape i).memory i.args ∧ X (w.forCall tape i).memory i.args) ∧ sizedMet enc C.prog fn (OpenSpec.ofChange s) apart (w.forCall tape i).memory i.args) ∧ a.holds C.prog (lone (Frame.enter C.prog f i.args .normal) [] (w.forCall tape i)))
    (contract : ∀ (W : World) (base : Nat) (args : Array Value) (ds gs : List (DataW H)) (before : List MemPlace), W.ShapedOpen C.prog →
      (∀ (j : Nat) t v, fn.params[j]? = some t → args[j]? = some v → Value.okWide C.prog W .any base t v) →
      DataW.Whole enc C.prog fn.params.toList s.vars apart W args.toList ds gs before →
      conds.all (PathCond.test C.prog ⟨fn.params.toList, ds, s.plain.varTypes C.prog, gs⟩) = true →
      (DataW.weightsEach C.prog (fn.params.toList ++ s.plain.varTypes C.prog) (ds ++ gs)).all (· ≤ reachBytes) = true → X W args →
      a.holds C.prog (lone (Frame.enter C.prog f args .normal) [] W) →
      Calls C.prog f args W fun e W' => ∃ v, e = .returned v ∧ s.post enc C.prog fn apart fresh handsOn again W args v W') :
    ReturnsInHanded a C os f .any (fun w args => (s.pre enc C.prog fn conds apart w args ∧ X w args) ∧ sizedMet enc C.prog fn (OpenSpec.ofChange s) apart w args) (s.post enc C.prog fn apart fresh handsOn again) := by
  refine returnsInHanded_of_calls own started noInit witness fun w tape i _ hsh _ hok hpre hholds => ?_
  obtain ⟨_, _, _, fn', hfn', _, _, _, _, hval⟩ := hok
  obtain rfl : fn' = fn := Option.some.inj (hfn'.symm.trans hfn)
  obtain ⟨⟨⟨ds, gs, before, hw, hc⟩, hx⟩, hz⟩ := hpre
  refine (contract (w.forCall tape i) w.heap.size i.args ds gs before hsh hval (hw.of_heap (by rfl)) hc (hz.weights hw) (hX _ _ _ (by rfl) hx) hholds).mono fun e W' ⟨v, he, hp⟩ => ?_
  subst he
  exact ChangeSpec.post_blind hp

theorem tab_zero : ((begin Tryd.prog (fun _ _ => 0) default).world.heap[2]?).bind Obj.row? = some (Array.replicate 20 (.int .u64 0), 111) := by kernel_rfl
theorem tab_types : Tryd.prog.cellTypes Tryd.prog.depth 111 = some (List.replicate 20 103) := by kernel_rfl
set_option maxRecDepth 100000 in
theorem tab_of_shape {W : World} (h : W.ShapedOpen Tryd.prog) : ∃ pw : Nat → Nat, Tab pw W := by
  obtain ⟨cs, hh, hs, hr⟩ := h.1 2 _ _ (of_decide_eq_true (by kernel_rfl)) tab_zero
  obtain ⟨ts, hts, _, hall⟩ := hr (by kernel_rfl)
  obtain rfl := Option.some.inj (tab_types.symm.trans hts)
  rw [Array.size_replicate] at hs
  have each : ∀ i, i < 20 → ∃ n : Nat, cs[i]? = some (.int .u64 n) := by
    intro i hi
    have hc : cs[i]? = some (cs[i]'(by omega)) := Array.getElem?_eq_getElem (by omega)
    obtain ⟨u, hu, hok⟩ := hall i _ hc
    rw [List.length_replicate, Nat.mod_eq_of_lt hi, List.getElem?_replicate, if_pos hi] at hu
    obtain rfl := Option.some.inj hu
    unfold Cell.ok at hok
    rw [Tryd.underlying103] at hok
    rw [hc]
    cases hv : cs[i]'(by omega) <;> rw [hv] at hok <;> simp at hok
    case int k n =>
      obtain ⟨rfl, hn⟩ := hok
      refine ⟨n.toNat, ?_⟩
      have : 0 ≤ n := by
        have h1 := hn.1
        rwa [show IntKind.u64.min = 0 by decide] at h1
      rw [Int.toNat_of_nonneg this]
  refine ⟨fun i => if h : i < 20 then (each i h).choose else 0, fun i hi => ?_⟩
  have := (each i hi).choose_spec
  simp only [dif_pos hi]
  rw [cell_of_row _ _ i cs _ _ hh]
  exact this

set_option maxRecDepth 100000 in
theorem law_FaultWraps {H : Type} {enc : TypeId × Value → H} {W : World} {base : Nat} {v0 v1 : Value} {d0 d1 : DataW H} {p0 p1 : List MemPlace}
    (o0 : Value.okWide Tryd.prog W .any base 24 v0) (h0 : DataW.Trod enc Tryd.prog W 0 (fun _ => true) true 24 v0 d0 p0) (_s0 : Small Tryd.prog 24 d0)
    (o1 : Value.okWide Tryd.prog W .any base 9 v1) (h1 : DataW.Trod enc Tryd.prog W 0 (fun _ => true) true 9 v1 d1 p1) (_s1 : Small Tryd.prog 9 d1) (hL : laidMetH Tryd.prog laidL W) (hS : W.ShapedOpen Tryd.prog) :
    Calls Tryd.prog 5 #[v0, v1] W fun e w' => e = .returned (.bool true) ∧ Below W.heap.size W w' := by
  obtain ⟨part, rfl, _⟩ := Go.ChangeMaps.open_string Tryd.underlying9 o1 h1
  obtain ⟨nl, A, c, code, a, fl, ps, rfl, hl, hm, wc, _⟩ := open_desc o0 h0
  have hcb : -9223372036854775808 ≤ code ∧ code ≤ 9223372036854775807 := by
    have := bounds_i64 wc
    omega
  have hh := handle_of_laid hL
  have hN := names_of_laid hL
  cases hF : fewB ps a
  · exact wraps_few nl A c ps code a fl part W hl hm hF hh hN
  · cases nl
    · by_cases hp : 50 < part.size
      · exact wraps_long A c ps code a fl part W hl hm hF hp hh hN
      · obtain ⟨pw, hT⟩ := tab_of_shape hS
        obtain ⟨hs50, hlen, _, _⟩ := few_of hF
        cases hr : ps.reverse with
        | nil =>
          cases fl
          · exact wraps_some_c A c ps code a false part W hl hm hF hp (.int .i64 code) _ (by rw [hr]; rfl) hh hN pw hT (fun w hw => cerr_any pw code hcb.1 hcb.2 w hw)
          · exact wraps_some_f A c ps code a true part W hl hm hF hp (.agg #[.int .i64 code, .int .i64 a]) _ (by rw [hr]; rfl) hh hN pw hT (fun w hw => ferr_any pw code a hcb.1 hcb.2 w hw)
        | cons q qs =>
          have hq : ∀ s ∈ q :: qs, s.size ≤ 50 := fun s hs => hs50 s (by rw [← hr] at hs; exact List.mem_reverse.1 hs)
          have hql : qs.length ≤ 30 := by
            have := congrArg List.length hr
            rw [List.length_reverse, List.length_cons] at this
            omega
          exact wraps_some_w A c ps code a fl part W hl hm hF hp (.agg #[.string q, wraps qs (baseV fl code a)]) _ (by rw [hr]; rfl) hh hN pw hT (fun w hw => werr_any pw fl code a hcb.1 hcb.2 qs q hq hql w hw)
    · exact wraps_nil A c ps code a fl part W hl hm hF hh hN
end Go.Proofs.YtkcgmheljdkacaaDoor
