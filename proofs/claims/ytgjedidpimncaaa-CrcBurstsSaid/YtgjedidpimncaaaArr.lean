/- What an argument of three numbers in an array reads as. -/
import Derived.Test.YtgjedidpimncaaaOpen
import Derived.WideKeyArr2
namespace Go.Proofs.Ytgjedidpimncaaa
open Go.RowKit Go.ChangeShapes Go.WideShapes Go.ChangeAt

theorem open_three {H : Type} {enc : TypeId × Value → H} {P : Program} {W : World} {r : Reach} {b0 : Nat} {t e : TypeId} {q : IntKind} {v : Value} {d : DataW H} {ps : List MemPlace}
    (ht : P.underlying t = some (.array 3 e)) (he : P.underlying e = some (.int q)) (hc : P.cellsOf e = 1) (hc3 : P.cellsOf t = 3)
    (ho : Value.okWide P W r b0 t v) (hd : DataW.Trod enc P W 0 (fun _ => true) true t v d ps) :
    ∃ a b c, v = .agg #[.int q a, .int q b, .int q c] ∧ (Lit.int q a).wf = true ∧ (Lit.int q b).wf = true ∧ (Lit.int q c).wf = true := by
  simp only [Value.okWide, ht] at ho
  obtain ⟨cs, rfl, h2, _⟩ := ho
  rw [hc3] at h2
  obtain ⟨fuel, hf⟩ := hd
  cases fuel with
  | zero => simp [DataW.trod] at hf
  | succ m =>
    rw [DataW.trod_step] at hf
    unfold DataW.trodStep at hf
    simp only [ht, Value.cells, hc] at hf
    rw [if_pos (by simp [hc3, h2])] at hf
    simp only [Option.map_eq_some_iff] at hf
    obtain ⟨ys, hy, _⟩ := hf
    obtain ⟨x0, x1, x2, hx⟩ : ∃ x0 x1 x2, cs = #[x0, x1, x2] := by
      match cs, h2 with
      | ⟨[x0, x1, x2]⟩, _ => exact ⟨x0, x1, x2, rfl⟩
    subst hx
    rw [show (List.range 3) = [0, 1, 2] from rfl] at hy
    simp only [List.mapM_cons, List.mapM_nil, bind, Option.bind_eq_some_iff, pure, Option.some.injEq] at hy
    obtain ⟨y0, e0, _, ⟨y1, e1, _, ⟨y2, e2, _, _, _⟩, _⟩, _⟩ := hy
    obtain ⟨a, ea, _, wa⟩ := DataW.trod_int he e0
    obtain ⟨b, eb, _, wb⟩ := DataW.trod_int he e1
    obtain ⟨c, ec, _, wc⟩ := DataW.trod_int he e2
    simp at ea eb ec
    exact ⟨a, b, c, by rw [ea, eb, ec], wa, wb, wc⟩
end Go.Proofs.Ytgjedidpimncaaa
