/- bytes.Equal, for whatever bytes. -/
import Derived.Test.YtemeeeiglifpaaaDoorSame
import Derived.Laws.BytesArg


namespace Go.Proofs.YtemeeeiglifpaaaDoor
open Go.RowKit

/-! ### bytes.Equal -/
theorem nums_of (b : List UInt8) : strOfNums (b.map fun x => (x.toNat : Int)) = ⟨b.toArray⟩ := by
  unfold strOfNums
  congr 1
  rw [List.map_map]
  congr 1
  conv => rhs; rw [← List.map_id b]
  exact List.map_congr_left fun x _ => by simp
theorem conv_lies {P : Program} {w : World} {B : Nat} {A : Option Addr} {b : List UInt8} (c : Nat) (h : Lies w B A (b.map bv)) (src e dst : TypeId)
    (hs : P.underlying src = some (.slice e)) (he : P.underlying e = some (.int .u8)) (hd : P.underlying dst = some .string) :
    (convert src dst (.slice A b.length c)).run P w = .ok (.string ⟨b.toArray⟩) w := by
  rw [run_convert_bytes_string w src dst e A b.length c hs he hd]
  rcases Nat.eq_zero_or_pos b.length with h0 | h0
  · obtain rfl : b = [] := List.eq_nil_of_length_eq_zero h0
    cases A <;> simp [Conv.bytesToString, loadCells]
    all_goals rfl
  · obtain ⟨ad, rfl, _, hc⟩ := h (by intro e; simp at e; subst e; simp at h0)
    have hl : (loadCells ad b.length).run P w = .ok ((b.map fun x => (x.toNat : Int)).map (Value.int .u8)).toArray w := by
      have := run_loadCells_list (P := P) w ad (b.map bv) (fun j v hj => hc j v hj)
      simpa [List.map_map, Function.comp_def, bv] using this
    rw [run_bytesToString w _ b.length c _ hl, foldl_push_bytes]
    have e2 := nums_of b
    unfold strOfNums at e2
    rw [show (ByteArray.empty.data ++ ((b.map fun x => (x.toNat : Int)).map fun n => UInt8.ofNat n.toNat).toArray) = ((b.map fun x => (x.toNat : Int)).map fun n => UInt8.ofNat n.toNat).toArray from (by simp [ByteArray.empty, ByteArray.emptyWithCapacity]; rfl), e2]
theorem equal_any (A A' : Option Addr) (c c' B B' : Nat) (a b : List UInt8) (w : World) (ha : Lies w B A (a.map bv)) (hb : Lies w B' A' (b.map bv)) :
    Calls Tryd.prog 48 #[.slice A a.length c, .slice A' b.length c'] w fun e w' => e = .returned (.bool (decide (a = b))) ∧ w = w' := by
  have h1 := conv_lies (P := Tryd.prog) c ha 24 5 9 Tryd.underlying24 Tryd.underlying5 Tryd.underlying9
  have h2 := conv_lies (P := Tryd.prog) c' hb 24 5 9 Tryd.underlying24 Tryd.underlying5 Tryd.underlying9
  go_enter Tryd.func48, Tryd.ntmps48
  go_wp2
  go_ret
  exact ⟨ret_bool (by rw [Bool.eq_iff_iff]; simp), rfl⟩

end Go.Proofs.YtemeeeiglifpaaaDoor

