/- Layer 3, package pad and its reference: Gap, Up, Zero, Next, for whatever numbers and bytes. They write nothing that was there. -/
/- Layer 3, package pad: Next, for whatever bytes and numbers. They write nothing that was there. -/
/- Layer 3, package pad and its reference: Bytes, for whatever bytes: what is handed back is a new row. -/
/- Layer 3, package pad: Sizes, for whatever numbers that are small enough to be summed. -/
import Derived.Test.YteknmgmdmjmnmaaGreatDoorChecked
import Derived.Test.YteknmgmdmjmnmaaGreatDoorUA
import Derived.Laws.CopyOwn


namespace Go.Proofs.YteknmgmdmjmnmaaGreatDoor
open Go.RowKit

/-! ### the numbers -/
def gap (n : Nat) : Nat := (4 - n % 4) % 4
def up (n : Nat) : Nat := n + gap n
theorem gap_lt (n : Nat) : gap n < 4 := Nat.mod_lt _ (by omega)
theorem neg_and3 (n : Nat) (hn : n < 4611686018427387904) : bits BinOp.and IntKind.i64 (-(n : Int)) 3 = ((gap n : Nat) : Int) := by
  show IntKind.i64.wrap ((BitVec.ofInt 64 (-(n : Int)) &&& BitVec.ofInt 64 3).toNat : Int) = _
  have e3 : (BitVec.ofInt 64 3).toNat = 2 ^ 2 - 1 := by decide
  rw [BitVec.toNat_and, e3, Nat.and_two_pow_sub_one_eq_mod, BitVec.toNat_ofInt, IntKind.wrap_i64]
  unfold gap
  omega

theorem gap_any (n : Nat) (hn : n < 4611686018427387904) (w : World) : Calls Tryz.prog 235 #[.int .i64 (n : Int)] w fun e w' => e = .returned (.int .i64 (gap n : Nat)) ∧ w = w' := by
  have H := Lib.hid (neg_and3 n hn)
  go_enter Tryz.func235, Tryz.ntmps235
  go_wp2
  go_ret
  exact ⟨ret_int (by rw [← H.out]), rfl⟩
theorem up_any (n : Nat) (hn : n < 4611686018427387904) (w : World) : Calls Tryz.prog 230 #[.int .i64 (n : Int)] w fun e w' => e = .returned (.int .i64 (up n : Nat)) ∧ w = w' := by
  have hg := gap_lt n
  have H : Hid (up n = n + gap n) := rfl
  generalize up n = u at *
  go_enter Tryz.func230, Tryz.ntmps230
  go_wp2_with (go_at_call 235; refine (gap_any n hn _).mono ?_; rintro e w' ⟨rfl, rfl⟩)
  go_ret
  exact ⟨ret_int (by rw [H.out]; go_num), rfl⟩
/-! ### Zero -/
def zeroB (l : List UInt8) : Bool := l.all (· == 0)
end Go.Proofs.YteknmgmdmjmnmaaGreatDoor



namespace Go.Proofs.YteknmgmdmjmnmaaGreatDoor
open Go.RowKit

def Good (b : List UInt8) (n : Int) : Prop := 0 ≤ n ∧ up n.toNat ≤ b.length ∧ zeroB ((b.drop n.toNat).take (gap n.toNat)) = true
instance (b : List UInt8) (n : Int) : Decidable (Good b n) := by unfold Good; infer_instance
end Go.Proofs.YteknmgmdmjmnmaaGreatDoor




namespace Go.Proofs.YteknmgmdmjmnmaaGreatDoor
open Go.RowKit

/-- a row that fills its block -/
theorem own_whole {w : World} {base e g n : Nat} {xs : List Value} (h : w.ownsRow base e 1 (.slice (some ⟨g, 0, none⟩) n n) n xs) : Whole w g e xs.toArray ∧ base ≤ g := by
  rcases h.2 with ⟨h1, _⟩ | ⟨g', cap, cur, h1, h2, h3, _, _, h6, h7⟩
  · simp at h1
  · simp only [Value.slice.injEq, Option.some.injEq, Addr.mk.injEq, and_true, true_and] at h1
    obtain ⟨rfl, rfl⟩ := h1
    rw [List.take_of_length_le (by simp; omega)] at h7
    subst h7
    exact ⟨h3, h2⟩
def padB (b : List UInt8) : List UInt8 := b ++ List.replicate (gap b.length) 0
end Go.Proofs.YteknmgmdmjmnmaaGreatDoor



namespace Go.Proofs.YteknmgmdmjmnmaaGreatDoor
open Go.RowKit

abbrev iv (n : Nat) : Value := .int .i64 (n : Int)
theorem Lies.int {w : World} {B : Nat} {A : Option Addr} {l : List Nat} (h : Lies w B A (l.map iv)) {k : Nat} (hk : k < l.length) :
    ∃ ad x, A = some ad ∧ ad.block < B ∧ Hid (l[k]? = some x) ∧ w.cell? (ad.add k) = some (.int .i64 (x : Int)) := h.of_map hk

/-! ### the sums -/
def sizes (l : List Nat) : Nat := l.foldl (fun s n => up s + n) 0
theorem sizes_snoc (l : List Nat) (x : Nat) : sizes (l ++ [x]) = up (sizes l) + x := by simp [sizes]
theorem sizes_take {l : List Nat} {k x : Nat} (h : l[k]? = some x) : sizes (l.take (k + 1)) = up (sizes (l.take k)) + x := by rw [take_some h, sizes_snoc]
def Low (l : List Nat) : Prop := ∀ (i : Nat) (x : Nat), l[i]? = some x → x ≤ 1000000
theorem sizes_le {l : List Nat} (h : Low l) : ∀ k, k ≤ l.length → sizes (l.take k) ≤ 1000003 * k := by
  intro k
  induction k with
  | zero => intro _; simp [sizes]
  | succ k ih =>
    intro hk
    have h1 := ih (by omega)
    have hx : l[k]? = some l[k] := List.getElem?_eq_getElem (by omega)
    have h2 := h k _ hx
    have h3 := gap_lt (sizes (l.take k))
    rw [sizes_take hx]
    unfold up
    omega
/-! ### the closure, then Sizes -/
theorem sizes1_any (g s n : Nat) (w : World) (hc : w.cell? ⟨g, 0, none⟩ = some (.int .i64 (s : Int))) (hf : w.frozen? ⟨g, 0, none⟩ = false) (hs : s ≤ 2000000000) (hn : n ≤ 1000000000) :
    Calls Tryz.prog 229 #[.int .i64 (n : Int), .pointer (some ⟨g, 0, none⟩)] w fun e w' => e = .returned (.tuple #[]) ∧ w' = w.setCell ⟨g, 0, none⟩ (.int .i64 ((up s + n : Nat) : Int)) := by
  have hU := up_any s (by omega)
  have hg := gap_lt s
  have hu : up s = s + gap s := rfl
  generalize up s = u at *
  have hu2 : u ≤ 2000000003 := by omega
  clear hu hg
  go_enter Tryz.func229, Tryz.ntmps229
  go_wp2_with (go_at_call 230; refine (hU _).mono ?_; rintro e w' ⟨rfl, rfl⟩)
  go_end0
  exact ⟨rfl, rfl⟩

theorem sizes_any (A : Option Addr) (c : Nat) (l : List Nat) (w : World) (h : Lies w w.heap.size A (l.map iv)) (hn : l.length ≤ 1000) (hlow : Low l) :
    Calls Tryz.prog 217 #[.slice A l.length c] w fun e w' => e = .returned (.int .i64 (sizes l : Nat)) ∧ Below w.heap.size w w' := by
  have HL := Lib.hid hlow
  clear hlow
  go_enter Tryz.func217, Tryz.ntmps217
  go_wp2_with fail
  go_loopw [10] (fun i wr => ∃ k : Nat, k ≤ l.length ∧ i = .int .i64 k ∧ Whole wr w.heap.size 3 #[.int .i64 (sizes (l.take k) : Nat)] ∧ Below w.heap.size w wr) (fun i _ => l.length - (intOf i).toNat)
  case atStart =>
    exact ⟨0, Nat.zero_le _, rfl, by rw [List.take_zero]; exact Whole.new _ _ _, (Below.refl _ w).alloc (Nat.le_refl _) _⟩
  case round =>
    obtain ⟨k, hk, rfl, hwh, hbel⟩ := hrel
    have hcell := hwh.cell 0
    have hfr := hwh.frozen 0
    by_cases hlt : k < l.length
    · obtain ⟨ad, x, rfl, hb, hx, hc⟩ := (h.below hbel).int hlt
      have hx2 := HL.out k x hx.out
      have hs2 := sizes_le HL.out k hk
      have HT := Lib.hid (sizes_take hx.out)
      have HW := Lib.hid hwh
      clear hwh
      generalize sizes (l.take k) = s at *
      simp at hcell
      go_wp2_with fail
      refine (sizes1_any _ s x wr hcell hfr (by omega) (by omega)).mono ?_
      rintro e w2 ⟨rfl, h2⟩
      have HW2 : Hid (Whole w2 w.heap.size 3 #[.int .i64 ((sizes (l.take (k + 1)) : Nat) : Int)]) := by
        rw [HT.out, h2]
        exact HW.out.set_ 0 _
      have hb2 : Below w.heap.size w w2 := by rw [h2]; exact hbel.setCell (Nat.le_refl _) _
      clear h2
      go_wp2_with fail
      go_roundw
      case rel => exact ⟨k + 1, by omega, by go_num, HW2.out, hb2⟩
      case measure => simp [intOf]; omega
    · have HE : Hid (l.take k = l) := List.take_of_length_le (by omega)
      have HS : Hid (sizes (l.take k) = sizes l) := by unfold Hid; rw [HE.out]
      clear HE hwh
      simp at hcell
      generalize sizes (l.take k) = s at *
      go_wp2_with fail
      go_ret
      exact ⟨ret_int (by rw [HS.out]), hbel⟩

end Go.Proofs.YteknmgmdmjmnmaaGreatDoor


