/- Layer 6, package tlv: length, Same, Put, for whatever frames. They write nothing that was there. -/
import Derived.Deep.RegionHeld3
import Derived.Test.YtdnilbebdgohnaaGreatDoorWireD
import Derived.Test.YtdnilbebdgohnaaGreatDoorPadD



namespace Go.Proofs.YtdnilbebdgohnaaGreatDoor
open Go.RowKit

/-- a frame: its type and its value -/
structure Fr where
  t : UInt16
  v : List UInt8
def frL (f : Fr) : Nat := 4 + f.v.length
def u32of (n : Nat) : UInt32 := UInt32.ofNat n
theorem u32of_toNat {n : Nat} (h : n < 4294967296) : (u32of n).toNat = n := by
  unfold u32of
  rw [UInt32.toNat_ofNat']
  exact Nat.mod_eq_of_lt h
def headB (t : UInt16) (n : Nat) : List UInt8 := puts 2 [u32of t.toNat, u32of (4 + n)]
def frB (f : Fr) : List UInt8 := headB f.t f.v.length ++ f.v
theorem headB_len (t : UInt16) (n : Nat) : (headB t n).length = 4 := by unfold headB; rw [puts_len]; rfl
theorem frB_len (f : Fr) : (frB f).length = frL f := by unfold frB frL; rw [List.length_append, headB_len]

theorem length_any (T : Value) (A : Option Addr) (n c : Nat) (w : World) (hn : n ≤ 140737488355328) :
    Calls Tryz.prog 47 #[.agg #[T, .slice A n c]] w fun e w' => e = .returned (.int .i64 ((4 + n : Nat) : Int)) ∧ Below w.heap.size w w' := by
  go_enter Tryz.func47, Tryz.ntmps47
  go_wp2_with fail
  go_ret
  exact ⟨ret_int (by go_num), (Below.refl _ _).alloc (Nat.le_refl _) _⟩

theorem parts2 {w : World} (v1 v2 : Value) (p1 p2 : List UInt8) (h1 : IsB w w.heap.size v1 p1) (h2 : IsB w w.heap.size v2 p2) :
    Parts (w.alloc (.cells #[v1, v2] 32)) (w.alloc (.cells #[v1, v2] 32)).heap.size (some ⟨w.heap.size, 0, none⟩) [v1, v2] [p1, p2] := by
  have hb : Below w.heap.size w (w.alloc (.cells #[v1, v2] 32)) := (Below.refl _ w).alloc (Nat.le_refl _) _
  have hmore : ∀ v p, IsB w w.heap.size v p → IsB (w.alloc (.cells #[v1, v2] 32)) (w.alloc (.cells #[v1, v2] 32)).heap.size v p := by
    rintro v p ⟨A, c, h1, h2, h3, h4⟩
    exact ⟨A, c, h1, (h2.below hb).more hb.size, h3, h4⟩
  refine ⟨(Lies.newN w [v1, v2] _).more (by simp), rfl, fun i p hp => ?_⟩
  match i, hp with
  | 0, hp => simp only [List.getElem?_cons_zero, Option.some.injEq] at hp; subst hp; exact ⟨_, rfl, hmore _ _ h1⟩
  | 1, hp => simp only [List.getElem?_cons_succ, List.getElem?_cons_zero, Option.some.injEq] at hp; subst hp; exact ⟨_, rfl, hmore _ _ h2⟩
  | i + 2, hp => simp at hp
theorem tot2 (p q : List UInt8) : tot [p, q] = p.length + q.length := by simp [tot]

/-- the head of a frame, put; then joined with its value -/
theorem head_put (t : UInt16) (n : Nat) (hn : n ≤ 65531) (w1 : World) :
    Calls Tryz.prog 64 #[.int .i64 2, .slice (some ⟨w1.heap.size, 0, none⟩) 2 2] (w1.alloc (.cells #[.int .u32 (IntKind.u32.wrap (t.toNat : Int)), .int .u32 (IntKind.u32.wrap (4 + (n : Int)))] 112)) fun e w' =>
      ∃ A' c', e = .returned (.slice A' 4 c') ∧ IsB w' w'.heap.size (.slice A' 4 c') (headB t n) ∧ Below w1.heap.size w1 w' := by
  have ht := t.toNat_lt
  have e1 : Value.int .u32 (IntKind.u32.wrap (t.toNat : Int)) = uv (u32of t.toNat) := by
    rw [uv, u32of_toNat (by omega), IntKind.wrap_u32]
    congr 1
    omega
  have e2 : Value.int .u32 (IntKind.u32.wrap (4 + (n : Int))) = uv (u32of (4 + n)) := by
    rw [uv, u32of_toNat (by omega), IntKind.wrap_u32]
    congr 1
    omega
  rw [e1, e2]
  have hl := (Lies.newN w1 [uv (u32of t.toNat), uv (u32of (4 + n))] 112).more (B' := (w1.alloc (.cells [uv (u32of t.toNat), uv (u32of (4 + n))].toArray 112)).heap.size) (by simp)
  refine (put_any 2 (.inr (.inl rfl)) (some ⟨w1.heap.size, 0, none⟩) 2 [u32of t.toNat, u32of (4 + n)] _ hl (by simp)).mono ?_
  rintro e w' ⟨A', c', rfl, hown, hb⟩
  have hcap := own_cap hown
  have hlen : (headB t n).length = 4 := headB_len t n
  refine ⟨A', c', rfl, ⟨A', c', by rw [hlen], Lies.own hown, by rw [hlen]; exact hcap.2.1, hcap.2.2⟩, ((Below.refl _ w1).alloc (Nat.le_refl _) _).trans (hb.mono (by simp))⟩
theorem head_join (t : UInt16) (A1 : Option Addr) (c1 : Nat) (A : Option Addr) (c : Nat) (b : List UInt8) (hn : b.length ≤ 65531) (w2 : World) (h1 : IsB w2 w2.heap.size (.slice A1 4 c1) (headB t b.length)) (h2 : IsB w2 w2.heap.size (.slice A b.length c) b) :
    Calls Tryz.prog 35 #[.slice (some ⟨w2.heap.size, 0, none⟩) 2 2] (w2.alloc (.cells #[.slice A1 4 c1, .slice A b.length c] 32)) fun e w' =>
      ∃ A' c', e = .returned (.slice A' (4 + b.length) c') ∧ w'.ownsRow w2.heap.size 5 1 (.slice A' (4 + b.length) c') (4 + b.length) ((frB ⟨t, b⟩).map bv) ∧ Below w2.heap.size w2 w' := by
  have hP := parts2 _ _ _ _ h1 h2
  have ht : tot [headB t b.length, b] = 4 + b.length := by rw [tot2, headB_len]
  refine (join_any _ 2 _ _ _ hP (by simp [maxLen]) (by rw [ht]; omega)).mono ?_
  rintro e w' ⟨A', c', rfl, hown, hb⟩
  rw [ht] at hown ⊢
  have e3 : [headB t b.length, b].flatten = frB ⟨t, b⟩ := by simp [frB]
  rw [e3] at hown
  exact ⟨A', c', rfl, own_base hown (by simp), ((Below.refl _ w2).alloc (Nat.le_refl _) _).trans (hb.mono (by simp))⟩

theorem below_drew {B : Nat} {a w : World} (h : Below B a w) : Below B a w.drew := ⟨h.os, h.tape, h.output, h.size, h.block⟩
set_option maxHeartbeats 1000000 in
theorem tput_any (t : UInt16) (A : Option Addr) (c : Nat) (b : List UInt8) (w : World) (h : Lies w w.heap.size A (b.map bv)) (hc : b.length ≤ c) (hm : c ≤ maxLen) (hn : b.length ≤ 65531) :
    Calls Tryz.prog 49 #[.agg #[hv t, .slice A b.length c]] w fun e w' => ∃ A' c', e = .returned (.tuple #[.slice A' (4 + b.length) c', .bool true]) ∧
      w'.ownsRow w.heap.size 5 1 (.slice A' (4 + b.length) c') (4 + b.length) ((frB ⟨t, b⟩).map bv) ∧ Below w.heap.size w w' := by
  have hb0 : Below w.heap.size w (w.alloc (.cells #[hv t, .slice A b.length c] 67)) := (Below.refl _ w).alloc (Nat.le_refl _) _
  go_enter Tryz.func49, Tryz.ntmps49
  go_wp2_with fail
  go_region_held3 (fun w' => w'.cell? ⟨w.heap.size, 0, none⟩ = some (hv t) ∧ w'.cell? ⟨w.heap.size, 1, none⟩ = some (.slice A b.length c)) (go_keep) (first | (go_at_call 47; refine (length_any _ _ _ _ _ (by omega)).mono ?_; rintro e w1 ⟨rfl, b1⟩; have g0 : w1.cell? ⟨w.heap.size, 0, none⟩ = some (hv t) := (b1.cell (p := ⟨w.heap.size, 0, none⟩) (by simp)).trans (by simp); have g1 : w1.cell? ⟨w.heap.size, 1, none⟩ = some (.slice A b.length c) := (b1.cell (p := ⟨w.heap.size, 1, none⟩) (by simp)).trans (by simp); have hsz1 : w.heap.size + 1 ≤ w1.heap.size := by (have := b1.size; simpa using this)) | (go_at_call 64; refine (head_put t b.length hn w1).mono ?_; rintro e w2 ⟨A1, c1, rfl, i1, b2⟩; have k0 : w2.cell? ⟨w.heap.size, 0, none⟩ = some (hv t) := (b2.cell (p := ⟨w.heap.size, 0, none⟩) (by show w.heap.size < w1.heap.size; omega)).trans g0; have k1 : w2.cell? ⟨w.heap.size, 1, none⟩ = some (.slice A b.length c) := (b2.cell (p := ⟨w.heap.size, 1, none⟩) (by show w.heap.size < w1.heap.size; omega)).trans g1) | (go_at_call 35; have hb2 : Below w.heap.size w w2 := ((below_drew hb0).trans (b1.mono (by simp))).trans (b2.mono (by omega)); refine (head_join t A1 c1 A c b hn w2 i1 ⟨A, c, rfl, (h.below hb2).more hb2.size, hc, hm⟩).mono ?_; rintro e w3 ⟨A3, c3, rfl, i3, b3⟩; have q0 : w3.cell? ⟨w.heap.size, 0, none⟩ = some (hv t) := (b3.cell (p := ⟨w.heap.size, 0, none⟩) (by show w.heap.size < w2.heap.size; have := b2.size; omega)).trans k0; have q1 : w3.cell? ⟨w.heap.size, 1, none⟩ = some (.slice A b.length c) := (b3.cell (p := ⟨w.heap.size, 1, none⟩) (by show w.heap.size < w2.heap.size; have := b2.size; omega)).trans k1))
  go_wp2_with fail
  go_ret2
  exact ⟨A3, c3, rfl, own_base i3 hb2.size, hb2.trans (b3.mono hb2.size)⟩
end Go.Proofs.YtdnilbebdgohnaaGreatDoor

