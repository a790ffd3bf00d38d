/- Layer 12: a chunk as data, how it lies in memory, its form. No condition of its own. -/
/- Layer 12: the checks of flags, data and values; Size. They write nothing that was there. -/
/- Layer 12: Size, and the checks of sizes and of what is inside. They write nothing that was there. -/
/- Layer 12: the check of the kids. It writes nothing that was there. -/
import Derived.Test.YteknmgmdmjmnmaaGreatDoorUK
import Derived.Test.YteknmgmdmjmnmaaGreatDoorUNA
import Derived.Deep.RegionHeld3
import Derived.Test.YteknmgmdmjmnmaaGreatDoorUE
import Derived.Test.YteknmgmdmjmnmaaGreatDoorUNF
import Derived.Test.YteknmgmdmjmnmaaGreatDoorUNodeRAC




namespace Go.Proofs.YteknmgmdmjmnmaaGreatDoor
open Go.RowKit

structure Ck where
  t : UInt8
  fl : UInt8
  d : List UInt8
  ks : List Nd
/-- small enough to be walked -/
structure CkFine (x : Ck) : Prop where
  d : x.d.length ≤ 1000000
  ks : x.ks.length ≤ 1000
  each : ∀ k ∈ x.ks, Fine k
abbrev ckV (x : Ck) (A : Option Addr) (c : Nat) (K : Option Addr) (k : Nat) : Value := .agg #[bv x.t, bv x.fl, .slice A x.d.length c, .slice K x.ks.length k]
/-- what the four fields of a chunk read as -/
structure Chunk (w : World) (B : Nat) (A : Option Addr) (c : Nat) (K : Option Addr) (k : Nat) (x : Ck) : Prop where
  data : Lies w B A (x.d.map bv)
  dc : x.d.length ≤ c
  dm : c ≤ maxLen
  kids : Nodes w B K x.ks
  kc : x.ks.length ≤ k
  km : k ≤ maxLen
section
variable {w w' : World} {B B' : Nat} {A K : Option Addr} {c k : Nat} {x : Ck}
theorem Chunk.keep (h : Chunk w B A c K k x) (hk : ∀ p : Addr, p.block < B → w'.cell? p = w.cell? p) : Chunk w' B A c K k x := ⟨h.data.keep hk, h.dc, h.dm, h.kids.keep hk, h.kc, h.km⟩
theorem Chunk.more (h : Chunk w B A c K k x) (hB : B ≤ B') : Chunk w B' A c K k x := ⟨h.data.more hB, h.dc, h.dm, h.kids.more hB, h.kc, h.km⟩
theorem Chunk.below (h : Chunk w B A c K k x) (hb : Below B w w') : Chunk w' B A c K k x := h.keep fun _ hp => hb.cell hp
theorem Chunk.on (h : Chunk w w.heap.size A c K k x) (hb : Below w.heap.size w w') : Chunk w' w'.heap.size A c K k x := (h.below hb).more hb.size
end
/-- a variable that holds a chunk -/
abbrev ckCells (x : Ck) (A : Option Addr) (c : Nat) (K : Option Addr) (k : Nat) : Array Value := #[bv x.t, bv x.fl, .slice A x.d.length c, .slice K x.ks.length k]
def CkBox (W : World) (g : Nat) (x : Ck) (A : Option Addr) (c : Nat) (K : Option Addr) (k : Nat) : Prop := Whole W g 62 (ckCells x A c K k)
section
variable {W W2 : World} {g : Nat} {x : Ck} {A K : Option Addr} {c k : Nat}
theorem CkBox.c0 (h : CkBox W g x A c K k) : W.cell? ⟨g, 0, none⟩ = some (bv x.t) := by rw [Whole.cell h]; rfl
theorem CkBox.c1 (h : CkBox W g x A c K k) : W.cell? ⟨g, 1, none⟩ = some (bv x.fl) := by rw [Whole.cell h]; rfl
theorem CkBox.c2 (h : CkBox W g x A c K k) : W.cell? ⟨g, 2, none⟩ = some (.slice A x.d.length c) := by rw [Whole.cell h]; rfl
theorem CkBox.c3 (h : CkBox W g x A c K k) : W.cell? ⟨g, 3, none⟩ = some (.slice K x.ks.length k) := by rw [Whole.cell h]; rfl
theorem CkBox.below (h : CkBox W g x A c K k) (hb : Below W.heap.size W W2) : CkBox W2 g x A c K k := Whole.below h hb (Whole.lt h)
theorem CkBox.cs (h : CkBox W g x A c K k) : W.cell? ⟨g, 0, none⟩ = some (bv x.t) ∧ W.cell? ⟨g, 1, none⟩ = some (bv x.fl) ∧ W.cell? ⟨g, 2, none⟩ = some (.slice A x.d.length c) ∧ W.cell? ⟨g, 3, none⟩ = some (.slice K x.ks.length k) := ⟨h.c0, h.c1, h.c2, h.c3⟩
theorem CkBox.new (W : World) (x : Ck) (A : Option Addr) (c : Nat) (K : Option Addr) (k : Nat) : CkBox (W.alloc (.cells (ckCells x A c K k) 62)) W.heap.size x A c K k := Whole.new W _ _
theorem CkBox.lt (h : CkBox W g x A c K k) : g < W.heap.size := Whole.lt h
end

/-! ### the form of a type -/
def zK : Kd := ⟨0, ByteArray.empty, 0, 0, 0, 0, 0⟩
def kdOf (t : UInt8) : Kd := (klook t).getD zK
def kn (t : UInt8) : Bool := (klook t).isSome
theorem kV_of (t : UInt8) : kV (klook t) = .tuple #[(kdOf t).val, .bool (kn t)] := by
  unfold kdOf kn
  cases klook t <;> rfl
theorem kof12 (t : UInt8) (w : World) : Calls Tryz.prog 160 #[bv t] w fun e w' => e = .returned (.tuple #[(kdOf t).val, .bool (kn t)]) ∧ Below w.heap.size w w' := by
  rw [← kV_of]
  exact kof_any t w
theorem kT_all : ∀ f ∈ kT, (0 ≤ f.lo ∧ f.lo ≤ 17) ∧ (0 ≤ f.hi ∧ f.hi ≤ 65531) ∧ (1 ≤ f.un ∧ f.un ≤ 8) ∧ (0 ≤ f.ki ∧ f.ki ≤ 6) ∧ (f.ms = 0 ∨ f.ms = 1 ∨ f.ms = 15) ∧ (f.ki ≠ 0 → f.lo = f.hi) := by decide +kernel
theorem kdOf_mem {t : UInt8} (h : kn t = true) : kdOf t ∈ kT ∧ (kdOf t).ty = t := by
  unfold kn at h
  unfold kdOf
  cases hl : klook t with
  | none => rw [hl] at h; cases h
  | some f =>
    unfold klook at hl
    exact ⟨List.mem_of_find?_eq_some hl, by have := List.find?_some hl; simpa using this⟩
theorem kdOf_tame {t : UInt8} (h : kn t = true) : KTame (kdOf t) := by
  obtain ⟨h1, h2, h3, _⟩ := kT_all _ (kdOf_mem h).1
  exact ⟨h1, h2, h3⟩
theorem kdOf_zero {t : UInt8} (h : kn t = false) : kdOf t = zK := by
  unfold kn at h
  unfold kdOf
  cases hl : klook t with
  | none => rfl
  | some f => rw [hl] at h; cases h
theorem kdOf_ki (t : UInt8) : 0 ≤ (kdOf t).ki ∧ (kdOf t).ki ≤ 6 := by
  cases h : kn t with
  | true => exact (kT_all _ (kdOf_mem h).1).2.2.2.1
  | false => rw [kdOf_zero h]; decide
/-- the class inside, and whether there is something inside -/
def kc (t : UInt8) : Int := if (kins (kdOf t).ki).2.2 = 0 then 1 else (kins (kdOf t).ki).1
def kin (t : UInt8) : Bool := decide ((kins (kdOf t).ki).2.2 ≠ 0)
theorem kc_or (t : UInt8) : kc t = 1 ∨ kc t = 2 := by
  unfold kc
  have h := kdOf_ki t
  have h7 : (kdOf t).ki = 0 ∨ (kdOf t).ki = 1 ∨ (kdOf t).ki = 2 ∨ (kdOf t).ki = 3 ∨ (kdOf t).ki = 4 ∨ (kdOf t).ki = 5 ∨ (kdOf t).ki = 6 := by omega
  rcases h7 with h | h | h | h | h | h | h <;> (rw [h]; decide)
set_option maxHeartbeats 1000000 in
theorem cinside_any (t : UInt8) (w : World) : Calls Tryz.prog 167 #[bv t] w fun e w' => e = .returned (.tuple #[.int .i64 (kc t), .bool (kin t)]) ∧ Below w.heap.size w w' := by
  have hO := kof12 t
  have hI := kinside_any (kdOf t).ki
  unfold kc kin
  generalize kdOf t = f at *
  generalize kn t = kb at *
  obtain ⟨ty, nm, mk, lo, hi, un, ki⟩ := f
  unfold Kd.val at hO
  simp only [] at hO hI ⊢
  generalize kins ki = q at *
  obtain ⟨q1, q2, q3⟩ := q
  simp only [] at hI ⊢
  by_cases hq : q3 = 0
  · rw [if_pos hq]
    have hd : decide (q3 ≠ 0) = false := by simp [hq]
    rw [hd]
    subst hq
    go_enter Tryz.func167, Tryz.ntmps167
    go_wp2_with fail
    refine (hO _).mono ?_
    rintro e w1 ⟨rfl, b1⟩
    go_wp2_with (refine wpList_new_kd rfl 220 _ _ rfl w1 _ _ rfl rfl rfl (by kernel_rfl) rfl ?_)
    have hW1 := Whole.new w1 220 #[bv ty, .string nm, bv mk, .int .i64 lo, .int .i64 hi, .int .i64 un, .int .i64 ki]
    have hb1 : Below w.heap.size w (w1.alloc (.cells #[bv ty, .string nm, bv mk, .int .i64 lo, .int .i64 hi, .int .i64 un, .int .i64 ki] 220)) := b1.alloc b1.size _
    generalize w1.alloc (.cells #[bv ty, .string nm, bv mk, .int .i64 lo, .int .i64 hi, .int .i64 un, .int .i64 ki] 220) = w2 at *
    have c6 : w2.cell? ⟨w1.heap.size, 6, none⟩ = some (.int .i64 ki) := by rw [hW1.cell]; rfl
    go_wp2_with fail
    refine (hI _).mono ?_
    rintro e w3 ⟨rfl, rfl⟩
    go_wp2_with fail
    go_ret2
    exact ⟨rfl, hb1⟩
  · rw [if_neg hq]
    have hd : decide (q3 ≠ 0) = true := by simp [hq]
    rw [hd]
    have hqb : (q3 == 0) = false := by rw [beq_eq_false_iff_ne]; exact hq
    clear hq hd
    go_enter Tryz.func167, Tryz.ntmps167
    go_wp2_with fail
    refine (hO _).mono ?_
    rintro e w1 ⟨rfl, b1⟩
    go_wp2_with (refine wpList_new_kd rfl 220 _ _ rfl w1 _ _ rfl rfl rfl (by kernel_rfl) rfl ?_)
    have hW1 := Whole.new w1 220 #[bv ty, .string nm, bv mk, .int .i64 lo, .int .i64 hi, .int .i64 un, .int .i64 ki]
    have hb1 : Below w.heap.size w (w1.alloc (.cells #[bv ty, .string nm, bv mk, .int .i64 lo, .int .i64 hi, .int .i64 un, .int .i64 ki] 220)) := b1.alloc b1.size _
    generalize w1.alloc (.cells #[bv ty, .string nm, bv mk, .int .i64 lo, .int .i64 hi, .int .i64 un, .int .i64 ki] 220) = w2 at *
    have c6 : w2.cell? ⟨w1.heap.size, 6, none⟩ = some (.int .i64 ki) := by rw [hW1.cell]; rfl
    go_wp2_with fail
    refine (hI _).mono ?_
    rintro e w3 ⟨rfl, rfl⟩
    go_wp2_with fail
    go_ret2
    exact ⟨rfl, hb1⟩
end Go.Proofs.YteknmgmdmjmnmaaGreatDoor





namespace Go.Proofs.YteknmgmdmjmnmaaGreatDoor
open Go.RowKit

/-- an error of a code at an offset, or none -/
theorem Whole.kd7 {W : World} {g : Nat} {t : TypeId} {a b c d e f h : Value} (hW : Whole W g t #[a, b, c, d, e, f, h]) : W.cell? ⟨g, 0, none⟩ = some a ∧ W.cell? ⟨g, 1, none⟩ = some b ∧ W.cell? ⟨g, 2, none⟩ = some c ∧ W.cell? ⟨g, 3, none⟩ = some d ∧ W.cell? ⟨g, 4, none⟩ = some e ∧ W.cell? ⟨g, 5, none⟩ = some f ∧ W.cell? ⟨g, 6, none⟩ = some h := by
  refine ⟨?_, ?_, ?_, ?_, ?_, ?_, ?_⟩ <;> (rw [hW.cell]; rfl)
def mskB (n m : Nat) : Bool := n &&& (255 - m) != 0
theorem andNot_all : ∀ m ∈ ([0, 1, 15] : List Nat), ∀ n : Nat, n < 256 → (bits BinOp.andNot IntKind.u8 (n : Int) (m : Int) != 0) = mskB n m := by decide +kernel
theorem and_all : ∀ m ∈ ([0, 1, 15] : List Nat), ∀ n : Nat, n < 256 → (bits BinOp.and IntKind.i64 (n : Int) (255 - (m : Int)) != 0) = mskB n m := by decide +kernel
theorem ms_cases {t : UInt8} (h : kn t = true) : (kdOf t).ms.toNat ∈ ([0, 1, 15] : List Nat) := by
  rcases (kT_all _ (kdOf_mem h).1).2.2.2.2.1 with h | h | h <;> (rw [h]; decide)
def flB (x : Ck) : Bool := kn x.t && mskB x.fl.toNat (kdOf x.t).ms.toNat
def errV (b : Bool) (c a : Int) : Value := if b then faultV c a else .nilIface
set_option maxHeartbeats 1000000 in
theorem checkFlags_any (x : Ck) (A : Option Addr) (c : Nat) (K : Option Addr) (k : Nat) (w : World) :
    Calls Tryz.prog 125 #[ckV x A c K k] w fun e w' => e = .returned (errV (flB x) 6 1) ∧ Below w.heap.size w w' := by
  have hO := kof12 x.t
  have b0 : Below w.heap.size w (w.alloc (.cells (ckCells x A c K k) 62)) := (Below.refl _ w).alloc (Nat.le_refl _) _
  have x0 := CkBox.new w x A c K k
  have HN := New_any 6 1
  unfold flB
  have hM := fun h : kn x.t = true => andNot_all _ (ms_cases h) x.fl.toNat x.fl.toNat_lt
  generalize kdOf x.t = f at *
  obtain ⟨ty, nm, mk, lo, hi, un, ki⟩ := f
  unfold Kd.val at hO
  simp only [] at hO hM ⊢
  cases hkn : kn x.t with
  | false =>
    rw [hkn] at hO
    obtain ⟨q0, q1, q2, q3⟩ := x0.cs
    go_enter Tryz.func125, Tryz.ntmps125
    go_wp2_with fail
    generalize w.alloc (.cells (ckCells x A c K k) 62) = w0 at *
    refine (hO _).mono ?_
    rintro e w1 ⟨rfl, b1⟩
    go_wp2_with (refine wpList_new_kd rfl 220 _ _ rfl w1 _ _ rfl rfl rfl (by kernel_rfl) rfl ?_)
    have hb1 : Below w.heap.size w (w1.alloc (.cells #[bv ty, .string nm, bv mk, .int .i64 lo, .int .i64 hi, .int .i64 un, .int .i64 ki] 220)) := (b0.trans (b1.mono b0.size)).alloc (b0.trans (b1.mono b0.size)).size _
    go_wp2_with fail
    go_ret
    exact ⟨rfl, hb1⟩
  | true =>
    rw [hkn] at hO
    rw [← hM hkn, Bool.true_and]
    obtain ⟨q0, q1, q2, q3⟩ := x0.cs
    clear hM hkn
    go_enter Tryz.func125, Tryz.ntmps125
    go_wp2_with fail
    generalize w.alloc (.cells (ckCells x A c K k) 62) = w0 at *
    refine (hO _).mono ?_
    rintro e w1 ⟨rfl, b1⟩
    have hW1 := Whole.new w1 220 #[bv ty, .string nm, bv mk, .int .i64 lo, .int .i64 hi, .int .i64 un, .int .i64 ki]
    have b2 := b1.alloc b1.size (.cells #[bv ty, .string nm, bv mk, .int .i64 lo, .int .i64 hi, .int .i64 un, .int .i64 ki] 220)
    have hb1 := b0.trans (b2.mono b0.size)
    have x1 := x0.below b2
    have c2 : (w1.alloc (.cells #[bv ty, .string nm, bv mk, .int .i64 lo, .int .i64 hi, .int .i64 un, .int .i64 ki] 220)).cell? ⟨w1.heap.size, 2, none⟩ = some (bv mk) := by rw [hW1.cell]; rfl
    clear q0 q1 q2 q3
    obtain ⟨q0, q1, q2, q3⟩ := x1.cs
    cases hz : (bits BinOp.andNot IntKind.u8 (x.fl.toNat : Int) (mk.toNat : Int) != 0) with
    | false =>
      go_wp2_with (refine wpList_new_kd rfl 220 _ _ rfl w1 _ _ rfl rfl rfl (by kernel_rfl) rfl ?_)
      go_ret
      exact ⟨by first | rfl | (rw [hz]; rfl), hb1⟩
    | true =>
      go_wp2_with (first | (refine wpList_new_kd rfl 220 _ _ rfl w1 _ _ rfl rfl rfl (by kernel_rfl) rfl ?_) | (go_at_call 161; refine (HN _).mono ?_; rintro e w3 ⟨rfl, rfl⟩))
      go_ret
      exact ⟨by first | rfl | (rw [hz]; rfl), hb1⟩
def daB (x : Ck) : Bool := kn x.t && !kfitsB (kdOf x.t) (x.d.length : Int)
set_option maxHeartbeats 1000000 in
theorem checkData_any (x : Ck) (A : Option Addr) (c : Nat) (K : Option Addr) (k : Nat) (w : World) :
    Calls Tryz.prog 126 #[ckV x A c K k] w fun e w' => e = .returned (errV (daB x) 7 0) ∧ Below w.heap.size w w' := by
  have hO := kof12 x.t
  have b0 : Below w.heap.size w (w.alloc (.cells (ckCells x A c K k) 62)) := (Below.refl _ w).alloc (Nat.le_refl _) _
  have x0 := CkBox.new w x A c K k
  have HN := New_any 7 0
  have hF := fun h : kn x.t = true => kfits_any _ (kdOf_tame h) (x.d.length : Int)
  unfold daB
  generalize kfitsB (kdOf x.t) (x.d.length : Int) = fb at *
  generalize kdOf x.t = f at *
  obtain ⟨ty, nm, mk, lo, hi, un, ki⟩ := f
  unfold Kd.val at hO hF
  simp only [] at hO hF ⊢
  obtain ⟨q0, q1, q2, q3⟩ := x0.cs
  cases hkn : kn x.t with
  | false =>
    rw [hkn] at hO
    clear hF
    go_enter Tryz.func126, Tryz.ntmps126
    go_wp2_with fail
    generalize w.alloc (.cells (ckCells x A c K k) 62) = w0 at *
    refine (hO _).mono ?_
    rintro e w1 ⟨rfl, b1⟩
    have hb1 : Below w.heap.size w (w1.alloc (.cells #[bv ty, .string nm, bv mk, .int .i64 lo, .int .i64 hi, .int .i64 un, .int .i64 ki] 220)) := (b0.trans (b1.mono b0.size)).alloc (b0.trans (b1.mono b0.size)).size _
    go_wp2_with (refine wpList_new_kd rfl 220 _ _ rfl w1 _ _ rfl rfl rfl (by kernel_rfl) rfl ?_)
    go_ret
    exact ⟨rfl, hb1⟩
  | true =>
    rw [hkn] at hO
    have hF2 := hF hkn
    clear hkn hF
    go_enter Tryz.func126, Tryz.ntmps126
    go_wp2_with fail
    generalize w.alloc (.cells (ckCells x A c K k) 62) = w0 at *
    refine (hO _).mono ?_
    rintro e w1 ⟨rfl, b1⟩
    have hW1 := Whole.new w1 220 #[bv ty, .string nm, bv mk, .int .i64 lo, .int .i64 hi, .int .i64 un, .int .i64 ki]
    have b2 := b1.alloc b1.size (.cells #[bv ty, .string nm, bv mk, .int .i64 lo, .int .i64 hi, .int .i64 un, .int .i64 ki] 220)
    have hb1 := b0.trans (b2.mono b0.size)
    have x1 := x0.below b2
    clear q0 q1 q2 q3
    obtain ⟨q0, q1, q2, q3⟩ := x1.cs
    have hF3 := hF2 (w1.alloc (.cells #[bv ty, .string nm, bv mk, .int .i64 lo, .int .i64 hi, .int .i64 un, .int .i64 ki] 220))
    obtain ⟨d0, d1, d2, d3, d4, d5, d6⟩ := hW1.kd7
    cases fb with
    | true =>
      go_wp2_with (first | (refine wpList_new_kd rfl 220 _ _ rfl w1 _ _ rfl rfl rfl (by kernel_rfl) rfl ?_) | (go_at_call 162; refine hF3.mono ?_; rintro e w3 ⟨rfl, b3⟩))
      go_ret
      exact ⟨rfl, hb1.trans (b3.mono hb1.size)⟩
    | false =>
      go_wp2_with (first | (refine wpList_new_kd rfl 220 _ _ rfl w1 _ _ rfl rfl rfl (by kernel_rfl) rfl ?_) | (go_at_call 162; refine hF3.mono ?_; rintro e w3 ⟨rfl, b3⟩) | (go_at_call 161; refine (HN _).mono ?_; rintro e w4 ⟨rfl, rfl⟩))
      go_ret
      exact ⟨rfl, hb1.trans (b3.mono hb1.size)⟩
end Go.Proofs.YteknmgmdmjmnmaaGreatDoor





namespace Go.Proofs.YteknmgmdmjmnmaaGreatDoor
open Go.RowKit

def csz (x : Ck) : Nat := 4 + x.d.length + sizes (lens x.ks)
theorem sizes_leC : ∀ (l : List Nat) (m : Nat), (∀ x ∈ l, x ≤ m) → sizes l ≤ l.length * (m + 3)
  | l, m, h => by
    have hk : ∀ k, k ≤ l.length → sizes (l.take k) ≤ k * (m + 3) := by
      intro k
      induction k with
      | zero => intro _; simp [sizes]
      | succ k ih =>
        intro hk
        have h1 := ih (by omega)
        rw [sizes_take (List.getElem?_eq_getElem (by omega : k < l.length))]
        have h2 := h l[k] (List.getElem_mem _)
        have h3 : up (sizes (l.take k)) ≤ sizes (l.take k) + 3 := by unfold up gap; omega
        rw [Nat.add_mul]
        omega
    have := hk l.length (Nat.le_refl _)
    rwa [List.take_length] at this
theorem fine_sizes {x : Ck} (h : CkFine x) : sizes (lens x.ks) ≤ 1000000000 := by
  have h1 := sizes_leC (lens x.ks) 800004 (fun y hy => by
    rw [lens_map] at hy
    obtain ⟨n, hn, rfl⟩ := List.mem_map.1 hy
    have := (h.each n hn).vl
    omega)
  rw [lens_len] at h1
  have h2 := Nat.mul_le_mul_right 800007 h.ks
  omega
set_option maxRecDepth 100000 in
set_option maxHeartbeats 1000000 in
theorem csize_any (x : Ck) (hf : CkFine x) (A : Option Addr) (c : Nat) (K : Option Addr) (k : Nat) (w : World) (h : Chunk w w.heap.size A c K k x) :
    Calls Tryz.prog 168 #[ckV x A c K k] w fun e w' => e = .returned (.int .i64 ((csz x : Nat) : Int)) ∧ Below w.heap.size w w' := by
  have b0 : Below w.heap.size w (w.alloc (.cells (ckCells x A c K k) 62)) := (Below.refl _ w).alloc (Nat.le_refl _) _
  have x0 := CkBox.new w x A c K k
  have h0 := h.on b0
  have hsz := fine_sizes hf
  have hd := hf.d
  unfold csz
  generalize hL : w.alloc (.cells (ckCells x A c K k) 62) = w0 at *
  have HS := Lib.hid (fun (W : World) (hW : Below w0.heap.size w0 W) => nsize_any x.ks K k W (h0.kids.on hW) hf.ks hf.each)
  have KS : Hid (∀ W, Below w0.heap.size w0 W → W.cell? ⟨w.heap.size, 0, none⟩ = some (bv x.t) ∧ W.cell? ⟨w.heap.size, 1, none⟩ = some (bv x.fl) ∧ W.cell? ⟨w.heap.size, 2, none⟩ = some (.slice A x.d.length c) ∧ W.cell? ⟨w.heap.size, 3, none⟩ = some (.slice K x.ks.length k)) := fun W hW => (x0.below hW).cs
  generalize sizes (lens x.ks) = z at *
  clear h h0 hf x0
  subst hL
  go_enter Tryz.func168, Tryz.ntmps168
  go_wp2_with fail
  generalize w.alloc (.cells (ckCells x A c K k) 62) = w0 at *
  go_region_held3 (fun W => W.cell? ⟨w.heap.size, 0, none⟩ = some (bv x.t) ∧ W.cell? ⟨w.heap.size, 1, none⟩ = some (bv x.fl) ∧ W.cell? ⟨w.heap.size, 2, none⟩ = some (.slice A x.d.length c) ∧ W.cell? ⟨w.heap.size, 3, none⟩ = some (.slice K x.ks.length k))
    (first | exact KS.out _ (below_drew (Below.refl _ _)) | exact KS.out _ b1 | fail)
    (first
    | (go_at_call 151; (with_reducible refine (HS.out _ (below_drew (Below.refl _ _))).mono ?_); rintro e w1 ⟨rfl, b1'⟩; have b1 : Below w0.heap.size w0 w1 := below_undrew b1')
    | fail)
  go_wp2_with fail
  go_ret
  refine ⟨?_, b0.trans (b1.mono b0.size)⟩
  have e1 : IntKind.i64.wrap (4 + (x.d.length : Int)) = 4 + (x.d.length : Int) := by unfold IntKind.wrap IntKind.bits; simp; omega
  have e2 : IntKind.i64.wrap (4 + (x.d.length : Int) + (z : Int)) = ((4 + x.d.length + z : Nat) : Int) := by unfold IntKind.wrap IntKind.bits; simp; omega
  show Ending.returned (.int .i64 (IntKind.i64.wrap (IntKind.i64.wrap (4 + (x.d.length : Int)) + (z : Int)))) = _
  rw [e1, e2]
set_option maxHeartbeats 1000000 in
theorem checkSize_any (x : Ck) (hf : CkFine x) (A : Option Addr) (c : Nat) (K : Option Addr) (k : Nat) (w : World) (h : Chunk w w.heap.size A c K k x) :
    Calls Tryz.prog 131 #[ckV x A c K k] w fun e w' => e = .returned (if 65535 < csz x then codeV 4 else .nilIface) ∧ Below w.heap.size w w' := by
  have b0 : Below w.heap.size w (w.alloc (.cells (ckCells x A c K k) 62)) := (Below.refl _ w).alloc (Nat.le_refl _) _
  have x0 := CkBox.new w x A c K k
  have hS := csize_any x hf A c K k _ (h.on b0)
  obtain ⟨q0, q1, q2, q3⟩ := x0.cs
  generalize csz x = z at *
  unfold codeV
  by_cases hz : 65535 < z
  · rw [if_pos hz]
    have hz' : (65535 : Int) < (z : Int) := by omega
    clear hz
    go_enter Tryz.func131, Tryz.ntmps131
    go_wp2_with fail
    generalize w.alloc (.cells (ckCells x A c K k) 62) = w0 at *
    refine hS.mono ?_
    rintro e w1 ⟨rfl, b1⟩
    go_wp2_with fail
    go_ret
    exact ⟨rfl, b0.trans (b1.mono b0.size)⟩
  · rw [if_neg hz]
    have hz' : ¬ (65535 : Int) < (z : Int) := by omega
    clear hz
    go_enter Tryz.func131, Tryz.ntmps131
    go_wp2_with fail
    generalize w.alloc (.cells (ckCells x A c K k) 62) = w0 at *
    refine hS.mono ?_
    rintro e w1 ⟨rfl, b1⟩
    go_wp2_with fail
    go_ret
    exact ⟨rfl, b0.trans (b1.mono b0.size)⟩
set_option maxRecDepth 100000 in
set_option maxHeartbeats 1000000 in
theorem checkInside_any (x : Ck) (hf : CkFine x) (A : Option Addr) (c : Nat) (K : Option Addr) (k : Nat) (w : World) (h : Chunk w w.heap.size A c K k x) :
    Calls Tryz.prog 130 #[ckV x A c K k] w fun e w' => e = .returned (codeE (chkL (kc x.t) x.ks)) ∧ Below w.heap.size w w' := by
  have b0 : Below w.heap.size w (w.alloc (.cells (ckCells x A c K k) 62)) := (Below.refl _ w).alloc (Nat.le_refl _) _
  have x0 := CkBox.new w x A c K k
  have hI := cinside_any x.t
  have h0 := h.on b0
  have HF := Lib.hid hf.each
  have HCC : Hid (chkL (kc x.t) x.ks = fst0 (x.ks.map (chk 4 (kc x.t)))) := rfl
  have hkl := hf.ks
  obtain ⟨q0, q1, q2, q3⟩ := x0.cs
  generalize kc x.t = cl at *
  generalize kin x.t = kb at *
  generalize hcode : chkL cl x.ks = code at *
  clear hcode hf h
  go_enter Tryz.func130, Tryz.ntmps130
  go_wp2_with fail
  generalize w.alloc (.cells (ckCells x A c K k) 62) = w0 at *
  refine (hI _).mono ?_
  rintro e w1 ⟨rfl, b1⟩
  have x1 := x0.below b1
  have h1 := h0.kids.on b1
  have B1 := b0.trans (b1.mono b0.size)
  clear q0 q1 q2 q3 h0
  have q3 := x1.c3
  go_wp2_with fail
  go_loopw [17] (fun i wr => ∃ k : Nat, k ≤ x.ks.length ∧ i = .int .i64 k ∧ Hid (∀ (j y : Nat), j < k → (x.ks.map (chk 4 cl))[j]? = some y → y = 0) ∧ Below w1.heap.size w1 wr) (fun i _ => x.ks.length - (intOf i).toNat)
  case atStart => exact ⟨0, Nat.zero_le _, rfl, fun j y hj _ => by omega, Below.refl _ _⟩
  case round =>
    obtain ⟨k', hk, rfl, hz, hbel⟩ := hrel
    by_cases hlt : k' < x.ks.length
    · obtain ⟨ad, A', c', K', kk', m, rfl, hb, hm, hc0, hc1, hc2, hM⟩ := (h1.bel hbel).at_ hlt
      have hb0' : Below wr.heap.size wr (wr.alloc (.cells #[hv m.t, .slice A' m.v.length c', .slice K' m.ks.length kk'] 51)) := (Below.refl _ _).alloc (Nat.le_refl _) _
      have hS := ncheck_any cl m A' c' K' kk' _ ((hM.more hbel.size).on hb0') (HF.out m (List.mem_of_getElem? hm.out))
      have HX : Hid ((x.ks.map (chk 4 cl))[k']? = some (chk 4 cl m)) := by rw [Hid, List.getElem?_map, hm.out]; rfl
      generalize chk 4 cl m = y at *
      unfold ndV at hS
      by_cases hx : y = 0
      · have HZ : Hid (∀ (j y : Nat), j < k' + 1 → (x.ks.map (chk 4 cl))[j]? = some y → y = 0) := fun j y hj hy => by
          by_cases hjk : j = k'
          · subst hjk
            rw [HX.out] at hy
            cases hy
            exact hx
          · exact hz.out j y (by omega) hy
        subst hx
        have hS' := hS.mono (R' := fun e w' => e = .returned .nilIface ∧ Below wr.heap.size wr w') (fun e w' h => ⟨h.1, hb0'.trans (h.2.mono (by simp))⟩)
        clear hS
        go_wp2_with fail
        refine hS'.mono ?_
        rintro e w6 ⟨rfl, b6⟩
        go_wp2_with fail
        go_roundw
        case rel => exact ⟨k' + 1, by omega, by go_num, HZ, hbel.trans (b6.mono hbel.size)⟩
        case measure => simp [intOf]; omega
      · have hxc : code = y := by rw [HCC.out, fst0_at HX.out hx hz.out]
        have HR := Lib.hid (show Ending.returned (codeV y) = .returned (codeE code) by rw [hxc]; unfold codeE; rw [if_neg hx])
        have hS' := hS.mono (R' := fun e w' => e = .returned (codeV y) ∧ Below wr.heap.size wr w') (fun e w' h => ⟨by have := h.1; unfold codeE at this; rwa [if_neg hx] at this, hb0'.trans (h.2.mono (by simp))⟩)
        clear hS hx hxc
        unfold codeV at hS' HR
        go_wp2_with fail
        refine hS'.mono ?_
        rintro e w6 ⟨rfl, b6⟩
        go_wp2_with fail
        go_ret
        exact ⟨HR.out, B1.trans ((hbel.trans (b6.mono hbel.size)).mono B1.size)⟩
    · obtain rfl : k' = x.ks.length := by omega
      have hcc := HCC.out
      rw [fst0_none (by intro j y hj hy; exact hz.out j y (by simpa using hj) hy)] at hcc
      have HR := Lib.hid (show Ending.returned .nilIface = .returned (codeE code) by rw [hcc]; rfl)
      clear hcc
      go_wp2_with fail
      go_ret
      exact ⟨HR.out, B1.trans (hbel.mono B1.size)⟩
end Go.Proofs.YteknmgmdmjmnmaaGreatDoor



namespace Go.Proofs.YteknmgmdmjmnmaaGreatDoor
open Go.RowKit

set_option maxHeartbeats 1000000 in
/-- the library's Index, for whatever numbers -/
theorem sindex_any (A : Option Addr) (c : Nat) (l : List UInt16) (x : UInt16) (w : World) (h : Lies w w.heap.size A (l.map hv)) (hl : l.length ≤ 1000) :
    Calls Tryz.prog 196 #[.slice A l.length c, hv x] w fun e w' => (∃ i : Int, e = .returned (.int .i64 i) ∧ (0 ≤ i ↔ x ∈ l)) ∧ w = w' := by
  go_enter Tryz.func196, Tryz.ntmps196
  go_wp2_with fail
  go_loop [8] (fun i => ∃ k : Nat, k ≤ l.length ∧ i = .int .i64 k ∧ Hid (∀ (j : Nat) (y : UInt16), j < k → l[j]? = some y → y ≠ x)) (fun i => l.length - (intOf i).toNat)
  case atStart => exact ⟨0, Nat.zero_le _, rfl, fun j y hj _ => by omega⟩
  case round =>
    obtain ⟨k, hk, rfl, hno⟩ := hrel
    by_cases hlt : k < l.length
    · obtain ⟨y, hy⟩ : ∃ y, Hid (l[k]? = some y) := ⟨_, List.getElem?_eq_getElem hlt⟩
      obtain ⟨ad, rfl, hb, hc⟩ := h (fun e => by rw [List.map_eq_nil_iff] at e; rw [e] at hlt; simp at hlt)
      have hcell := hc k (hv y) (by rw [List.getElem?_map, hy.out]; rfl)
      clear hc
      have hk0 : (0 : Int) ≤ (k : Int) := by omega
      have hkl : (k : Int) < (l.length : Int) := by omega
      by_cases hxy : x = y
      · subst hxy
        have HM := Lib.hid (List.mem_of_getElem? hy.out)
        go_wp2_with fail
        go_ret
        exact ⟨⟨(k : Int), rfl, ⟨fun _ => HM.out, fun _ => hk0⟩⟩, rfl⟩
      · have hne : ((x.toNat : Int) == (y.toNat : Int)) = false := by
          rw [beq_eq_false_iff_ne]
          exact fun h => hxy (UInt16.toNat_inj.1 (by omega))
        have HN : Hid (∀ (j : Nat) (z : UInt16), j < k + 1 → l[j]? = some z → z ≠ x) := fun j z hj hz => by
          by_cases hjk : j = k
          · subst hjk
            rw [hy.out] at hz
            cases hz
            exact fun e => hxy e.symm
          · exact hno.out j z (by omega) hz
        clear hxy
        go_wp2_with fail
        go_round
        case rel => exact ⟨k + 1, by omega, by go_num, HN⟩
        case measure => simp [intOf]; omega
    · obtain rfl : k = l.length := by omega
      have HX : Hid (¬ x ∈ l) := fun hx => by
        obtain ⟨j, hj, e⟩ := List.getElem_of_mem hx
        exact hno.out j x hj (by rw [List.getElem?_eq_getElem hj, e]) rfl
      go_wp2_with fail
      go_ret
      exact ⟨⟨-1, rfl, ⟨fun h => absurd h (by omega), fun h => absurd h HX.out⟩⟩, rfl⟩
theorem scontains_any (A : Option Addr) (c : Nat) (l : List UInt16) (x : UInt16) (w : World) (h : Lies w w.heap.size A (l.map hv)) (hl : l.length ≤ 1000) :
    Calls Tryz.prog 165 #[.slice A l.length c, hv x] w fun e w' => e = .returned (.bool (decide (x ∈ l))) ∧ w = w' := by
  have hI := sindex_any A c l x w h hl
  go_enter Tryz.func165, Tryz.ntmps165
  go_wp2_with fail
  refine hI.mono ?_
  rintro e w1 ⟨⟨i, rfl, hd⟩, rfl⟩
  have HD : Hid (decide (0 ≤ i) = decide (x ∈ l)) := by
    unfold Hid
    by_cases hi : 0 ≤ i
    · rw [decide_eq_true hi, decide_eq_true (hd.1 hi)]
    · rw [decide_eq_false hi, decide_eq_false (fun h => hi (hd.2 h))]
  clear hd
  go_wp2_with fail
  go_ret
  exact ⟨ret_bool HD.out, rfl⟩
/-- whether the first node has one of some types -/
def begB (l : List UInt16) (ks : List Nd) : Bool := match ks with | [] => false | n :: _ => decide (n.t ∈ l)
theorem begins_any (l : List UInt16) (hl : l.length ≤ 1000) (x : Ck) (hx : 0 < x.ks.length) (A : Option Addr) (c : Nat) (K : Option Addr) (k : Nat) (gx : Nat) (B : Option Addr) (d : Nat) (w : World) (hb : CkBox w gx x A c K k) (hN : Nodes w w.heap.size K x.ks) (h : Lies w w.heap.size B (l.map hv)) :
    Calls Tryz.prog 164 #[.slice B l.length d, .pointer (some ⟨gx, 0, none⟩)] w fun e w' => e = .returned (.bool (begB l x.ks)) ∧ w = w' := by
  obtain ⟨ad, A', c', K', k', n, hK, hb', hn, h0, h1, h2, hM⟩ := hN.at_ hx
  have hC := scontains_any B d l n.t w h hl
  have HB := Lib.hid (show begB l x.ks = decide (n.t ∈ l) by
    have := hn.out
    cases hks : x.ks with
    | nil => rw [hks] at hx; simp at hx
    | cons m ms => rw [hks] at this; simp at this; subst this; rfl)
  obtain ⟨q0, q1, q2, q3⟩ := hb.cs
  rw [hK] at q3
  have h0' : w.cell? ad = some (hv n.t) := by simpa [Addr.add] using h0
  have hx' : (0 : Int) < (x.ks.length : Int) := by omega
  clear h0 h1 h2 hM hn hN h
  go_enter Tryz.func164, Tryz.ntmps164
  go_wp2_with fail
  refine hC.mono ?_
  rintro e w1 ⟨rfl, rfl⟩
  go_wp2_with fail
  go_ret
  exact ⟨ret_bool HB.out.symm, rfl⟩
end Go.Proofs.YteknmgmdmjmnmaaGreatDoor


