/- Layer 12: a chunk as data, how it lies in memory, its form. No condition of its own. -/
/- Layer 12: the checks of flags, data and values; Size. They write nothing that was there. -/
/- Layer 12: Size, and the checks of sizes and of what is inside. They write nothing that was there. -/
/- Layer 12: the check of the kids. It writes nothing that was there. -/
/- Layer 12: numbers of two bytes; the groups of an i-forward-tsn chunk; the checks of counts and values. They write nothing that was there. -/
import Derived.Test.YtmohbkniekeafaaGreatDoorTK
import Derived.Test.YtmohbkniekeafaaGreatDoorTNA
import Derived.Deep.RegionHeld3
import Derived.Test.YtmohbkniekeafaaGreatDoorTE
import Derived.Test.YtmohbkniekeafaaGreatDoorTNF
import Derived.Test.YtmohbkniekeafaaGreatDoorTNodeRAC
import Derived.Test.YtmohbkniekeafaaGreatDoorTW
import Derived.BigGuard
import Derived.WalkMore




namespace Go.Proofs.YtmohbkniekeafaaGreatDoor
open Go.RowKit

structure Ck where
  t : UInt8
  fl : UInt8
  d : List UInt8
  ks : List Nd
/-- small enough to be walked -/
structure CkFine (x : Ck) : Prop where
  d : x.d.length ≤ 1000000
  ks : x.ks.length ≤ 1000
  each : ∀ k ∈ x.ks, Fine k
abbrev ckV (x : Ck) (A : Option Addr) (c : Nat) (K : Option Addr) (k : Nat) : Value := .agg #[bv x.t, bv x.fl, .slice A x.d.length c, .slice K x.ks.length k]
/-- what the four fields of a chunk read as -/
structure Chunk (w : World) (B : Nat) (A : Option Addr) (c : Nat) (K : Option Addr) (k : Nat) (x : Ck) : Prop where
  data : Lies w B A (x.d.map bv)
  dc : x.d.length ≤ c
  dm : c ≤ maxLen
  kids : Nodes w B K x.ks
  kc : x.ks.length ≤ k
  km : k ≤ maxLen
section
variable {w w' : World} {B B' : Nat} {A K : Option Addr} {c k : Nat} {x : Ck}
theorem Chunk.keep (h : Chunk w B A c K k x) (hk : ∀ p : Addr, p.block < B → w'.cell? p = w.cell? p) : Chunk w' B A c K k x := ⟨h.data.keep hk, h.dc, h.dm, h.kids.keep hk, h.kc, h.km⟩
theorem Chunk.more (h : Chunk w B A c K k x) (hB : B ≤ B') : Chunk w B' A c K k x := ⟨h.data.more hB, h.dc, h.dm, h.kids.more hB, h.kc, h.km⟩
theorem Chunk.below (h : Chunk w B A c K k x) (hb : Below B w w') : Chunk w' B A c K k x := h.keep fun _ hp => hb.cell hp
theorem Chunk.on (h : Chunk w w.heap.size A c K k x) (hb : Below w.heap.size w w') : Chunk w' w'.heap.size A c K k x := (h.below hb).more hb.size
end
/-- a variable that holds a chunk -/
abbrev ckCells (x : Ck) (A : Option Addr) (c : Nat) (K : Option Addr) (k : Nat) : Array Value := #[bv x.t, bv x.fl, .slice A x.d.length c, .slice K x.ks.length k]
def CkBox (W : World) (g : Nat) (x : Ck) (A : Option Addr) (c : Nat) (K : Option Addr) (k : Nat) : Prop := Whole W g 44 (ckCells x A c K k)
section
variable {W W2 : World} {g : Nat} {x : Ck} {A K : Option Addr} {c k : Nat}
theorem CkBox.c0 (h : CkBox W g x A c K k) : W.cell? ⟨g, 0, none⟩ = some (bv x.t) := by rw [Whole.cell h]; rfl
theorem CkBox.c1 (h : CkBox W g x A c K k) : W.cell? ⟨g, 1, none⟩ = some (bv x.fl) := by rw [Whole.cell h]; rfl
theorem CkBox.c2 (h : CkBox W g x A c K k) : W.cell? ⟨g, 2, none⟩ = some (.slice A x.d.length c) := by rw [Whole.cell h]; rfl
theorem CkBox.c3 (h : CkBox W g x A c K k) : W.cell? ⟨g, 3, none⟩ = some (.slice K x.ks.length k) := by rw [Whole.cell h]; rfl
theorem CkBox.below (h : CkBox W g x A c K k) (hb : Below W.heap.size W W2) : CkBox W2 g x A c K k := Whole.below h hb (Whole.lt h)
theorem CkBox.cs (h : CkBox W g x A c K k) : W.cell? ⟨g, 0, none⟩ = some (bv x.t) ∧ W.cell? ⟨g, 1, none⟩ = some (bv x.fl) ∧ W.cell? ⟨g, 2, none⟩ = some (.slice A x.d.length c) ∧ W.cell? ⟨g, 3, none⟩ = some (.slice K x.ks.length k) := ⟨h.c0, h.c1, h.c2, h.c3⟩
theorem CkBox.new (W : World) (x : Ck) (A : Option Addr) (c : Nat) (K : Option Addr) (k : Nat) : CkBox (W.alloc (.cells (ckCells x A c K k) 44)) W.heap.size x A c K k := Whole.new W _ _
theorem CkBox.lt (h : CkBox W g x A c K k) : g < W.heap.size := Whole.lt h
end

/-! ### the form of a type -/
def zK : Kd := ⟨0, ByteArray.empty, 0, 0, 0, 0, 0⟩
def kdOf (t : UInt8) : Kd := (klook t).getD zK
def kn (t : UInt8) : Bool := (klook t).isSome
theorem kV_of (t : UInt8) : kV (klook t) = .tuple #[(kdOf t).val, .bool (kn t)] := by
  unfold kdOf kn
  cases klook t <;> rfl
theorem kof12 (t : UInt8) (w : World) : Calls Tryz.prog 128 #[bv t] w fun e w' => e = .returned (.tuple #[(kdOf t).val, .bool (kn t)]) ∧ Below w.heap.size w w' := by
  rw [← kV_of]
  exact kof_any t w
theorem kT_all : ∀ f ∈ kT, (0 ≤ f.lo ∧ f.lo ≤ 17) ∧ (0 ≤ f.hi ∧ f.hi ≤ 65531) ∧ (1 ≤ f.un ∧ f.un ≤ 8) ∧ (0 ≤ f.ki ∧ f.ki ≤ 6) ∧ (f.ms = 0 ∨ f.ms = 1 ∨ f.ms = 15) ∧ (f.ki ≠ 0 → f.lo = f.hi) := by decide +kernel
theorem kdOf_mem {t : UInt8} (h : kn t = true) : kdOf t ∈ kT ∧ (kdOf t).ty = t := by
  unfold kn at h
  unfold kdOf
  cases hl : klook t with
  | none => rw [hl] at h; cases h
  | some f =>
    unfold klook at hl
    exact ⟨List.mem_of_find?_eq_some hl, by have := List.find?_some hl; simpa using this⟩
theorem kdOf_tame {t : UInt8} (h : kn t = true) : KTame (kdOf t) := by
  obtain ⟨h1, h2, h3, _⟩ := kT_all _ (kdOf_mem h).1
  exact ⟨h1, h2, h3⟩
theorem kdOf_zero {t : UInt8} (h : kn t = false) : kdOf t = zK := by
  unfold kn at h
  unfold kdOf
  cases hl : klook t with
  | none => rfl
  | some f => rw [hl] at h; cases h
theorem kdOf_ki (t : UInt8) : 0 ≤ (kdOf t).ki ∧ (kdOf t).ki ≤ 6 := by
  cases h : kn t with
  | true => exact (kT_all _ (kdOf_mem h).1).2.2.2.1
  | false => rw [kdOf_zero h]; decide
/-- the class inside, and whether there is something inside -/
def kc (t : UInt8) : Int := if (kins (kdOf t).ki).2.2 = 0 then 1 else (kins (kdOf t).ki).1
def kin (t : UInt8) : Bool := decide ((kins (kdOf t).ki).2.2 ≠ 0)
theorem kc_or (t : UInt8) : kc t = 1 ∨ kc t = 2 := by
  unfold kc
  have h := kdOf_ki t
  have h7 : (kdOf t).ki = 0 ∨ (kdOf t).ki = 1 ∨ (kdOf t).ki = 2 ∨ (kdOf t).ki = 3 ∨ (kdOf t).ki = 4 ∨ (kdOf t).ki = 5 ∨ (kdOf t).ki = 6 := by omega
  rcases h7 with h | h | h | h | h | h | h <;> (rw [h]; decide)
set_option maxHeartbeats 1000000 in
theorem cinside_any (t : UInt8) (w : World) : Calls Tryz.prog 135 #[bv t] w fun e w' => e = .returned (.tuple #[.int .i64 (kc t), .bool (kin t)]) ∧ Below w.heap.size w w' := by
  have hO := kof12 t
  have hI := kinside_any (kdOf t).ki
  unfold kc kin
  generalize kdOf t = f at *
  generalize kn t = kb at *
  obtain ⟨ty, nm, mk, lo, hi, un, ki⟩ := f
  unfold Kd.val at hO
  simp only [] at hO hI ⊢
  generalize kins ki = q at *
  obtain ⟨q1, q2, q3⟩ := q
  simp only [] at hI ⊢
  by_cases hq : q3 = 0
  · rw [if_pos hq]
    have hd : decide (q3 ≠ 0) = false := by simp [hq]
    rw [hd]
    subst hq
    go_enter Tryz.func135, Tryz.ntmps135
    go_wp2_with fail
    refine (hO _).mono ?_
    rintro e w1 ⟨rfl, b1⟩
    go_wp2_with (refine wpList_new_kd rfl 181 _ _ rfl w1 _ _ rfl rfl rfl (by kernel_rfl) rfl ?_)
    have hW1 := Whole.new w1 181 #[bv ty, .string nm, bv mk, .int .i64 lo, .int .i64 hi, .int .i64 un, .int .i64 ki]
    have hb1 : Below w.heap.size w (w1.alloc (.cells #[bv ty, .string nm, bv mk, .int .i64 lo, .int .i64 hi, .int .i64 un, .int .i64 ki] 181)) := b1.alloc b1.size _
    generalize w1.alloc (.cells #[bv ty, .string nm, bv mk, .int .i64 lo, .int .i64 hi, .int .i64 un, .int .i64 ki] 181) = w2 at *
    have c6 : w2.cell? ⟨w1.heap.size, 6, none⟩ = some (.int .i64 ki) := by rw [hW1.cell]; rfl
    go_wp2_with fail
    refine (hI _).mono ?_
    rintro e w3 ⟨rfl, rfl⟩
    go_wp2_with fail
    go_ret2
    exact ⟨rfl, hb1⟩
  · rw [if_neg hq]
    have hd : decide (q3 ≠ 0) = true := by simp [hq]
    rw [hd]
    have hqb : (q3 == 0) = false := by rw [beq_eq_false_iff_ne]; exact hq
    clear hq hd
    go_enter Tryz.func135, Tryz.ntmps135
    go_wp2_with fail
    refine (hO _).mono ?_
    rintro e w1 ⟨rfl, b1⟩
    go_wp2_with (refine wpList_new_kd rfl 181 _ _ rfl w1 _ _ rfl rfl rfl (by kernel_rfl) rfl ?_)
    have hW1 := Whole.new w1 181 #[bv ty, .string nm, bv mk, .int .i64 lo, .int .i64 hi, .int .i64 un, .int .i64 ki]
    have hb1 : Below w.heap.size w (w1.alloc (.cells #[bv ty, .string nm, bv mk, .int .i64 lo, .int .i64 hi, .int .i64 un, .int .i64 ki] 181)) := b1.alloc b1.size _
    generalize w1.alloc (.cells #[bv ty, .string nm, bv mk, .int .i64 lo, .int .i64 hi, .int .i64 un, .int .i64 ki] 181) = w2 at *
    have c6 : w2.cell? ⟨w1.heap.size, 6, none⟩ = some (.int .i64 ki) := by rw [hW1.cell]; rfl
    go_wp2_with fail
    refine (hI _).mono ?_
    rintro e w3 ⟨rfl, rfl⟩
    go_wp2_with fail
    go_ret2
    exact ⟨rfl, hb1⟩
end Go.Proofs.YtmohbkniekeafaaGreatDoor





namespace Go.Proofs.YtmohbkniekeafaaGreatDoor
open Go.RowKit

/-- an error of a code at an offset, or none -/
theorem Whole.kd7 {W : World} {g : Nat} {t : TypeId} {a b c d e f h : Value} (hW : Whole W g t #[a, b, c, d, e, f, h]) : W.cell? ⟨g, 0, none⟩ = some a ∧ W.cell? ⟨g, 1, none⟩ = some b ∧ W.cell? ⟨g, 2, none⟩ = some c ∧ W.cell? ⟨g, 3, none⟩ = some d ∧ W.cell? ⟨g, 4, none⟩ = some e ∧ W.cell? ⟨g, 5, none⟩ = some f ∧ W.cell? ⟨g, 6, none⟩ = some h := by
  refine ⟨?_, ?_, ?_, ?_, ?_, ?_, ?_⟩ <;> (rw [hW.cell]; rfl)
def mskB (n m : Nat) : Bool := n &&& (255 - m) != 0
theorem andNot_all : ∀ m ∈ ([0, 1, 15] : List Nat), ∀ n : Nat, n < 256 → (bits BinOp.andNot IntKind.u8 (n : Int) (m : Int) != 0) = mskB n m := by decide +kernel
theorem and_all : ∀ m ∈ ([0, 1, 15] : List Nat), ∀ n : Nat, n < 256 → (bits BinOp.and IntKind.i64 (n : Int) (255 - (m : Int)) != 0) = mskB n m := by decide +kernel
theorem ms_cases {t : UInt8} (h : kn t = true) : (kdOf t).ms.toNat ∈ ([0, 1, 15] : List Nat) := by
  rcases (kT_all _ (kdOf_mem h).1).2.2.2.2.1 with h | h | h <;> (rw [h]; decide)
def flB (x : Ck) : Bool := kn x.t && mskB x.fl.toNat (kdOf x.t).ms.toNat
def errV (b : Bool) (c a : Int) : Value := if b then faultV c a else .nilIface
set_option maxHeartbeats 1000000 in
theorem checkFlags_any (x : Ck) (A : Option Addr) (c : Nat) (K : Option Addr) (k : Nat) (w : World) :
    Calls Tryz.prog 79 #[ckV x A c K k] w fun e w' => e = .returned (errV (flB x) 6 1) ∧ Below w.heap.size w w' := by
  have hO := kof12 x.t
  have b0 : Below w.heap.size w (w.alloc (.cells (ckCells x A c K k) 44)) := (Below.refl _ w).alloc (Nat.le_refl _) _
  have x0 := CkBox.new w x A c K k
  have HN := New_any 6 1
  unfold flB
  have hM := fun h : kn x.t = true => andNot_all _ (ms_cases h) x.fl.toNat x.fl.toNat_lt
  generalize kdOf x.t = f at *
  obtain ⟨ty, nm, mk, lo, hi, un, ki⟩ := f
  unfold Kd.val at hO
  simp only [] at hO hM ⊢
  cases hkn : kn x.t with
  | false =>
    rw [hkn] at hO
    obtain ⟨q0, q1, q2, q3⟩ := x0.cs
    go_enter Tryz.func79, Tryz.ntmps79
    go_wp2_with fail
    generalize w.alloc (.cells (ckCells x A c K k) 44) = w0 at *
    refine (hO _).mono ?_
    rintro e w1 ⟨rfl, b1⟩
    go_wp2_with (refine wpList_new_kd rfl 181 _ _ rfl w1 _ _ rfl rfl rfl (by kernel_rfl) rfl ?_)
    have hb1 : Below w.heap.size w (w1.alloc (.cells #[bv ty, .string nm, bv mk, .int .i64 lo, .int .i64 hi, .int .i64 un, .int .i64 ki] 181)) := (b0.trans (b1.mono b0.size)).alloc (b0.trans (b1.mono b0.size)).size _
    go_wp2_with fail
    go_ret
    exact ⟨rfl, hb1⟩
  | true =>
    rw [hkn] at hO
    rw [← hM hkn, Bool.true_and]
    obtain ⟨q0, q1, q2, q3⟩ := x0.cs
    clear hM hkn
    go_enter Tryz.func79, Tryz.ntmps79
    go_wp2_with fail
    generalize w.alloc (.cells (ckCells x A c K k) 44) = w0 at *
    refine (hO _).mono ?_
    rintro e w1 ⟨rfl, b1⟩
    have hW1 := Whole.new w1 181 #[bv ty, .string nm, bv mk, .int .i64 lo, .int .i64 hi, .int .i64 un, .int .i64 ki]
    have b2 := b1.alloc b1.size (.cells #[bv ty, .string nm, bv mk, .int .i64 lo, .int .i64 hi, .int .i64 un, .int .i64 ki] 181)
    have hb1 := b0.trans (b2.mono b0.size)
    have x1 := x0.below b2
    have c2 : (w1.alloc (.cells #[bv ty, .string nm, bv mk, .int .i64 lo, .int .i64 hi, .int .i64 un, .int .i64 ki] 181)).cell? ⟨w1.heap.size, 2, none⟩ = some (bv mk) := by rw [hW1.cell]; rfl
    clear q0 q1 q2 q3
    obtain ⟨q0, q1, q2, q3⟩ := x1.cs
    cases hz : (bits BinOp.andNot IntKind.u8 (x.fl.toNat : Int) (mk.toNat : Int) != 0) with
    | false =>
      go_wp2_with (refine wpList_new_kd rfl 181 _ _ rfl w1 _ _ rfl rfl rfl (by kernel_rfl) rfl ?_)
      go_ret
      exact ⟨by first | rfl | (rw [hz]; rfl), hb1⟩
    | true =>
      go_wp2_with (first | (refine wpList_new_kd rfl 181 _ _ rfl w1 _ _ rfl rfl rfl (by kernel_rfl) rfl ?_) | (go_at_call 129; refine (HN _).mono ?_; rintro e w3 ⟨rfl, rfl⟩))
      go_ret
      exact ⟨by first | rfl | (rw [hz]; rfl), hb1⟩
def daB (x : Ck) : Bool := kn x.t && !kfitsB (kdOf x.t) (x.d.length : Int)
set_option maxHeartbeats 1000000 in
theorem checkData_any (x : Ck) (A : Option Addr) (c : Nat) (K : Option Addr) (k : Nat) (w : World) :
    Calls Tryz.prog 80 #[ckV x A c K k] w fun e w' => e = .returned (errV (daB x) 7 0) ∧ Below w.heap.size w w' := by
  have hO := kof12 x.t
  have b0 : Below w.heap.size w (w.alloc (.cells (ckCells x A c K k) 44)) := (Below.refl _ w).alloc (Nat.le_refl _) _
  have x0 := CkBox.new w x A c K k
  have HN := New_any 7 0
  have hF := fun h : kn x.t = true => kfits_any _ (kdOf_tame h) (x.d.length : Int)
  unfold daB
  generalize kfitsB (kdOf x.t) (x.d.length : Int) = fb at *
  generalize kdOf x.t = f at *
  obtain ⟨ty, nm, mk, lo, hi, un, ki⟩ := f
  unfold Kd.val at hO hF
  simp only [] at hO hF ⊢
  obtain ⟨q0, q1, q2, q3⟩ := x0.cs
  cases hkn : kn x.t with
  | false =>
    rw [hkn] at hO
    clear hF
    go_enter Tryz.func80, Tryz.ntmps80
    go_wp2_with fail
    generalize w.alloc (.cells (ckCells x A c K k) 44) = w0 at *
    refine (hO _).mono ?_
    rintro e w1 ⟨rfl, b1⟩
    have hb1 : Below w.heap.size w (w1.alloc (.cells #[bv ty, .string nm, bv mk, .int .i64 lo, .int .i64 hi, .int .i64 un, .int .i64 ki] 181)) := (b0.trans (b1.mono b0.size)).alloc (b0.trans (b1.mono b0.size)).size _
    go_wp2_with (refine wpList_new_kd rfl 181 _ _ rfl w1 _ _ rfl rfl rfl (by kernel_rfl) rfl ?_)
    go_ret
    exact ⟨rfl, hb1⟩
  | true =>
    rw [hkn] at hO
    have hF2 := hF hkn
    clear hkn hF
    go_enter Tryz.func80, Tryz.ntmps80
    go_wp2_with fail
    generalize w.alloc (.cells (ckCells x A c K k) 44) = w0 at *
    refine (hO _).mono ?_
    rintro e w1 ⟨rfl, b1⟩
    have hW1 := Whole.new w1 181 #[bv ty, .string nm, bv mk, .int .i64 lo, .int .i64 hi, .int .i64 un, .int .i64 ki]
    have b2 := b1.alloc b1.size (.cells #[bv ty, .string nm, bv mk, .int .i64 lo, .int .i64 hi, .int .i64 un, .int .i64 ki] 181)
    have hb1 := b0.trans (b2.mono b0.size)
    have x1 := x0.below b2
    clear q0 q1 q2 q3
    obtain ⟨q0, q1, q2, q3⟩ := x1.cs
    have hF3 := hF2 (w1.alloc (.cells #[bv ty, .string nm, bv mk, .int .i64 lo, .int .i64 hi, .int .i64 un, .int .i64 ki] 181))
    obtain ⟨d0, d1, d2, d3, d4, d5, d6⟩ := hW1.kd7
    cases fb with
    | true =>
      go_wp2_with (first | (refine wpList_new_kd rfl 181 _ _ rfl w1 _ _ rfl rfl rfl (by kernel_rfl) rfl ?_) | (go_at_call 130; refine hF3.mono ?_; rintro e w3 ⟨rfl, b3⟩))
      go_ret
      exact ⟨rfl, hb1.trans (b3.mono hb1.size)⟩
    | false =>
      go_wp2_with (first | (refine wpList_new_kd rfl 181 _ _ rfl w1 _ _ rfl rfl rfl (by kernel_rfl) rfl ?_) | (go_at_call 130; refine hF3.mono ?_; rintro e w3 ⟨rfl, b3⟩) | (go_at_call 129; refine (HN _).mono ?_; rintro e w4 ⟨rfl, rfl⟩))
      go_ret
      exact ⟨rfl, hb1.trans (b3.mono hb1.size)⟩
end Go.Proofs.YtmohbkniekeafaaGreatDoor





namespace Go.Proofs.YtmohbkniekeafaaGreatDoor
open Go.RowKit

def csz (x : Ck) : Nat := 4 + x.d.length + sizes (lens x.ks)
theorem sizes_leC : ∀ (l : List Nat) (m : Nat), (∀ x ∈ l, x ≤ m) → sizes l ≤ l.length * (m + 3)
  | l, m, h => by
    have hk : ∀ k, k ≤ l.length → sizes (l.take k) ≤ k * (m + 3) := by
      intro k
      induction k with
      | zero => intro _; simp [sizes]
      | succ k ih =>
        intro hk
        have h1 := ih (by omega)
        rw [sizes_take (List.getElem?_eq_getElem (by omega : k < l.length))]
        have h2 := h l[k] (List.getElem_mem _)
        have h3 : up (sizes (l.take k)) ≤ sizes (l.take k) + 3 := by unfold up gap; omega
        rw [Nat.add_mul]
        omega
    have := hk l.length (Nat.le_refl _)
    rwa [List.take_length] at this
theorem fine_sizes {x : Ck} (h : CkFine x) : sizes (lens x.ks) ≤ 1000000000 := by
  have h1 := sizes_leC (lens x.ks) 800004 (fun y hy => by
    rw [lens_map] at hy
    obtain ⟨n, hn, rfl⟩ := List.mem_map.1 hy
    have := (h.each n hn).vl
    omega)
  rw [lens_len] at h1
  have h2 := Nat.mul_le_mul_right 800007 h.ks
  omega
set_option maxRecDepth 100000 in
set_option maxHeartbeats 1000000 in
theorem csize_any (x : Ck) (hf : CkFine x) (A : Option Addr) (c : Nat) (K : Option Addr) (k : Nat) (w : World) (h : Chunk w w.heap.size A c K k x) :
    Calls Tryz.prog 39 #[ckV x A c K k] w fun e w' => e = .returned (.int .i64 ((csz x : Nat) : Int)) ∧ Below w.heap.size w w' := by
  have b0 : Below w.heap.size w (w.alloc (.cells (ckCells x A c K k) 44)) := (Below.refl _ w).alloc (Nat.le_refl _) _
  have x0 := CkBox.new w x A c K k
  have h0 := h.on b0
  have hsz := fine_sizes hf
  have hd := hf.d
  unfold csz
  generalize hL : w.alloc (.cells (ckCells x A c K k) 44) = w0 at *
  have HS := Lib.hid (fun (W : World) (hW : Below w0.heap.size w0 W) => nsize_any x.ks K k W (h0.kids.on hW) hf.ks hf.each)
  have KS : Hid (∀ W, Below w0.heap.size w0 W → W.cell? ⟨w.heap.size, 0, none⟩ = some (bv x.t) ∧ W.cell? ⟨w.heap.size, 1, none⟩ = some (bv x.fl) ∧ W.cell? ⟨w.heap.size, 2, none⟩ = some (.slice A x.d.length c) ∧ W.cell? ⟨w.heap.size, 3, none⟩ = some (.slice K x.ks.length k)) := fun W hW => (x0.below hW).cs
  generalize sizes (lens x.ks) = z at *
  clear h h0 hf x0
  subst hL
  go_enter Tryz.func39, Tryz.ntmps39
  go_wp2_with fail
  generalize w.alloc (.cells (ckCells x A c K k) 44) = w0 at *
  go_region_held3 (fun W => W.cell? ⟨w.heap.size, 0, none⟩ = some (bv x.t) ∧ W.cell? ⟨w.heap.size, 1, none⟩ = some (bv x.fl) ∧ W.cell? ⟨w.heap.size, 2, none⟩ = some (.slice A x.d.length c) ∧ W.cell? ⟨w.heap.size, 3, none⟩ = some (.slice K x.ks.length k))
    (first | exact KS.out _ (below_drew (Below.refl _ _)) | exact KS.out _ b1 | fail)
    (first
    | (go_at_call 100; (with_reducible refine (HS.out _ (below_drew (Below.refl _ _))).mono ?_); rintro e w1 ⟨rfl, b1'⟩; have b1 : Below w0.heap.size w0 w1 := below_undrew b1')
    | fail)
  go_wp2_with fail
  go_ret
  refine ⟨?_, b0.trans (b1.mono b0.size)⟩
  have e1 : IntKind.i64.wrap (4 + (x.d.length : Int)) = 4 + (x.d.length : Int) := by unfold IntKind.wrap IntKind.bits; simp; omega
  have e2 : IntKind.i64.wrap (4 + (x.d.length : Int) + (z : Int)) = ((4 + x.d.length + z : Nat) : Int) := by unfold IntKind.wrap IntKind.bits; simp; omega
  show Ending.returned (.int .i64 (IntKind.i64.wrap (IntKind.i64.wrap (4 + (x.d.length : Int)) + (z : Int)))) = _
  rw [e1, e2]
set_option maxHeartbeats 1000000 in
theorem checkSize_any (x : Ck) (hf : CkFine x) (A : Option Addr) (c : Nat) (K : Option Addr) (k : Nat) (w : World) (h : Chunk w w.heap.size A c K k x) :
    Calls Tryz.prog 85 #[ckV x A c K k] w fun e w' => e = .returned (if 65535 < csz x then codeV 4 else .nilIface) ∧ Below w.heap.size w w' := by
  have b0 : Below w.heap.size w (w.alloc (.cells (ckCells x A c K k) 44)) := (Below.refl _ w).alloc (Nat.le_refl _) _
  have x0 := CkBox.new w x A c K k
  have hS := csize_any x hf A c K k _ (h.on b0)
  obtain ⟨q0, q1, q2, q3⟩ := x0.cs
  generalize csz x = z at *
  unfold codeV
  by_cases hz : 65535 < z
  · rw [if_pos hz]
    have hz' : (65535 : Int) < (z : Int) := by omega
    clear hz
    go_enter Tryz.func85, Tryz.ntmps85
    go_wp2_with fail
    generalize w.alloc (.cells (ckCells x A c K k) 44) = w0 at *
    refine hS.mono ?_
    rintro e w1 ⟨rfl, b1⟩
    go_wp2_with fail
    go_ret
    exact ⟨rfl, b0.trans (b1.mono b0.size)⟩
  · rw [if_neg hz]
    have hz' : ¬ (65535 : Int) < (z : Int) := by omega
    clear hz
    go_enter Tryz.func85, Tryz.ntmps85
    go_wp2_with fail
    generalize w.alloc (.cells (ckCells x A c K k) 44) = w0 at *
    refine hS.mono ?_
    rintro e w1 ⟨rfl, b1⟩
    go_wp2_with fail
    go_ret
    exact ⟨rfl, b0.trans (b1.mono b0.size)⟩
set_option maxRecDepth 100000 in
set_option maxHeartbeats 1000000 in
theorem checkInside_any (x : Ck) (hf : CkFine x) (A : Option Addr) (c : Nat) (K : Option Addr) (k : Nat) (w : World) (h : Chunk w w.heap.size A c K k x) :
    Calls Tryz.prog 84 #[ckV x A c K k] w fun e w' => e = .returned (codeE (chkL (kc x.t) x.ks)) ∧ Below w.heap.size w w' := by
  have b0 : Below w.heap.size w (w.alloc (.cells (ckCells x A c K k) 44)) := (Below.refl _ w).alloc (Nat.le_refl _) _
  have x0 := CkBox.new w x A c K k
  have hI := cinside_any x.t
  have h0 := h.on b0
  have HF := Lib.hid hf.each
  have HCC : Hid (chkL (kc x.t) x.ks = fst0 (x.ks.map (chk 4 (kc x.t)))) := rfl
  have hkl := hf.ks
  obtain ⟨q0, q1, q2, q3⟩ := x0.cs
  generalize kc x.t = cl at *
  generalize kin x.t = kb at *
  generalize hcode : chkL cl x.ks = code at *
  clear hcode hf h
  go_enter Tryz.func84, Tryz.ntmps84
  go_wp2_with fail
  generalize w.alloc (.cells (ckCells x A c K k) 44) = w0 at *
  refine (hI _).mono ?_
  rintro e w1 ⟨rfl, b1⟩
  have x1 := x0.below b1
  have h1 := h0.kids.on b1
  have B1 := b0.trans (b1.mono b0.size)
  clear q0 q1 q2 q3 h0
  have q3 := x1.c3
  go_wp2_with fail
  go_loopw [17] (fun i wr => ∃ k : Nat, k ≤ x.ks.length ∧ i = .int .i64 k ∧ Hid (∀ (j y : Nat), j < k → (x.ks.map (chk 4 cl))[j]? = some y → y = 0) ∧ Below w1.heap.size w1 wr) (fun i _ => x.ks.length - (intOf i).toNat)
  case atStart => exact ⟨0, Nat.zero_le _, rfl, fun j y hj _ => by omega, Below.refl _ _⟩
  case round =>
    obtain ⟨k', hk, rfl, hz, hbel⟩ := hrel
    by_cases hlt : k' < x.ks.length
    · obtain ⟨ad, A', c', K', kk', m, rfl, hb, hm, hc0, hc1, hc2, hM⟩ := (h1.bel hbel).at_ hlt
      have hb0' : Below wr.heap.size wr (wr.alloc (.cells #[hv m.t, .slice A' m.v.length c', .slice K' m.ks.length kk'] 76)) := (Below.refl _ _).alloc (Nat.le_refl _) _
      have hS := ncheck_any cl m A' c' K' kk' _ ((hM.more hbel.size).on hb0') (HF.out m (List.mem_of_getElem? hm.out))
      have HX : Hid ((x.ks.map (chk 4 cl))[k']? = some (chk 4 cl m)) := by rw [Hid, List.getElem?_map, hm.out]; rfl
      generalize chk 4 cl m = y at *
      unfold ndV at hS
      by_cases hx : y = 0
      · have HZ : Hid (∀ (j y : Nat), j < k' + 1 → (x.ks.map (chk 4 cl))[j]? = some y → y = 0) := fun j y hj hy => by
          by_cases hjk : j = k'
          · subst hjk
            rw [HX.out] at hy
            cases hy
            exact hx
          · exact hz.out j y (by omega) hy
        subst hx
        have hS' := hS.mono (R' := fun e w' => e = .returned .nilIface ∧ Below wr.heap.size wr w') (fun e w' h => ⟨h.1, hb0'.trans (h.2.mono (by simp))⟩)
        clear hS
        go_wp2_with fail
        refine hS'.mono ?_
        rintro e w6 ⟨rfl, b6⟩
        go_wp2_with fail
        go_roundw
        case rel => exact ⟨k' + 1, by omega, by go_num, HZ, hbel.trans (b6.mono hbel.size)⟩
        case measure => simp [intOf]; omega
      · have hxc : code = y := by rw [HCC.out, fst0_at HX.out hx hz.out]
        have HR := Lib.hid (show Ending.returned (codeV y) = .returned (codeE code) by rw [hxc]; unfold codeE; rw [if_neg hx])
        have hS' := hS.mono (R' := fun e w' => e = .returned (codeV y) ∧ Below wr.heap.size wr w') (fun e w' h => ⟨by have := h.1; unfold codeE at this; rwa [if_neg hx] at this, hb0'.trans (h.2.mono (by simp))⟩)
        clear hS hx hxc
        unfold codeV at hS' HR
        go_wp2_with fail
        refine hS'.mono ?_
        rintro e w6 ⟨rfl, b6⟩
        go_wp2_with fail
        go_ret
        exact ⟨HR.out, B1.trans ((hbel.trans (b6.mono hbel.size)).mono B1.size)⟩
    · obtain rfl : k' = x.ks.length := by omega
      have hcc := HCC.out
      rw [fst0_none (by intro j y hj hy; exact hz.out j y (by simpa using hj) hy)] at hcc
      have HR := Lib.hid (show Ending.returned .nilIface = .returned (codeE code) by rw [hcc]; rfl)
      clear hcc
      go_wp2_with fail
      go_ret
      exact ⟨HR.out, B1.trans (hbel.mono B1.size)⟩
end Go.Proofs.YtmohbkniekeafaaGreatDoor



namespace Go.Proofs.YtmohbkniekeafaaGreatDoor
open Go.RowKit

set_option maxHeartbeats 1000000 in
/-- the library's Index, for whatever numbers -/
theorem sindex_any (A : Option Addr) (c : Nat) (l : List UInt16) (x : UInt16) (w : World) (h : Lies w w.heap.size A (l.map hv)) (hl : l.length ≤ 1000) :
    Calls Tryz.prog 165 #[.slice A l.length c, hv x] w fun e w' => (∃ i : Int, e = .returned (.int .i64 i) ∧ (0 ≤ i ↔ x ∈ l)) ∧ w = w' := by
  go_enter Tryz.func165, Tryz.ntmps165
  go_wp2_with fail
  go_loop [8] (fun i => ∃ k : Nat, k ≤ l.length ∧ i = .int .i64 k ∧ Hid (∀ (j : Nat) (y : UInt16), j < k → l[j]? = some y → y ≠ x)) (fun i => l.length - (intOf i).toNat)
  case atStart => exact ⟨0, Nat.zero_le _, rfl, fun j y hj _ => by omega⟩
  case round =>
    obtain ⟨k, hk, rfl, hno⟩ := hrel
    by_cases hlt : k < l.length
    · obtain ⟨y, hy⟩ : ∃ y, Hid (l[k]? = some y) := ⟨_, List.getElem?_eq_getElem hlt⟩
      obtain ⟨ad, rfl, hb, hc⟩ := h (fun e => by rw [List.map_eq_nil_iff] at e; rw [e] at hlt; simp at hlt)
      have hcell := hc k (hv y) (by rw [List.getElem?_map, hy.out]; rfl)
      clear hc
      have hk0 : (0 : Int) ≤ (k : Int) := by omega
      have hkl : (k : Int) < (l.length : Int) := by omega
      by_cases hxy : x = y
      · subst hxy
        have HM := Lib.hid (List.mem_of_getElem? hy.out)
        go_wp2_with fail
        go_ret
        exact ⟨⟨(k : Int), rfl, ⟨fun _ => HM.out, fun _ => hk0⟩⟩, rfl⟩
      · have hne : ((x.toNat : Int) == (y.toNat : Int)) = false := by
          rw [beq_eq_false_iff_ne]
          exact fun h => hxy (UInt16.toNat_inj.1 (by omega))
        have HN : Hid (∀ (j : Nat) (z : UInt16), j < k + 1 → l[j]? = some z → z ≠ x) := fun j z hj hz => by
          by_cases hjk : j = k
          · subst hjk
            rw [hy.out] at hz
            cases hz
            exact fun e => hxy e.symm
          · exact hno.out j z (by omega) hz
        clear hxy
        go_wp2_with fail
        go_round
        case rel => exact ⟨k + 1, by omega, by go_num, HN⟩
        case measure => simp [intOf]; omega
    · obtain rfl : k = l.length := by omega
      have HX : Hid (¬ x ∈ l) := fun hx => by
        obtain ⟨j, hj, e⟩ := List.getElem_of_mem hx
        exact hno.out j x hj (by rw [List.getElem?_eq_getElem hj, e]) rfl
      go_wp2_with fail
      go_ret
      exact ⟨⟨-1, rfl, ⟨fun h => absurd h (by omega), fun h => absurd h HX.out⟩⟩, rfl⟩
theorem scontains_any (A : Option Addr) (c : Nat) (l : List UInt16) (x : UInt16) (w : World) (h : Lies w w.heap.size A (l.map hv)) (hl : l.length ≤ 1000) :
    Calls Tryz.prog 133 #[.slice A l.length c, hv x] w fun e w' => e = .returned (.bool (decide (x ∈ l))) ∧ w = w' := by
  have hI := sindex_any A c l x w h hl
  go_enter Tryz.func133, Tryz.ntmps133
  go_wp2_with fail
  refine hI.mono ?_
  rintro e w1 ⟨⟨i, rfl, hd⟩, rfl⟩
  have HD : Hid (decide (0 ≤ i) = decide (x ∈ l)) := by
    unfold Hid
    by_cases hi : 0 ≤ i
    · rw [decide_eq_true hi, decide_eq_true (hd.1 hi)]
    · rw [decide_eq_false hi, decide_eq_false (fun h => hi (hd.2 h))]
  clear hd
  go_wp2_with fail
  go_ret
  exact ⟨ret_bool HD.out, rfl⟩
/-- whether the first node has one of some types -/
def begB (l : List UInt16) (ks : List Nd) : Bool := match ks with | [] => false | n :: _ => decide (n.t ∈ l)
theorem begins_any (l : List UInt16) (hl : l.length ≤ 1000) (x : Ck) (hx : 0 < x.ks.length) (A : Option Addr) (c : Nat) (K : Option Addr) (k : Nat) (gx : Nat) (B : Option Addr) (d : Nat) (w : World) (hb : CkBox w gx x A c K k) (hN : Nodes w w.heap.size K x.ks) (h : Lies w w.heap.size B (l.map hv)) :
    Calls Tryz.prog 132 #[.slice B l.length d, .pointer (some ⟨gx, 0, none⟩)] w fun e w' => e = .returned (.bool (begB l x.ks)) ∧ w = w' := by
  obtain ⟨ad, A', c', K', k', n, hK, hb', hn, h0, h1, h2, hM⟩ := hN.at_ hx
  have hC := scontains_any B d l n.t w h hl
  have HB := Lib.hid (show begB l x.ks = decide (n.t ∈ l) by
    have := hn.out
    cases hks : x.ks with
    | nil => rw [hks] at hx; simp at hx
    | cons m ms => rw [hks] at this; simp at this; subst this; rfl)
  obtain ⟨q0, q1, q2, q3⟩ := hb.cs
  rw [hK] at q3
  have h0' : w.cell? ad = some (hv n.t) := by simpa [Addr.add] using h0
  have hx' : (0 : Int) < (x.ks.length : Int) := by omega
  clear h0 h1 h2 hM hn hN h
  go_enter Tryz.func132, Tryz.ntmps132
  go_wp2_with fail
  refine hC.mono ?_
  rintro e w1 ⟨rfl, rfl⟩
  go_wp2_with fail
  go_ret
  exact ⟨ret_bool HB.out.symm, rfl⟩
end Go.Proofs.YtmohbkniekeafaaGreatDoor






namespace Go.Proofs.YtmohbkniekeafaaGreatDoor
open Go.RowKit

/-- the number of two bytes at a place -/
def num2 (d : List UInt8) (i : Nat) : Nat := 256 * (d.getD i 0).toNat + (d.getD (i + 1) 0).toNat
theorem num2_lt (d : List UInt8) (i : Nat) : num2 d i < 65536 := by
  have h1 := (d.getD i 0).toNat_lt
  have h2 := (d.getD (i + 1) 0).toNat_lt
  unfold num2
  omega
theorem drop_two {d : List UInt8} {i : Nat} (h : i + 2 ≤ d.length) : (d.drop i).take 2 = [d.getD i 0, d.getD (i + 1) 0] := by
  apply List.ext_getElem?
  intro j
  match j with
  | 0 => simp [List.getElem?_drop, List.getElem?_eq_getElem (show i < d.length by omega)]
  | 1 => simp [List.getElem?_drop, List.getElem?_eq_getElem (show i + 1 < d.length by omega)]
  | j + 2 => rw [List.getElem?_take, if_neg (by omega)]; rfl
theorem numOf_twoE (a b : UInt8) : numOf [a, b] = 256 * a.toNat + b.toNat := by
  have h1 := a.toNat_lt
  have h2 := b.toNat_lt
  simp [numOf, numStep]
  omega
theorem nums2_one {d : List UInt8} {i : Nat} (h : i + 2 ≤ d.length) : nums 2 ((d.drop i).take 2) = [UInt32.ofNat (num2 d i)] := by
  rw [drop_two h]
  unfold nums numAt num2
  simp [List.range_succ, numOf_twoE]
theorem drop_four {d : List UInt8} {i : Nat} (h : i + 4 ≤ d.length) : (d.drop i).take 4 = (d.drop i).take 2 ++ (d.drop (i + 2)).take 2 := by
  rw [drop_two (by omega), drop_two (by omega)]
  apply List.ext_getElem?
  intro j
  match j with
  | 0 => simp [List.getElem?_drop, List.getElem?_eq_getElem (show i < d.length by omega)]
  | 1 => simp [List.getElem?_drop, List.getElem?_eq_getElem (show i + 1 < d.length by omega)]
  | 2 => simp [List.getElem?_drop, List.getElem?_eq_getElem (show i + 2 < d.length by omega)]
  | 3 => simp [List.getElem?_drop, List.getElem?_eq_getElem (show i + 3 < d.length by omega)]
  | j + 4 => rw [List.getElem?_take, if_neg (by omega)]; rfl
theorem nums2_two {d : List UInt8} {i : Nat} (h : i + 4 ≤ d.length) : nums 2 ((d.drop i).take 4) = [UInt32.ofNat (num2 d i), UInt32.ofNat (num2 d (i + 2))] := by
  rw [drop_four h, drop_two (by omega), drop_two (by omega)]
  unfold nums numAt num2
  simp [List.range_succ, numOf_twoE]
theorem uv_num2 (d : List UInt8) (i : Nat) : uv (UInt32.ofNat (num2 d i)) = .int .u32 ((num2 d i : Nat) : Int) := by
  have h := num2_lt d i
  unfold uv
  congr 1
  simp
  omega
theorem lies_piece {w : World} {B : Nat} {ad : Addr} {d : List UInt8} (h : Lies w B (some ad) (d.map bv)) (i m : Nat) : Lies w B (some (ad.add i)) (((d.drop i).take m).map bv) := by
  intro hne
  have hd : d.map bv ≠ [] := fun e => hne (by rw [List.map_eq_nil_iff] at e; rw [e]; simp)
  obtain ⟨ad', e, hb, hc⟩ := h hd
  cases e
  refine ⟨_, rfl, by rw [blk_add]; exact hb, fun j u hu => ?_⟩
  have hj : (d.map bv)[i + j]? = some u := by
    rw [List.getElem?_map, List.getElem?_take] at hu
    rw [List.getElem?_map]
    split at hu
    · rw [List.getElem?_drop] at hu; exact hu
    · cases hu
  rw [add_add']
  exact hc _ _ hj
/-- the library of numbers, for two bytes of some bytes -/
theorem two_any (ad : Addr) (d : List UInt8) (i c : Nat) (hc : 2 ≤ c) (hi : i + 2 ≤ d.length) (w : World) (h : Lies w w.heap.size (some ad) (d.map bv)) :
    Calls Tryz.prog 74 #[.int .i64 2, .slice (some (ad.add i)) 2 c] w fun e w' => ∃ g c', e = .returned (.slice (some ⟨g, 0, none⟩) 1 c') ∧ w'.cell? ⟨g, 0, none⟩ = some (.int .u32 ((num2 d i : Nat) : Int)) ∧ Below w.heap.size w w' := by
  have hl : ((d.drop i).take 2).length = 2 := by rw [drop_two hi]; rfl
  have h1 := numbersF_any 2 (by decide) (some (ad.add i)) c ((d.drop i).take 2) w (lies_piece h i 2) (by rw [hl]) (by rw [hl]; omega) (by rw [hl]; exact hc)
  rw [nums2_one hi, hl] at h1
  refine h1.mono ?_
  rintro e w' ⟨A', c', rfl, hown, hb⟩
  rcases hown.2 with ⟨_, q⟩ | ⟨g, cap, cur, q1, q2⟩
  · omega
  · simp only [Value.slice.injEq] at q1
    obtain ⟨rfl, _, rfl⟩ := q1
    refine ⟨g, c', rfl, ?_, hb⟩
    have := hown.cells (g := g) rfl 0 _ rfl
    rw [uv_num2] at this
    simpa [Addr.add] using this
theorem four_any (ad : Addr) (d : List UInt8) (i c : Nat) (hc : 4 ≤ c) (hi : i + 4 ≤ d.length) (w : World) (h : Lies w w.heap.size (some ad) (d.map bv)) :
    Calls Tryz.prog 74 #[.int .i64 2, .slice (some (ad.add i)) 4 c] w fun e w' => ∃ g c', e = .returned (.slice (some ⟨g, 0, none⟩) 2 c') ∧ w'.cell? ⟨g, 0, none⟩ = some (.int .u32 ((num2 d i : Nat) : Int)) ∧ w'.cell? ⟨g, 1, none⟩ = some (.int .u32 ((num2 d (i + 2) : Nat) : Int)) ∧ Below w.heap.size w w' := by
  have hl : ((d.drop i).take 4).length = 4 := by rw [drop_four hi, drop_two (by omega), drop_two (by omega)]; rfl
  have h1 := numbersF_any 2 (by decide) (some (ad.add i)) c ((d.drop i).take 4) w (lies_piece h i 4) (by rw [hl]) (by rw [hl]; omega) (by rw [hl]; exact hc)
  rw [nums2_two hi, hl] at h1
  refine h1.mono ?_
  rintro e w' ⟨A', c', rfl, hown, hb⟩
  rcases hown.2 with ⟨_, q⟩ | ⟨g, cap, cur, q1, q2⟩
  · omega
  · simp only [Value.slice.injEq] at q1
    obtain ⟨rfl, _, rfl⟩ := q1
    have t0 := hown.cells (g := g) rfl 0 _ rfl
    have t1 := hown.cells (g := g) rfl 1 _ rfl
    rw [uv_num2] at t0 t1
    refine ⟨g, c', rfl, by simpa [Addr.add] using t0, by simpa [Addr.add] using t1, hb⟩
/-! ### Counts -/
def cntC (x : Ck) : Bool := decide (x.t = 3) && decide (num2 x.d 8 + num2 x.d 10 ≠ (x.d.length - 12) / 4)
set_option maxRecDepth 100000 in
set_option maxHeartbeats 2000000 in
theorem checkCount_any (x : Ck) (hx : x.d.length ≤ 1000000) (h12 : x.t = 3 → 12 ≤ x.d.length) (A : Option Addr) (c : Nat) (K : Option Addr) (k : Nat) (w : World) (h : Chunk w w.heap.size A c K k x) :
    Calls Tryz.prog 82 #[ckV x A c K k] w fun e w' => e = .returned (errV (cntC x) 8 12) ∧ Below w.heap.size w w' := by
  have b0 : Below w.heap.size w (w.alloc (.cells (ckCells x A c K k) 44)) := (Below.refl _ w).alloc (Nat.le_refl _) _
  have x0 := CkBox.new w x A c K k
  have HN := New_any 8 12
  obtain ⟨q0, q1, q2, q3⟩ := x0.cs
  by_cases ht : x.t = 3
  · have h12' := h12 ht
    have ht' : ((x.t.toNat : Int) != 3) = false := by rw [ht]; rfl
    obtain ⟨ad, rfl, hadb, _⟩ := h.data (fun e => by rw [List.map_eq_nil_iff] at e; rw [e] at h12'; simp at h12')
    have hF := four_any ad x.d 8 (c - 8) (by have := h.dc; omega) (by omega) _ (h.on b0).data
    have hc12 : (12 : Int) ≤ (c : Int) := by have := h.dc; omega
    have hn1 := num2_lt x.d 8
    have hn2 := num2_lt x.d 10
    unfold cntC
    rw [decide_eq_true ht, Bool.true_and]
    clear h12 h ht
    generalize num2 x.d 8 = n1 at *
    generalize num2 x.d 10 = n2 at *
    obtain ⟨b, hdb⟩ : ∃ b, decide (n1 + n2 ≠ (x.d.length - 12) / 4) = b := ⟨_, rfl⟩
    rw [hdb]
    have HDB := Lib.hid hdb
    clear hdb
    go_enter Tryz.func82, Tryz.ntmps82
    go_wp2_with fail
    generalize w.alloc (.cells (ckCells x (some ad) c K k) 44) = w0 at *
    refine hF.mono ?_
    rintro e w1 ⟨g, c', rfl, r0, r1, b1⟩
    have x1 := x0.below b1
    clear q0 q1 q2 q3
    obtain ⟨q0, q1, q2, q3⟩ := x1.cs
    have hb1 := b0.trans (b1.mono b0.size)
    go_wp2_with fail
    go_region_held3 (fun W => W.cell? ⟨g, 0, none⟩ = some (.int .u32 (n1 : Int)) ∧ W.cell? ⟨g, 1, none⟩ = some (.int .u32 (n2 : Int)) ∧ W.cell? ⟨w.heap.size, 2, none⟩ = some (.slice (some ad) x.d.length c)) (go_keep) (fail)
    have hz : (IntKind.i64.wrap (IntKind.u32.wrap ((n1 : Int) + (n2 : Int))) != IntKind.i64.wrap ((IntKind.i64.wrap ((x.d.length : Int) - 12)).tdiv 4)) = decide (n1 + n2 ≠ (x.d.length - 12) / 4) := by
      rw [show IntKind.u32.wrap ((n1 : Int) + (n2 : Int)) = (n1 : Int) + (n2 : Int) by unfold IntKind.wrap IntKind.bits; simp; omega, show IntKind.i64.wrap ((n1 : Int) + (n2 : Int)) = (n1 : Int) + (n2 : Int) by unfold IntKind.wrap IntKind.bits; simp; omega,
        show IntKind.i64.wrap ((x.d.length : Int) - 12) = ((x.d.length - 12 : Nat) : Int) by unfold IntKind.wrap IntKind.bits; simp; omega,
        show (((x.d.length - 12 : Nat) : Int)).tdiv 4 = (((x.d.length - 12) / 4 : Nat) : Int) by rw [Int.tdiv_eq_ediv_of_nonneg (by omega)]; omega]
      have hm : (x.d.length - 12) / 4 ≤ 1000000 := by omega
      generalize (x.d.length - 12) / 4 = m at *
      rw [show IntKind.i64.wrap (m : Int) = (m : Int) by unfold IntKind.wrap IntKind.bits; simp; omega]
      by_cases hq : n1 + n2 = m
      · rw [decide_eq_false (by omega), bne_eq_false_iff_eq]
        omega
      · rw [decide_eq_true (by omega), bne_iff_ne]
        omega
    rw [hz, HDB.out]
    clear hz hc12 hF HDB
    cases b with
    | false =>
      go_wp2_with fail
      go_ret
      exact ⟨rfl, below_drew hb1⟩
    | true =>
      go_wp2_with fail
      refine (HN _).mono ?_
      rintro e w4 ⟨rfl, rfl⟩
      go_wp2_with fail
      go_ret
      exact ⟨rfl, below_drew hb1⟩
  · have ht' : ((x.t.toNat : Int) != 3) = true := by rw [bne_iff_ne]; exact fun e => ht (UInt8.toNat_inj.1 (by show x.t.toNat = 3; omega))
    unfold cntC
    rw [decide_eq_false ht, Bool.false_and]
    clear h12 h ht
    go_enter Tryz.func82, Tryz.ntmps82
    go_wp2_with fail
    go_ret
    exact ⟨rfl, b0⟩
/-! ### Groups -/
/-- the first group whose number is too great -/
def grp (d : List UInt8) : Option Nat := (List.range ((d.length - 4) / 8)).find? fun g => decide (1 < num2 d (4 + 8 * g + 2))
def wgOf (d : List UInt8) : Nat := 4 + 8 * (grp d).getD ((d.length - 4) / 8)
theorem grp_at {d : List UInt8} {k : Nat} (hk : k < (d.length - 4) / 8) (h : 1 < num2 d (4 + 8 * k + 2)) (hno : ∀ j, j < k → ¬ 1 < num2 d (4 + 8 * j + 2)) : grp d = some k := by
  unfold grp
  rw [List.find?_eq_some_iff_getElem]
  refine ⟨by simpa using h, k, by simpa using hk, by simp, fun j hj => ?_⟩
  have := hno j hj
  simpa using this
theorem grp_none {d : List UInt8} (hno : ∀ j, j < (d.length - 4) / 8 → ¬ 1 < num2 d (4 + 8 * j + 2)) : grp d = none := by
  unfold grp
  rw [List.find?_eq_none]
  intro j hj
  have := hno j (by simpa using hj)
  simpa using this
set_option maxRecDepth 100000 in
set_option maxHeartbeats 4000000 in
theorem wrongGroup_any (d : List UInt8) (hd : d.length ≤ 1000000) (h4 : 4 ≤ d.length) (h8 : (d.length - 4) % 8 = 0) (A : Option Addr) (c : Nat) (hc : d.length ≤ c) (w : World) (h : Lies w w.heap.size A (d.map bv)) :
    Calls Tryz.prog 134 #[.slice A d.length c] w fun e w' => e = .returned (.int .i64 ((wgOf d : Nat) : Int)) ∧ Below w.heap.size w w' := by
  obtain ⟨ad, rfl, hadb, _⟩ := h (fun e => by rw [List.map_eq_nil_iff] at e; rw [e] at h4; simp at h4)
  have HG : Hid (∀ k, k < (d.length - 4) / 8 → 1 < num2 d (4 + 8 * k + 2) → (∀ j, j < k → ¬ 1 < num2 d (4 + 8 * j + 2)) → wgOf d = 4 + 8 * k) := fun k h1 h2 h3 => by unfold wgOf; rw [grp_at h1 h2 h3]; rfl
  have HE : Hid ((∀ j, j < (d.length - 4) / 8 → ¬ 1 < num2 d (4 + 8 * j + 2)) → wgOf d = 4 + 8 * ((d.length - 4) / 8)) := fun h => by unfold wgOf; rw [grp_none h]; rfl
  generalize wgOf d = res at *
  have hG : d.length = 4 + 8 * ((d.length - 4) / 8) := by omega
  generalize (d.length - 4) / 8 = G at *
  have HL := Lib.hid hG
  have HA := Lib.hid h
  clear hG h
  go_enter Tryz.func134, Tryz.ntmps134
  go_wp2
  go_step3
  go_wp2_with fail
  go_step3
  go_wp2_with fail
  go_loopw [3] (fun i wr => ∃ k : Nat, k ≤ G ∧ i = .int .i64 ((4 + 8 * k : Nat) : Int) ∧ Hid (∀ j, j < k → ¬ 1 < num2 d (4 + 8 * j + 2)) ∧ Below w.heap.size w wr) (fun i _ => d.length + 8 - (intOf i).toNat)
  case atStart => exact ⟨0, Nat.zero_le _, rfl, fun j hj => by omega, Below.refl _ _⟩
  case round =>
    obtain ⟨k, hk, rfl, hno, hbel⟩ := hrel
    by_cases hlt : k < G
    · have hl := HL.out
      have hN := two_any ad d (4 + 8 * k + 2) (c - (4 + 8 * k + 2)) (by omega) (by omega) wr ((HA.out.below hbel).more hbel.size)
      have e1 : ((4 + 8 * k : Nat) : Int) < (d.length : Int) := by omega
      have HR := Lib.hid (fun h => HG.out k hlt h hno.out)
      have HM : Hid (d.length + 8 - (4 + 8 * (k + 1)) < d.length + 8 - (4 + 8 * k)) := by unfold Hid; omega
      have e2 : (0 : Int) ≤ ((4 + 8 * k : Nat) : Int) + 2 := by omega
      have e3 : ((4 + 8 * k : Nat) : Int) + 4 ≤ (c : Int) := by omega
      have HB : Hid (4 + 8 * k < 2000000) := by unfold Hid; omega
      have HNX : Hid (¬ 1 < num2 d (4 + 8 * k + 2) → ∀ j, j < k + 1 → ¬ 1 < num2 d (4 + 8 * j + 2)) := fun h j hj => by
        by_cases hjk : j = k
        · subst hjk; exact h
        · exact hno.out j (by omega)
      have HAT : Hid (4 + 8 * (k + 1) = 4 + 8 * k + 8) := by unfold Hid; omega
      generalize hat : 4 + 8 * k = at_ at *
      have hatl := HB.out
      generalize num2 d (at_ + 2) = n at *
      clear hl hat
      go_wp2_with fail
      refine hN.mono ?_
      rintro e w1 ⟨g, c', rfl, r0, b1⟩
      have hb1 := hbel.trans (b1.mono hbel.size)
      clear hN
      by_cases h1 : 1 < n
      · have q0 : ((n : Int) == 0) = false := by rw [beq_eq_false_iff_ne]; omega
        have q1 : ((n : Int) == 1) = false := by rw [beq_eq_false_iff_ne]; omega
        have HRR := Lib.hid (HR.out h1)
        clear h1
        go_wp2_with fail
        try rw [Exit.noGoto_ret]
        go_ret
        exact ⟨by rw [HRR.out]; rfl, hb1⟩
      · have HN2 := Lib.hid (HNX.out h1)
        have h01 : n = 0 ∨ n = 1 := by omega
        clear h1 HNX HR
        rcases h01 with rfl | rfl
        · go_wp2_with fail
          go_roundw
          case rel => exact ⟨k + 1, by omega, by rw [HAT.out]; go_num, HN2, hb1⟩
          case measure => simp [intOf]; omega
        · go_wp2_with fail
          go_roundw
          case rel => exact ⟨k + 1, by omega, by rw [HAT.out]; go_num, HN2, hb1⟩
          case measure => simp [intOf]; omega
    · obtain rfl : k = G := by omega
      have hl := HL.out
      have e1 : ¬ ((4 + 8 * k : Nat) : Int) < (d.length : Int) := by omega
      have HRR := Lib.hid (HE.out hno.out)
      generalize 4 + 8 * k = at_ at *
      clear hl
      go_wp2_with fail
      try rw [Exit.noGoto_ret]
      go_ret
      exact ⟨by rw [HRR.out]; rfl, hbel⟩
/-! ### Values -/
def cvalO (x : Ck) : Option Nat := if x.t = 64 then (if num2 x.d 6 ≠ 0 then some 10 else none) else if x.t = 194 then (if wgOf x.d < x.d.length then some (4 + wgOf x.d + 2) else none) else none
def cvalV : Option Nat → Value
  | some a => faultV 11 (a : Int)
  | none => .nilIface
theorem byte_cell {w : World} {B : Nat} {ad : Addr} {d : List UInt8} (h : Lies w B (some ad) (d.map bv)) {i : Nat} (hi : i < d.length) (h0 : 0 < i) : w.cell? ⟨ad.block, ad.off + i, none⟩ = some (bv (d.getD i 0)) := by
  obtain ⟨ad', e, _, hc⟩ := h (fun e => by rw [List.map_eq_nil_iff] at e; rw [e] at hi; simp at hi)
  cases e
  have := hc i (bv (d.getD i 0)) (by rw [List.getElem?_map, List.getElem?_eq_getElem hi]; simp [hi])
  have hi0 : ¬ i = 0 := by omega
  simpa [Addr.add, hi0] using this
set_option maxRecDepth 100000 in
set_option maxHeartbeats 4000000 in
theorem checkValue_any (x : Ck) (hx : x.d.length ≤ 1000000) (h64 : x.t = 64 → 17 ≤ x.d.length) (h194 : x.t = 194 → 4 ≤ x.d.length ∧ (x.d.length - 4) % 8 = 0) (A : Option Addr) (c : Nat) (K : Option Addr) (k : Nat) (w : World) (h : Chunk w w.heap.size A c K k x) :
    Calls Tryz.prog 83 #[ckV x A c K k] w fun e w' => e = .returned (cvalV (cvalO x)) ∧ Below w.heap.size w w' := by
  have b0 : Below w.heap.size w (w.alloc (.cells (ckCells x A c K k) 44)) := (Below.refl _ w).alloc (Nat.le_refl _) _
  have x0 := CkBox.new w x A c K k
  have HN := New_any 11 10
  obtain ⟨q0, q1, q2, q3⟩ := x0.cs
  unfold cvalO
  by_cases ht : x.t = 64
  · rw [if_pos ht]
    have hl := h64 ht
    obtain ⟨ad, rfl, hadb, _⟩ := h.data (fun e => by rw [List.map_eq_nil_iff] at e; rw [e] at hl; simp at hl)
    have d6 := byte_cell (h.on b0).data (i := 6) (by omega) (by omega)
    have d7 := byte_cell (h.on b0).data (i := 7) (by omega) (by omega)
    have ht' : ((x.t.toNat : Int) == 64) = true := by rw [ht]; rfl
    have i6 : (6 : Int) < (x.d.length : Int) := by omega
    have i7 : (7 : Int) < (x.d.length : Int) := by omega
    have hn : num2 x.d 6 = 256 * (x.d.getD 6 0).toNat + (x.d.getD 7 0).toNat := rfl
    rw [hn]
    clear hn ht h64 h194 h
    generalize x.d.getD 6 0 = b6 at *
    generalize x.d.getD 7 0 = b7 at *
    by_cases z6 : b6.toNat = 0
    · have z6' : ((b6.toNat : Int) != 0) = false := by rw [bne_eq_false_iff_eq]; omega
      by_cases z7 : b7.toNat = 0
      · have z7' : ((b7.toNat : Int) != 0) = false := by rw [bne_eq_false_iff_eq]; omega
        rw [if_neg (by omega)]
        clear z6 z7
        go_enter Tryz.func83, Tryz.ntmps83
        go_wp2_with fail
        go_ret
        exact ⟨rfl, b0⟩
      · have z7' : ((b7.toNat : Int) != 0) = true := by rw [bne_iff_ne]; omega
        rw [if_pos (by omega)]
        clear z6 z7
        go_enter Tryz.func83, Tryz.ntmps83
        go_wp2_with fail
        refine (HN _).mono ?_
        rintro e w4 ⟨rfl, rfl⟩
        go_wp2_with fail
        go_ret
        exact ⟨rfl, b0⟩
    · have z6' : ((b6.toNat : Int) != 0) = true := by rw [bne_iff_ne]; omega
      rw [if_pos (by omega)]
      clear z6
      go_enter Tryz.func83, Tryz.ntmps83
      go_wp2_with fail
      refine (HN _).mono ?_
      rintro e w4 ⟨rfl, rfl⟩
      go_wp2_with fail
      go_ret
      exact ⟨rfl, b0⟩
  · rw [if_neg ht]
    have ht0 : ((x.t.toNat : Int) == 64) = false := by rw [beq_eq_false_iff_ne]; exact fun e => ht (UInt8.toNat_inj.1 (by show x.t.toNat = 64; omega))
    clear ht h64
    by_cases ht : x.t = 194
    · rw [if_pos ht]
      have ht' : ((x.t.toNat : Int) == 194) = true := by rw [ht]; rfl
      obtain ⟨g4, g8⟩ := h194 ht
      have hW := wrongGroup_any x.d hx g4 g8 A c h.dc _ (h.on b0).data
      have HNw := fun a => New_any 11 a
      have hwl : wgOf x.d ≤ x.d.length := by
        unfold wgOf
        cases hg : grp x.d with
        | none => simp; omega
        | some g =>
          have := List.mem_of_find?_eq_some hg
          rw [List.mem_range] at this
          simp
          omega
      clear ht h194 h g4 g8
      generalize wgOf x.d = r at *
      by_cases hr : r < x.d.length
      · rw [if_pos hr]
        have hr' : (r : Int) < (x.d.length : Int) := by omega
        have e1 : IntKind.i64.wrap (IntKind.i64.wrap (4 + (r : Int)) + 2) = ((4 + r + 2 : Nat) : Int) := by unfold IntKind.wrap IntKind.bits; simp; omega
        have HE := Lib.hid e1
        clear hr e1
        go_enter Tryz.func83, Tryz.ntmps83
        go_wp2_with fail
        generalize w.alloc (.cells (ckCells x A c K k) 44) = w0 at *
        refine hW.mono ?_
        rintro e w1 ⟨rfl, b1⟩
        have x1 := x0.below b1
        clear q0 q1 q2 q3
        obtain ⟨q0, q1, q2, q3⟩ := x1.cs
        go_wp2_with fail
        refine (HNw _ _).mono ?_
        rintro e w4 ⟨rfl, rfl⟩
        go_wp2_with fail
        go_ret
        exact ⟨by first | (rw [← HE.out]; rfl) | rfl, b0.trans (b1.mono b0.size)⟩
      · rw [if_neg hr]
        have hr' : ¬ (r : Int) < (x.d.length : Int) := by omega
        clear hr
        go_enter Tryz.func83, Tryz.ntmps83
        go_wp2_with fail
        generalize w.alloc (.cells (ckCells x A c K k) 44) = w0 at *
        refine hW.mono ?_
        rintro e w1 ⟨rfl, b1⟩
        have x1 := x0.below b1
        clear q0 q1 q2 q3
        obtain ⟨q0, q1, q2, q3⟩ := x1.cs
        go_wp2_with fail
        go_ret
        exact ⟨rfl, b0.trans (b1.mono b0.size)⟩
    · rw [if_neg ht]
      have ht1 : ((x.t.toNat : Int) == 194) = false := by rw [beq_eq_false_iff_ne]; exact fun e => ht (UInt8.toNat_inj.1 (by show x.t.toNat = 194; omega))
      clear ht h194 h
      go_enter Tryz.func83, Tryz.ntmps83
      go_wp2_with fail
      go_ret
      exact ⟨rfl, b0⟩
end Go.Proofs.YtmohbkniekeafaaGreatDoor


