/- Layer 6, package tlv: frameAt, nextAt, for whatever bytes. They write nothing that was there. -/
/- Layer 6, package tlv: the iterator over the frames of some bytes. -/
/- Layer 6, package tlv: Split, for whatever bytes. -/
import Derived.Test.YteknmgmdmjmnmaaGreatDoorUTA
import Derived.Test.YteknmgmdmjmnmaaGreatDoorUW
import Derived.Test.YteknmgmdmjmnmaaGreatDoorUE
import Derived.Laws.ResultCell
import Derived.WalkMore
import Derived.Deep.RegionHeld3
import Derived.Test.YteknmgmdmjmnmaaGreatDoorUA




namespace Go.Proofs.YteknmgmdmjmnmaaGreatDoor
open Go.RowKit

def u16of (n : Nat) : UInt16 := UInt16.ofNat n
/-- the frame at an offset -/
def fa (b : List UInt8) (k : Nat) : Option Fr :=
  if b.length < k + 4 then none
  else if numOf ((b.drop (k + 2)).take 2) < 4 ∨ b.length < k + numOf ((b.drop (k + 2)).take 2) then none
  else some ⟨u16of (numOf ((b.drop k).take 2)), (b.drop (k + 4)).take (numOf ((b.drop (k + 2)).take 2) - 4)⟩
/-- what follows a frame that ends at e, where bytes follow -/
def nx (b : List UInt8) (e : Nat) : Option Nat := if Good b (e : Int) ∧ up e ≠ b.length then some (up e) else none

/-- what follows a frame that ends at e, or the end -/
def na (b : List UInt8) (e : Nat) : Option Nat := if e = b.length then some e else nx b e

theorem u16of_toNat {n : Nat} (h : n < 65536) : (u16of n).toNat = n := by
  unfold u16of
  rw [UInt16.toNat_ofNat']
  exact Nat.mod_eq_of_lt h
theorem fa_len {b : List UInt8} {k : Nat} {f : Fr} (hf : fa b k = some f) : k + frL f ≤ b.length := by
  unfold fa at hf
  split at hf
  · simp at hf
  · split at hf
    · simp at hf
    · simp only [Option.some.injEq] at hf
      subst hf
      unfold frL
      simp only [List.length_take, List.length_drop]
      omega
end Go.Proofs.YteknmgmdmjmnmaaGreatDoor





namespace Go.Proofs.YteknmgmdmjmnmaaGreatDoor
open Go.RowKit Go.Shelf

attribute [local go_sem] Oper.semAt_some

/-! ### which frames come -/
theorem nx_some {b : List UInt8} {e k : Nat} (h : nx b e = some k) : k = up e ∧ e ≤ k ∧ k < b.length ∧ zeroB ((b.drop e).take (gap e)) = true := by
  unfold nx at h
  split at h
  · rename_i hg
    obtain ⟨⟨_, h2, h3⟩, h4⟩ := hg
    simp only [Option.some.injEq] at h
    subst h
    rw [Int.toNat_natCast] at h2 h3
    exact ⟨rfl, by unfold up; omega, by omega, h3⟩
  · simp at h
theorem frL_pos (f : Fr) : 4 ≤ frL f := by unfold frL; omega
def yla (b : List UInt8) (k : Nat) : List (Nat × Fr) :=
  match fa b k with
  | none => []
  | some f => match _h : nx b (k + frL f) with
    | none => [(k, f)]
    | some k' => (k, f) :: yla b k'
termination_by b.length - k
decreasing_by
  have := nx_some _h
  have := frL_pos f
  omega
theorem yla_none {b : List UInt8} {k : Nat} (h : fa b k = none) : yla b k = [] := by
  rw [yla, h]
theorem yla_last {b : List UInt8} {k : Nat} {f : Fr} (h : fa b k = some f) (hn : nx b (k + frL f) = none) : yla b k = [(k, f)] := by
  rw [yla, h]
  simp only
  split
  · rfl
  · rename_i h2; rw [hn] at h2; cases h2
theorem yla_more {b : List UInt8} {k k' : Nat} {f : Fr} (h : fa b k = some f) (hn : nx b (k + frL f) = some k') : yla b k = (k, f) :: yla b k' := by
  rw [yla, h]
  simp only
  split
  · rename_i h2; rw [hn] at h2; cases h2
  · rename_i k2 h2; rw [hn] at h2; cases h2; rfl

/-! ### what Split hands back -/
inductive Out where
  | ok (fs : List Fr)
  | bad (code k : Nat)
def kend (l : List (Nat × Fr)) : Nat := match l.getLast? with | none => 0 | some y => y.1 + frL y.2
def spl (b : List UInt8) : Out :=
  if kend (yla b 0) = b.length then .ok ((yla b 0).map Prod.snd)
  else match nx b (kend (yla b 0)) with
    | none => .bad 5 (kend (yla b 0))
    | some k => .bad 4 k
theorem nx_end (b : List UInt8) : nx b b.length = none := by
  unfold nx
  rw [if_neg]
  rintro ⟨⟨_, h1, _⟩, h2⟩
  rw [Int.toNat_natCast] at h1
  have : up b.length = b.length + gap b.length := rfl
  omega
/-! ### what has come so far, and what is left -/
structure Live (b : List UInt8) (pre : List (Nat × Fr)) (k : Nat) : Prop where
  all : pre ++ yla b k = yla b 0
  nx : nx b (kend pre) = some k
theorem kend_snoc (pre : List (Nat × Fr)) (x : Nat × Fr) : kend (pre ++ [x]) = x.1 + frL x.2 := by simp [kend]
section
variable {b : List UInt8} {pre : List (Nat × Fr)} {k : Nat}
theorem Live.ne (h : Live b pre k) : kend pre ≠ b.length := fun e => by
  have := h.nx
  rw [e, nx_end] at this
  cases this
theorem Live.none (h : Live b pre k) (hf : fa b k = .none) : spl b = .bad 4 k := by
  have e : yla b 0 = pre := by rw [← h.all, yla_none hf, List.append_nil]
  unfold spl
  rw [e, if_neg h.ne, h.nx]
theorem Live.last (h : Live b pre k) {f : Fr} (hf : fa b k = some f) (hn : Go.Proofs.YteknmgmdmjmnmaaGreatDoor.nx b (k + frL f) = .none) : yla b 0 = pre ++ [(k, f)] := by
  rw [← h.all, yla_last hf hn]
theorem Live.done (h : Live b pre k) {f : Fr} (hf : fa b k = some f) (he : k + frL f = b.length) : spl b = .ok ((pre ++ [(k, f)]).map Prod.snd) := by
  have e := h.last hf (by rw [he]; exact nx_end b)
  unfold spl
  rw [e, kend_snoc, if_pos he]
theorem Live.more (h : Live b pre k) {f : Fr} {k' : Nat} (hf : fa b k = some f) (hn : Go.Proofs.YteknmgmdmjmnmaaGreatDoor.nx b (k + frL f) = some k') : Live b (pre ++ [(k, f)]) k' := by
  refine ⟨?_, ?_⟩
  · rw [← h.all, yla_more hf hn, List.append_assoc]
    rfl
  · rw [kend_snoc]
    exact hn
end
/-- where the reading stands: at the end, or at a frame's offset -/
def Cur (b : List UInt8) (pre : List (Nat × Fr)) (k : Nat) : Prop := (k = b.length ∧ spl b = .ok (pre.map Prod.snd)) ∨ (k < b.length ∧ pre.length ≤ k ∧ Live b pre k)
theorem Live.next {b : List UInt8} {pre : List (Nat × Fr)} {k k' : Nat} {f : Fr} (h : Live b pre k) (hl : pre.length ≤ k) (hf : fa b k = some f) (hn : na b (k + frL f) = some k') : Cur b (pre ++ [(k, f)]) k' ∧ k < k' ∧ k' ≤ b.length := by
  have h4 := frL_pos f
  have h5 := fa_len hf
  unfold na at hn
  split at hn
  · rename_i he
    simp only [Option.some.injEq] at hn
    subst hn
    exact ⟨.inl ⟨he, h.done hf he⟩, by omega, h5⟩
  · obtain ⟨_, h1, h2, _⟩ := nx_some hn
    exact ⟨.inr ⟨h2, by rw [List.length_append]; simp; omega, h.more hf hn⟩, by omega, by omega⟩
/-! ### one element that comes: an offset and a frame whose value lies in memory -/
structure Yf where
  k : Nat
  f : Fr
  A : Option Addr
  c : Nat
  le : k + frL f ≤ 10000000
def Yf.val (y : Yf) : Value := .slice y.A y.f.v.length y.c
/-- what a round keeps: what lay below n₀, and every block of cells but those that the caller's rounds may write (G); what they may write of what was there, they might before -/
structure KpG (G : World → Nat → Prop) (n₀ : Nat) (A B : World) : Prop where
  low : Below n₀ A B
  same : ∀ (i : Nat) (cs : Array Value) (t : TypeId) (z : Nat × Nat), ¬ G A i → A.heap[i]? = some (.cells cs t z) → B.heap[i]? = some (.cells cs t z)
  own : ∀ i, i < A.heap.size → G B i → G A i
section
variable {G : World → Nat → Prop} {n₀ : Nat} {A B C : World}
theorem KpG.refl (G : World → Nat → Prop) (n₀ : Nat) (A : World) : KpG G n₀ A A := ⟨Below.refl _ _, fun _ _ _ _ _ h => h, fun _ _ h => h⟩
theorem KpG.trans (h : KpG G n₀ A B) (k : KpG G n₀ B C) : KpG G n₀ A C :=
  ⟨h.low.trans k.low, fun i cs t z hg hi => k.same i cs t z (fun hb => hg (h.own i (Array.getElem?_eq_some_iff.1 hi).1 hb)) (h.same i cs t z hg hi), fun i hi hc => h.own i hi (k.own i (Nat.lt_of_lt_of_le hi h.low.size) hc)⟩
/-- the bytes of an element, in a row of their own -/
def RowG (G : World → Nat → Prop) (W : World) (A : Option Addr) (c : Nat) (l : List UInt8) : Prop :=
  (∃ base, W.ownsRow base 5 1 (.slice A l.length c) l.length (l.map bv)) ∧ ∀ u, A = some u → ¬ G W u.block
theorem RowG.keep {a : Option Addr} {c : Nat} {l : List UInt8} (h : RowG G A a c l) (k : KpG G n₀ A B) : RowG G B a c l := by
  obtain ⟨⟨base, h1, h2⟩, hg⟩ := h
  rcases h2 with h2 | ⟨g, cap, cur, h3, h4, h5, h6⟩
  · simp only [Value.slice.injEq] at h2
    obtain ⟨⟨rfl, h7, rfl⟩, h8⟩ := h2
    exact ⟨⟨base, h1, .inl ⟨by rw [h7], h8⟩⟩, fun u hu => by cases hu⟩
  · simp only [Value.slice.injEq] at h3
    obtain ⟨rfl, _, rfl⟩ := h3
    have hlt := (Array.getElem?_eq_some_iff.1 h5).1
    exact ⟨⟨base, h1, .inr ⟨g, c, cur, rfl, h4, k.same _ _ _ _ (hg _ rfl) h5, h6⟩⟩, fun u hu => by cases hu; exact fun hb => hg _ rfl (k.own _ hlt hb)⟩
end
theorem below_undrew {n : Nat} {w w' : World} (h : Below n w.drew w') : Below n w w' := ⟨h.os, h.tape, h.output, h.size, h.block⟩
theorem grown_of_below {A B : World} (h : Below A.heap.size A B) : A.grownBy B none := ⟨h.os, h.tape, h.output, h.size, fun k hk _ => h.block k hk⟩
end Go.Proofs.YteknmgmdmjmnmaaGreatDoor





namespace Go.Proofs.YteknmgmdmjmnmaaGreatDoor
open Go.RowKit Go.Shelf

attribute [local go_sem] Oper.semAt_some

/-- the blocks that the rounds may write: the list's variable, and the row that it holds -/
def SpG (Bl : Nat) (W : World) (i : Nat) : Prop := i = Bl ∨ ∃ (v : Value), Boxed W Bl 253 v ∧ v.ownBlock = some i
def ycells (ys : List Yf) : List Value := ys.flatMap fun y => [hv y.f.t, y.val]
structure SpI (w : World) (Bl : Nat) (ys : List Yf) (W : World) : Prop where
  box : ∃ v, Boxed W Bl 253 v ∧ W.ownsRow w.heap.size 255 2 v ys.length (ycells ys)
  r0 : Boxed W w.heap.size 253 (.slice none 0 0)
  r1 : Boxed W (w.heap.size + 1) 120 .nilIface
  low : Below w.heap.size w W

section
variable {w W W' A B : World} {Bl n₀ : Nat} {ys : List Yf}
theorem boxed_lt {i : Nat} {t : TypeId} {v : Value} (h : Boxed W i t v) : i < W.heap.size := (Array.getElem?_eq_some_iff.1 h).1
theorem boxed_uniq {i : Nat} {t : TypeId} {u v : Value} (h : Boxed W i t u) (k : Boxed W i t v) : u = v := by
  unfold Boxed at h k
  rw [h] at k
  simpa using k
theorem SpI.lt (h : SpI w Bl ys W) : ∀ i, SpG Bl W i → i < W.heap.size := by
  rintro i (rfl | ⟨v, hv, hi⟩)
  · obtain ⟨v, hv, _⟩ := h.box
    exact boxed_lt hv
  · obtain ⟨u, hu, hown⟩ := h.box
    rw [boxed_uniq hu hv] at hown
    exact (hown.lt i hi).2
end


theorem own_slice {w : World} {base e size n : Nat} {v : Value} {xs : List Value} (h : w.ownsRow base e size v n xs) : ∃ A c, v = .slice A n c := by
  rcases h.2 with ⟨rfl, rfl⟩ | ⟨g, cap, cur, rfl, _⟩
  · exact ⟨_, _, rfl⟩
  · exact ⟨_, _, rfl⟩
/-! ### what Split hands back -/
/-- the bytes of an element, in a row of their own, that a store of another type leaves as they are -/
def RowO (W : World) (A : Option Addr) (c : Nat) (l : List UInt8) : Prop := ∃ base, W.ownsRow base 5 1 (.slice A l.length c) l.length (l.map bv)
theorem RowO.set {W : World} {A : Option Addr} {c : Nat} {l : List UInt8} (h : RowO W A c l) {i : Nat} {t : TypeId} {v : Value} (hb : Boxed W i t v) (ht : t ≠ 5) (u : Value) : RowO (W.setCell ⟨i, 0, none⟩ u) A c l := by
  obtain ⟨base, h⟩ := h
  exact ⟨base, h.kept (grownBy_setCell' W i _) (.inr (hb.not_row ht h).symm)⟩
theorem RowO.put {W : World} {A : Option Addr} {c : Nat} {l : List UInt8} (h : RowO W A c l) {D : Nat} {o : Obj} (o' : Obj) (hD : W.heap[D]? = some o) (ho : o.isCells = false) : RowO (W.putObj D o') A c l := by
  obtain ⟨base, h⟩ := h
  exact ⟨base, ownsRow_putObj h _ hD ho⟩
/-! ### results that lie in two cells -/
end Go.Proofs.YteknmgmdmjmnmaaGreatDoor


