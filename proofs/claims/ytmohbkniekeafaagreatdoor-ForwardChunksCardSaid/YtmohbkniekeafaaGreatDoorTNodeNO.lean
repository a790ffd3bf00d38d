/- NodeN + NodeO -/
import Derived.Test.YtmohbkniekeafaaGreatDoorTNF

namespace Go.Proofs.YtmohbkniekeafaaGreatDoor
open Go.RowKit Go.Shelf

attribute [local go_sem] Oper.semAt_some

section
variable {w w' : World} {S S' : Nat → Prop} {A K : Option Addr} {c k B : Nat} {n : Nd} {ns : List Nd} {xs us : List Value} {v : Value} {l : List UInt8}
theorem LiesS.turn2 (h : LiesS w S A xs) (hk : ∀ (p : Addr) (u : Value), S p.block → w.cell? p = some u → w'.cell? p = some u) (hs : ∀ b, S b → S' b) : LiesS w' S' A xs := fun hne => by
  obtain ⟨ad, h1, h2, h3⟩ := h hne
  exact ⟨ad, h1, hs _ h2, fun j u hu => hk _ u (by rw [blk_add]; exact h2) (h3 j u hu)⟩
theorem IsBS.turn2 (h : IsBS w S v l) (hk : ∀ (p : Addr) (u : Value), S p.block → w.cell? p = some u → w'.cell? p = some u) (hs : ∀ b, S b → S' b) : IsBS w' S' v l := by
  obtain ⟨A, c, h1, h2, h3⟩ := h
  exact ⟨A, c, h1, h2.turn2 hk hs, h3⟩
theorem NodesS.turn2 (h : NodesS w S A ns) (hk : ∀ (p : Addr) (u : Value), S p.block → w.cell? p = some u → w'.cell? p = some u) (hs : ∀ b, S b → S' b) : NodesS w' S' A ns := by
  induction h with
  | mk vs K c lies len each kids ih =>
    refine .mk vs K c (lies.turn2 hk hs) len (fun i n hn => ?_) ih
    obtain ⟨h1, ⟨d, h2, h3⟩, h6⟩ := each i n hn
    exact ⟨h1, ⟨d, h2, h3.turn2 hk hs⟩, h6⟩
variable {Ks : Nat → Option Addr} {cs : Nat → Nat}
theorem Elems.turn2 (h : Elems w S us ns Ks cs) (hk : ∀ (p : Addr) (u : Value), S p.block → w.cell? p = some u → w'.cell? p = some u) (hs : ∀ b, S b → S' b) : Elems w' S' us ns Ks cs :=
  ⟨h.len, fun i n hn => by obtain ⟨h1, ⟨d, h2, h3⟩, h6⟩ := h.each i n hn; exact ⟨h1, ⟨d, h2, h3.turn2 hk hs⟩, h6⟩, fun i n hn => (h.kids i n hn).turn2 hk hs⟩
end
/-- the blocks that the rounds may write: the list's variable, and the row that it holds -/
def NpG (Bl : Nat) (W : World) (i : Nat) : Prop := i = Bl ∨ ∃ (v : Value), Boxed W Bl 42 v ∧ v.ownBlock = some i
/-- what parse holds (L: new memory; Bl: the list's variable) -/
structure NpI (w : World) (R : Fr → NR) (c d : Int) (Bl X : Nat) (ys : List Yf) (W : World) : Prop where
  box : ∃ v ns, Boxed W Bl 42 v ∧ NRow W (Bl + 1) v ns ∧ ys.map (fun y => R y.f) = ns.map NR.ok
  p0 : Boxed W w.heap.size 3 (.int .i64 c)
  p1 : Boxed W (w.heap.size + 1) 3 (.int .i64 d)
  r0 : Boxed W (w.heap.size + 1 + 1) 42 (.slice none 0 0)
  r1 : Boxed W (w.heap.size + 1 + 1 + 1) 55 .nilIface
  low : Below w.heap.size w W
  ge : Bl < W.heap.size
  sz : X ≤ W.heap.size
section
variable {w W A B : World} {R : Fr → NR} {c d : Int} {Bl X : Nat} {ys : List Yf}
theorem NpI.lt (h : NpI w R c d Bl X ys W) : ∀ i, NpG Bl W i → i < W.heap.size := by
  rintro i (rfl | ⟨v, hv, hi⟩)
  · exact h.ge
  · obtain ⟨u, ns, hu, hr, _⟩ := h.box
    obtain ⟨us, hown, _⟩ := hr.own
    rw [boxed_uniq hu hv] at hown
    exact (hown.lt i hi).2
/-- a row of nodes where nothing that is cells turns -/
theorem NRow.turn {L : Nat} {v : Value} {ns : List Nd} {row : Option Nat} (h : NRow A L v ns) (hg : A.grownBy B row) (hr : ∀ r, row = some r → ∃ o : Obj, A.heap[r]? = some o ∧ o.isCells = false) : NRow B L v ns := by
  obtain ⟨us, hown, Ks, cs, hE⟩ := h.own
  have hcell : ∀ (p : Addr) (u : Value), p.block < A.heap.size → A.cell? p = some u → B.cell? p = some u := fun p u h1 h2 => (World.cell?_of_block (hg.block p.block h1 fun e => by
    obtain ⟨o, ho, hoc⟩ := hr p.block e.symm
    unfold World.cell? at h2
    rw [ho] at h2
    cases o <;> first | (simp [Obj.isCells] at hoc; done) | (simp at h2; done))).trans h2
  refine ⟨us, hown.kept hg ?_, Ks, cs, ?_⟩
  · rcases hown.2 with ⟨rfl, _⟩ | ⟨g, cap, cur, rfl, _, hh, _⟩
    · exact .inl rfl
    · refine .inr (fun e => ?_)
      obtain ⟨o, ho, hoc⟩ := hr g e.symm
      rw [hh] at ho
      cases ho
      cases hoc
  · exact hE.turn2 (fun p u hp hu => hcell p u hp.2.1 hu) (fun b hb => ⟨hb.1, by have := hb.2.1; have := hg.size; omega, hb.2.2⟩)
end
end Go.Proofs.YtmohbkniekeafaaGreatDoor


