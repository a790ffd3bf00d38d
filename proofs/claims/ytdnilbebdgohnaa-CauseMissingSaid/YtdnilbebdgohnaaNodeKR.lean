/- NodeK + NodeL + NodeN + NodeR -/
import Derived.Test.YtdnilbebdgohnaaNodeF
import Derived.Test.YtdnilbebdgohnaaNodeH
import Derived.Test.YtdnilbebdgohnaaTlvE
import Derived.Test.YtdnilbebdgohnaaRange
import Derived.Test.YtdnilbebdgohnaaTlvF
import Derived.Test.YtdnilbebdgohnaaNodeI
import Derived.Test.YtdnilbebdgohnaaNodeE
import Derived.Test.YtdnilbebdgohnaaNodeB
import Derived.Test.YtdnilbebdgohnaaNodeG
import Derived.Deep.RegionHeld3



namespace Go.Proofs.Ytdnilbebdgohnaa
open Go.RowKit

inductive NR where
  | ok (n : Nd)
  | bad (code at_ : Nat)
/-! ### the offsets lie in the bytes -/
end Go.Proofs.Ytdnilbebdgohnaa




namespace Go.Proofs.Ytdnilbebdgohnaa
open Go.RowKit

theorem u8size (W : World) : (sizeOf 5).run Try.prog W = .ok 1 W := by kernel_rfl
theorem elem_u8 : Try.prog.elem 25 = 5 := by kernel_rfl
theorem slice_from {w : World} {B : Nat} (A : Option Addr) (c : Nat) (l : List UInt8) (k : Nat) (h : Lies w B A (l.map bv)) (hc : l.length ≤ c) (hm : c ≤ maxLen) (hk : k ≤ l.length) :
    ∃ A1 c1, (∀ W : World, (Instr.slice 25 (.slice A l.length c) (some (.int .i64 (k : Int))) none none).run Try.prog W = .ok (.slice A1 (l.drop k).length c1) W) ∧ Lies w B A1 ((l.drop k).map bv) ∧ (l.drop k).length ≤ c1 ∧ c1 ≤ maxLen := by
  refine ⟨if c = k then A else A.map (·.add k), c - k, fun W => ?_, ?_, by rw [List.length_drop]; omega, by omega⟩
  · rw [run_slice_l (P := Try.prog) W 25 A l.length c (by rw [elem_u8]; exact Try.underlying25) .i64 (k : Int) (by omega) (by omega), elem_u8, u8size]
    simp [Result.andThen, sliced]
  · have h2 := h.drop (k := k) (c := c) (by simpa using hc)
    rwa [← List.map_drop] at h2
theorem wpList_slice_is {P : Program} {ops : Array Oper} {rest : List Oper} {o : Oper} {a : Act} {w : World} {Q : Exit → Act → World → Prop} (hgd : o.guard = none) (t : TypeId) (x : Operand) (lo hi mx : Option Operand) (ho : o.op = .slice t x lo hi mx) (ht : P.underlying t = some (.slice (P.elem t)))
    (v : Value) (hr : (Instr.slice t (a.eval x) (lo.map a.eval) (hi.map a.eval) (mx.map a.eval)).run P w = .ok v w) (h : wpList P ops Q rest (a.put o.dst v) w) : wpList P ops Q (o :: rest) a w := by
  refine wpList_plain hgd fun _ hK => ?_
  unfold Oper.wp execOp
  simp only [ho, Sem.run_bind, Sem.run_pure, Result.andThen_ok, run_sliceAt_slice w t _ _ _ _ ht, hr]
  exact hK _ _ h

/-! ### how read and parse end -/
/-- the three variables of a reading: the frame, the result, the form -/
structure Box3 (W : World) (g0 g1 : Nat) (fr : Fr) (A : Option Addr) (cc : Nat) (F : Form) (lo : Int) : Prop where
  fb : Whole W g0 112 #[hv fr.t, .slice A fr.v.length cc]
  rs : Whole W (g0 + 1) 28 #[.int .u16 0, .slice none 0 0, .slice none 0 0]
  fo : Whole W g1 96 #[.int .i64 F.cl, hv F.ty, .string F.nm, .int .i64 lo, .int .i64 F.hi, .int .i64 F.un, .int .i64 F.ki]
section
variable {W W' : World} {g0 g1 : Nat} {fr : Fr} {A : Option Addr} {cc : Nat} {F : Form} {lo : Int}
theorem Box3.below (h : Box3 W g0 g1 fr A cc F lo) (hb : Below W.heap.size W W') : Box3 W' g0 g1 fr A cc F lo := ⟨h.fb.below hb h.fb.lt, h.rs.below hb h.rs.lt, h.fo.below hb h.fo.lt⟩
theorem Box3.c0 (h : Box3 W g0 g1 fr A cc F lo) : W.cell? ⟨g0, 0, none⟩ = some (hv fr.t) := by rw [h.fb.cell]; rfl
theorem Box3.c1 (h : Box3 W g0 g1 fr A cc F lo) : W.cell? ⟨g0, 1, none⟩ = some (.slice A fr.v.length cc) := by rw [h.fb.cell]; rfl
theorem Box3.k0 (h : Box3 W g0 g1 fr A cc F lo) : W.cell? ⟨g1, 0, none⟩ = some (.int .i64 F.cl) := by rw [h.fo.cell]; rfl
theorem Box3.k1 (h : Box3 W g0 g1 fr A cc F lo) : W.cell? ⟨g1, 1, none⟩ = some (hv F.ty) := by rw [h.fo.cell]; rfl
theorem Box3.k2 (h : Box3 W g0 g1 fr A cc F lo) : W.cell? ⟨g1, 2, none⟩ = some (.string F.nm) := by rw [h.fo.cell]; rfl
theorem Box3.k3 (h : Box3 W g0 g1 fr A cc F lo) : W.cell? ⟨g1, 3, none⟩ = some (.int .i64 lo) := by rw [h.fo.cell]; rfl
theorem Box3.k4 (h : Box3 W g0 g1 fr A cc F lo) : W.cell? ⟨g1, 4, none⟩ = some (.int .i64 F.hi) := by rw [h.fo.cell]; rfl
theorem Box3.k5 (h : Box3 W g0 g1 fr A cc F lo) : W.cell? ⟨g1, 5, none⟩ = some (.int .i64 F.un) := by rw [h.fo.cell]; rfl
theorem Box3.k6 (h : Box3 W g0 g1 fr A cc F lo) : W.cell? ⟨g1, 6, none⟩ = some (.int .i64 F.ki) := by rw [h.fo.cell]; rfl
theorem Box3.set (h : Box3 W g0 g1 fr A cc F lo) (u v x : Value) : Whole (((W.setCell ⟨g0 + 1, 0, none⟩ u).setCell ⟨g0 + 1, 1, none⟩ v).setCell ⟨g0 + 1, 2, none⟩ x) (g0 + 1) 28 #[u, v, x] := ((h.rs.set_ 0 _).set_ 1 _).set_ 2 _
end
end Go.Proofs.Ytdnilbebdgohnaa


namespace Go.Proofs.Ytdnilbebdgohnaa
open Go.RowKit Go.Shelf

attribute [local go_sem] Oper.semAt_some

section
variable {w w' : World} {S S' : Nat → Prop} {A K : Option Addr} {c k B : Nat} {n : Nd} {ns : List Nd} {xs us : List Value} {v : Value} {l : List UInt8}
theorem LiesS.turn2 (h : LiesS w S A xs) (hk : ∀ (p : Addr) (u : Value), S p.block → w.cell? p = some u → w'.cell? p = some u) (hs : ∀ b, S b → S' b) : LiesS w' S' A xs := fun hne => by
  obtain ⟨ad, h1, h2, h3⟩ := h hne
  exact ⟨ad, h1, hs _ h2, fun j u hu => hk _ u (by rw [blk_add]; exact h2) (h3 j u hu)⟩
theorem IsBS.turn2 (h : IsBS w S v l) (hk : ∀ (p : Addr) (u : Value), S p.block → w.cell? p = some u → w'.cell? p = some u) (hs : ∀ b, S b → S' b) : IsBS w' S' v l := by
  obtain ⟨A, c, h1, h2, h3⟩ := h
  exact ⟨A, c, h1, h2.turn2 hk hs, h3⟩
theorem NodesS.turn2 (h : NodesS w S A ns) (hk : ∀ (p : Addr) (u : Value), S p.block → w.cell? p = some u → w'.cell? p = some u) (hs : ∀ b, S b → S' b) : NodesS w' S' A ns := by
  induction h with
  | mk vs K c lies len each kids ih =>
    refine .mk vs K c (lies.turn2 hk hs) len (fun i n hn => ?_) ih
    obtain ⟨h1, ⟨d, h2, h3⟩, h6⟩ := each i n hn
    exact ⟨h1, ⟨d, h2, h3.turn2 hk hs⟩, h6⟩
variable {Ks : Nat → Option Addr} {cs : Nat → Nat}
theorem Elems.turn2 (h : Elems w S us ns Ks cs) (hk : ∀ (p : Addr) (u : Value), S p.block → w.cell? p = some u → w'.cell? p = some u) (hs : ∀ b, S b → S' b) : Elems w' S' us ns Ks cs :=
  ⟨h.len, fun i n hn => by obtain ⟨h1, ⟨d, h2, h3⟩, h6⟩ := h.each i n hn; exact ⟨h1, ⟨d, h2, h3.turn2 hk hs⟩, h6⟩, fun i n hn => (h.kids i n hn).turn2 hk hs⟩
end
/-- the blocks that the rounds may write: the list's variable, and the row that it holds -/
def NpG (Bl : Nat) (W : World) (i : Nat) : Prop := i = Bl ∨ ∃ (v : Value), Boxed W Bl 26 v ∧ v.ownBlock = some i
/-- what parse holds (L: new memory; Bl: the list's variable) -/
structure NpI (w : World) (R : Fr → NR) (c d : Int) (Bl X : Nat) (ys : List Yf) (W : World) : Prop where
  box : ∃ v ns, Boxed W Bl 26 v ∧ NRow W (Bl + 1) v ns ∧ ys.map (fun y => R y.f) = ns.map NR.ok
  p0 : Boxed W w.heap.size 3 (.int .i64 c)
  p1 : Boxed W (w.heap.size + 1) 3 (.int .i64 d)
  r0 : Boxed W (w.heap.size + 1 + 1) 26 (.slice none 0 0)
  r1 : Boxed W (w.heap.size + 1 + 1 + 1) 77 .nilIface
  low : Below w.heap.size w W
  ge : Bl < W.heap.size
  sz : X ≤ W.heap.size
section
variable {w W A B : World} {R : Fr → NR} {c d : Int} {Bl X : Nat} {ys : List Yf}
theorem NpI.lt (h : NpI w R c d Bl X ys W) : ∀ i, NpG Bl W i → i < W.heap.size := by
  rintro i (rfl | ⟨v, hv, hi⟩)
  · exact h.ge
  · obtain ⟨u, ns, hu, hr, _⟩ := h.box
    obtain ⟨us, hown, _⟩ := hr.own
    rw [boxed_uniq hu hv] at hown
    exact (hown.lt i hi).2
/-- a row of nodes where nothing that is cells turns -/
theorem NRow.turn {L : Nat} {v : Value} {ns : List Nd} {row : Option Nat} (h : NRow A L v ns) (hg : A.grownBy B row) (hr : ∀ r, row = some r → ∃ o : Obj, A.heap[r]? = some o ∧ o.isCells = false) : NRow B L v ns := by
  obtain ⟨us, hown, Ks, cs, hE⟩ := h.own
  have hcell : ∀ (p : Addr) (u : Value), p.block < A.heap.size → A.cell? p = some u → B.cell? p = some u := fun p u h1 h2 => (World.cell?_of_block (hg.block p.block h1 fun e => by
    obtain ⟨o, ho, hoc⟩ := hr p.block e.symm
    unfold World.cell? at h2
    rw [ho] at h2
    cases o <;> first | (simp [Obj.isCells] at hoc; done) | (simp at h2; done))).trans h2
  refine ⟨us, hown.kept hg ?_, Ks, cs, ?_⟩
  · rcases hown.2 with ⟨rfl, _⟩ | ⟨g, cap, cur, rfl, _, hh, _⟩
    · exact .inl rfl
    · refine .inr (fun e => ?_)
      obtain ⟨o, ho, hoc⟩ := hr g e.symm
      rw [hh] at ho
      cases ho
      cases hoc
  · exact hE.turn2 (fun p u hp hu => hcell p u hp.2.1 hu) (fun b hb => ⟨hb.1, by have := hb.2.1; have := hg.size; omega, hb.2.2⟩)
end
end Go.Proofs.Ytdnilbebdgohnaa






namespace Go.Proofs.Ytdnilbebdgohnaa
open Go.RowKit

/-- a variable that holds a node -/
def NdBox (W : World) (g : Nat) (n : Nd) (A : Option Addr) (c : Nat) (K : Option Addr) (k : Nat) : Prop := Whole W g 28 #[hv n.t, .slice A n.v.length c, .slice K n.ks.length k]
section
variable {W W2 : World} {g : Nat} {n : Nd} {A K : Option Addr} {c k : Nat}
theorem NdBox.c0 (h : NdBox W g n A c K k) : W.cell? ⟨g, 0, none⟩ = some (hv n.t) := by rw [Whole.cell h]; rfl
theorem NdBox.c1 (h : NdBox W g n A c K k) : W.cell? ⟨g, 1, none⟩ = some (.slice A n.v.length c) := by rw [Whole.cell h]; rfl
theorem NdBox.c2 (h : NdBox W g n A c K k) : W.cell? ⟨g, 2, none⟩ = some (.slice K n.ks.length k) := by rw [Whole.cell h]; rfl
theorem NdBox.below (h : NdBox W g n A c K k) (hb : Below W.heap.size W W2) : NdBox W2 g n A c K k := Whole.below h hb (Whole.lt h)
end
section
variable (w : World)
end

end Go.Proofs.Ytdnilbebdgohnaa

