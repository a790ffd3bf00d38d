/- NodeWA + NodeWB + NodeWC + NodeWD + NodeWE + NodeWF -/
/- Layer 8, the law's side: change. It writes into the blocks of the list alone, and every cell keeps its kind. -/
/- Layer 8, the reference: Clone. The new nodes lie in new blocks that may be written. -/
import Derived.Test.YteknmgmdmjmnmaaGreatDoorUNF
import Derived.Test.YteknmgmdmjmnmaaGreatDoorUA
import Derived.Test.YteknmgmdmjmnmaaGreatDoorUTC
import Derived.Test.YteknmgmdmjmnmaaGreatDoorUNO
import Derived.Test.YteknmgmdmjmnmaaGreatDoorUNA
import Derived.Test.YteknmgmdmjmnmaaGreatDoorUTA
import Derived.Test.YteknmgmdmjmnmaaGreatDoorUEL





namespace Go.Proofs.YteknmgmdmjmnmaaGreatDoor
open Go.RowKit Go.Shelf

attribute [local go_sem] Oper.semAt_some

section
variable {G : World → Nat → Prop} {n₀ : Nat} {A B : World}
theorem KpG.cell (k : KpG G n₀ A B) {p : Addr} {u : Value} (hg : ¬ G A p.block) (h : A.cell? p = some u) : B.cell? p = some u := by
  have h' := h
  unfold World.cell? at h'
  cases ho : A.heap[p.block]? with
  | none => rw [ho] at h'; simp at h'
  | some o =>
    rw [ho] at h'
    cases o <;> first | (simp at h'; done) | exact (World.cell?_of_block ((k.same _ _ _ _ hg ho).trans ho.symm)).trans h
/-- an element of a list that lies in certain blocks -/
theorem NodesS.at_ {w : World} {S : Nat → Prop} {a : Option Addr} {ns : List Nd} (h : NodesS w S a ns) {k : Nat} (hk : k < ns.length) :
    ∃ ad A' c' K' k' n, a = some ad ∧ S ad.block ∧ Hid (ns[k]? = some n) ∧ w.cell? (ad.add (k * 3)) = some (hv n.t) ∧ w.cell? ⟨(ad.add (k * 3)).block, (ad.add (k * 3)).off + 1, none⟩ = some (.slice A' n.v.length c') ∧
      w.cell? ⟨(ad.add (k * 3)).block, (ad.add (k * 3)).off + 2, none⟩ = some (.slice K' n.ks.length k') ∧ NodeS w S A' c' K' k' n := by
  cases h with
  | mk vs K c lies len each kids =>
    obtain ⟨h1, ⟨d, h2, A2, c2, rfl, h4, h5, h6⟩, h7, h8, h9⟩ := each k _ (List.getElem?_eq_getElem hk)
    obtain ⟨ad, ha, hb, hc⟩ := lies (fun e => by rw [e] at len; simp at len; omega)
    exact ⟨ad, A2, c2, K k, c k, ns[k], ha, hb, List.getElem?_eq_getElem hk, hc _ _ h1, by have h10 := hc _ _ h2; rw [← add_add'] at h10; exact h10,
      by have h10 := hc _ _ h7; rw [← add_add'] at h10; exact h10, ⟨h4, h5, h6, kids k _ (List.getElem?_eq_getElem hk), h8, h9⟩⟩
end
end Go.Proofs.YteknmgmdmjmnmaaGreatDoor


namespace Go.Proofs.YteknmgmdmjmnmaaGreatDoor
open Go.RowKit Go.Shelf

attribute [local go_sem] Oper.semAt_some

theorem run_store_fn {P : Program} {w : World} {a : Addr} {m : Mode} (fn : Fn) (first captured : Array Value) : (store a (.func fn first captured) m).run P w = stored P w a (.func fn first captured) m := run_store P w a _ m rfl
attribute [local go_sem] run_store_fn
end Go.Proofs.YteknmgmdmjmnmaaGreatDoor


namespace Go.Proofs.YteknmgmdmjmnmaaGreatDoor
open Go.RowKit Go.Shelf

section
variable {P : Program} (w : World)
end

section
variable {w : World} {S : Nat → Prop} {ns ns2 : List Nd} {us us2 : List Value} {Ks Ks2 : Nat → Option Addr} {cs cs2 : Nat → Nat}
theorem Elems.append (h : Elems w S us ns Ks cs) (h2 : Elems w S us2 ns2 Ks2 cs2) : ∃ K c, Elems w S (us ++ us2) (ns ++ ns2) K c := by
  have hl := h.len
  refine ⟨fun i => if i < ns.length then Ks i else Ks2 (i - ns.length), fun i => if i < ns.length then cs i else cs2 (i - ns.length), by simp [hl, h2.len]; omega, fun i m hm => ?_, fun i m hm => ?_⟩
  · rcases Nat.lt_or_ge i ns.length with hlt | hge
    · rw [List.getElem?_append_left hlt] at hm
      rw [List.getElem?_append_left (by omega), List.getElem?_append_left (by omega), List.getElem?_append_left (by omega)]
      simp only [hlt, if_true]
      exact h.each i m hm
    · rw [List.getElem?_append_right hge] at hm
      rw [List.getElem?_append_right (by omega), List.getElem?_append_right (by omega), List.getElem?_append_right (by omega), hl, show i * 3 - ns.length * 3 = (i - ns.length) * 3 by omega,
        show i * 3 + 1 - ns.length * 3 = (i - ns.length) * 3 + 1 by omega, show i * 3 + 2 - ns.length * 3 = (i - ns.length) * 3 + 2 by omega]
      simp only [show ¬ i < ns.length by omega, if_false]
      exact h2.each _ m hm
  · rcases Nat.lt_or_ge i ns.length with hlt | hge
    · rw [List.getElem?_append_left hlt] at hm
      simp only [hlt, if_true]
      exact h.kids i m hm
    · rw [List.getElem?_append_right hge] at hm
      simp only [show ¬ i < ns.length by omega, if_false]
      exact h2.kids _ m hm
end
end Go.Proofs.YteknmgmdmjmnmaaGreatDoor



namespace Go.Proofs.YteknmgmdmjmnmaaGreatDoor
open Go.RowKit Go.Shelf

attribute [local go_sem] Oper.semAt_some

/-- a block that may be written -/
def LooseB (w : World) (b : Nat) : Prop := ∃ cs t, w.heap[b]? = some (.cells cs t (0, 0))
theorem LooseB.frozen {w : World} {p : Addr} (h : LooseB w p.block) : w.frozen? p = false := by
  obtain ⟨cs, t, h⟩ := h
  simp [World.frozen?, h]
/-- some cells of certain blocks were written; each is of the kind that it was -/
structure Kin (S : Nat → Prop) (w w' : World) : Prop where
  os : w'.os = w.os
  tape : w'.tape = w.tape
  output : w'.output = w.output
  size : w'.heap.size = w.heap.size
  out : ∀ b, ¬ S b → w'.heap[b]? = w.heap[b]?
  loose : ∀ b, LooseB w b → LooseB w' b
  cell : ∀ q v, w.cell? q = some v → w'.cell? q = some v ∨ (∃ x y : UInt8, v = bv x ∧ w'.cell? q = some (bv y)) ∨ (∃ x y : UInt16, v = hv x ∧ w'.cell? q = some (hv y))
section
variable {S : Nat → Prop} {a b w w' : World}
theorem Kin.refl (S : Nat → Prop) (w : World) : Kin S w w := ⟨rfl, rfl, rfl, rfl, fun _ _ => rfl, fun _ h => h, fun _ _ h => .inl h⟩
theorem Kin.u8 (h : Kin S w w') {q : Addr} {x : UInt8} (hc : w.cell? q = some (bv x)) : ∃ y : UInt8, w'.cell? q = some (bv y) := by
  rcases h.cell q _ hc with h1 | ⟨_, y, _, h1⟩ | ⟨_, _, h1, _⟩
  · exact ⟨x, h1⟩
  · exact ⟨y, h1⟩
  · cases h1
theorem Kin.u16 (h : Kin S w w') {q : Addr} {x : UInt16} (hc : w.cell? q = some (hv x)) : ∃ y : UInt16, w'.cell? q = some (hv y) := by
  rcases h.cell q _ hc with h1 | ⟨_, _, h1, _⟩ | ⟨_, y, _, h1⟩
  · exact ⟨x, h1⟩
  · cases h1
  · exact ⟨y, h1⟩
theorem Kin.slice (h : Kin S w w') {q : Addr} {A : Option Addr} {m c : Nat} (hc : w.cell? q = some (.slice A m c)) : w'.cell? q = some (.slice A m c) := by
  rcases h.cell q _ hc with h1 | ⟨_, _, h1, _⟩ | ⟨_, _, h1, _⟩
  · exact h1
  · cases h1
  · cases h1
theorem Kin.trans (h : Kin S a b) (k : Kin S b w) : Kin S a w :=
  ⟨k.os.trans h.os, k.tape.trans h.tape, k.output.trans h.output, k.size.trans h.size, fun i hi => (k.out i hi).trans (h.out i hi), fun i hi => k.loose i (h.loose i hi), fun q v hv' => by
    rcases h.cell q v hv' with h1 | ⟨x, y, h1, h2⟩ | ⟨x, y, h1, h2⟩
    · exact k.cell q v h1
    · obtain ⟨z, hz⟩ := k.u8 h2
      exact .inr (.inl ⟨x, z, h1, hz⟩)
    · obtain ⟨z, hz⟩ := k.u16 h2
      exact .inr (.inr ⟨x, z, h1, hz⟩)⟩
theorem Kin.below (h : Kin S w w') {B : Nat} (hB : ∀ b, S b → B ≤ b) : Below B w w' :=
  ⟨h.os, h.tape, h.output, Nat.le_of_eq h.size.symm, fun k hk => h.out k fun hs => by have := hB k hs; omega⟩
end
/-- bytes of whatever values -/
def ShB (w : World) (S : Nat → Prop) (v : Value) (m : Nat) : Prop := ∃ A c, v = .slice A m c ∧ ∀ j, j < m → ∃ ad, A = some ad ∧ S ad.block ∧ ∃ x : UInt8, w.cell? (ad.add j) = some (bv x)
/-- nodes of whatever types and bytes, of the shape of a list -/
inductive Sh (w : World) (S : Nat → Prop) : Option Addr → List Nd → Prop
  | mk {A : Option Addr} {ns : List Nd} (K : Nat → Option Addr) (c : Nat → Nat)
      (row : ∀ (i : Nat) (n : Nd), ns[i]? = some n → ∃ ad, A = some ad ∧ S ad.block ∧ (∃ t : UInt16, w.cell? (ad.add (i * 3)) = some (hv t)) ∧ (∃ d, w.cell? (ad.add (i * 3 + 1)) = some d ∧ ShB w S d n.v.length) ∧ w.cell? (ad.add (i * 3 + 2)) = some (.slice (K i) n.ks.length (c i)))
      (kids : ∀ (i : Nat) (n : Nd), ns[i]? = some n → Sh w S (K i) n.ks) : Sh w S A ns
section
variable {S : Nat → Prop} {w w' : World} {A : Option Addr} {ns : List Nd}
theorem Sh.at_ (h : Sh w S A ns) {k : Nat} {n : Nd} (hn : ns[k]? = some n) :
    ∃ ad A' c' K' k', A = some ad ∧ S ad.block ∧ (∃ t : UInt16, w.cell? (ad.add (k * 3)) = some (hv t)) ∧ w.cell? ⟨(ad.add (k * 3)).block, (ad.add (k * 3)).off + 1, none⟩ = some (.slice A' n.v.length c') ∧
      w.cell? ⟨(ad.add (k * 3)).block, (ad.add (k * 3)).off + 2, none⟩ = some (.slice K' n.ks.length k') ∧ (∀ j, j < n.v.length → ∃ a2, A' = some a2 ∧ S a2.block ∧ ∃ x : UInt8, w.cell? (a2.add j) = some (bv x)) ∧ Sh w S K' n.ks := by
  cases h with
  | mk K c row kids =>
    obtain ⟨ad, h1, h2, h3, ⟨d, h4, A2, c2, rfl, h5⟩, h6⟩ := row k n hn
    exact ⟨ad, A2, c2, K k, c k, h1, h2, h3, by rw [← add_add'] at h4; exact h4, by rw [← add_add'] at h6; exact h6, h5, kids k n hn⟩
end
end Go.Proofs.YteknmgmdmjmnmaaGreatDoor




namespace Go.Proofs.YteknmgmdmjmnmaaGreatDoor
open Go.RowKit Go.Shelf

def RowL (L : Nat) (W : World) (v : Value) : Nat → Prop := fun b => L ≤ b ∧ b < W.heap.size ∧ some b ≠ v.ownBlock ∧ LooseB W b
structure NRowL (W : World) (L : Nat) (v : Value) (ns : List Nd) : Prop where
  own : ∃ us, W.ownsRow L 51 3 v ns.length us ∧ ∃ Ks cs, Elems W (RowL L W v) us ns Ks cs
theorem LooseB.same {w w' : World} {b : Nat} (h : LooseB w b) (e : w'.heap[b]? = w.heap[b]?) : LooseB w' b := by
  obtain ⟨cs, t, h⟩ := h
  exact ⟨cs, t, e.trans h⟩
theorem lies_ownL3 {w : World} {base e n c : Nat} {A : Option Addr} {xs : List Value} (h : w.ownsRow base e 3 (.slice A n c) n xs) : LiesS w (fun b => base ≤ b ∧ b < w.heap.size ∧ LooseB w b) A xs := fun hne => by
  rcases h.2 with ⟨h1, h2⟩ | ⟨g, cap, cur, h1, h2, h3, _⟩
  · refine absurd (List.eq_nil_of_length_eq_zero ?_) hne
    rw [h.1, h2]
  · simp only [Value.slice.injEq] at h1
    obtain ⟨rfl, _, _⟩ := h1
    exact ⟨_, rfl, ⟨h2, (Array.getElem?_eq_some_iff.1 h3).1, cur, e, h3⟩, h.cells (g := g) rfl⟩
theorem NRowL.nodesS {W : World} {L : Nat} {A : Option Addr} {c : Nat} {ns : List Nd} (h : NRowL W L (.slice A ns.length c) ns) : NodesS W (fun b => L ≤ b ∧ b < W.heap.size ∧ LooseB W b) A ns ∧ ns.length ≤ c ∧ c ≤ maxLen := by
  obtain ⟨us, h1, Ks, cs, h2⟩ := h.own
  exact ⟨(h2.turn (fun _ _ => rfl) fun b hb => ⟨hb.1, hb.2.1, hb.2.2.2⟩).nodesS (lies_ownL3 h1), own_cap3 h1⟩
/-- nothing but the row's own block turned, and the row grew by a node that lies behind what was there -/
theorem NRowL.grow {W W2 W3 : World} {L : Nat} {v v' : Value} {ns : List Nd} {us : List Value} {A K : Option Addr} {c k : Nat} {n : Nd} {Ks : Nat → Option Addr} {cs : Nat → Nat}
    (hrow : W.ownsRow L 51 3 v ns.length us) (hE : Elems W (RowL L W v) us ns Ks cs) (hLW : L ≤ W.heap.size) (hb : Below W.heap.size W W2) (hN : NodeS W2 (fun b => W.heap.size ≤ b ∧ b < W2.heap.size ∧ LooseB W2 b) A c K k n)
    (hg : W2.grownBy W3 v.ownBlock) (hown : W3.ownsRow L 51 3 v' (ns.length + 1) (us ++ [hv n.t, .slice A n.v.length c, .slice K n.ks.length k]))
    (hblk : (∃ q, W2.heap.size ≤ q ∧ v'.ownBlock = some q) ∨ (v'.ownBlock = v.ownBlock ∧ ∃ g, v.ownBlock = some g)) : NRowL W3 L v' (ns ++ [n]) := by
  have hlt : ∀ g, v.ownBlock = some g → g < W.heap.size := fun g hg => (hrow.lt g hg).2
  have hblock : ∀ b, b < W2.heap.size → some b ≠ v.ownBlock → W3.heap[b]? = W2.heap[b]? := fun b h1 h2 => hg.block b h1 h2
  have hkeep : ∀ p : Addr, p.block < W2.heap.size → some p.block ≠ v.ownBlock → W3.cell? p = W2.cell? p := fun p h1 h2 => World.cell?_of_block (hblock p.block h1 h2)
  have hs : ∀ b, (b < W.heap.size ∧ some b ≠ v.ownBlock) ∨ (W.heap.size ≤ b ∧ b < W2.heap.size) → some b ≠ v'.ownBlock := by
    rintro b hb' e
    rcases hblk with ⟨q, h1, h2⟩ | ⟨h1, _⟩
    · rw [h2] at e
      simp only [Option.some.injEq] at e
      have := hb.size
      omega
    · rw [h1] at e
      rcases hb' with h3 | h3
      · exact h3.2 e
      · have := hlt b e.symm
        omega
  have hE3 : Elems W3 (RowL L W3 v') us ns Ks cs := hE.turn (fun p hp => by
      have h1 := hb.size
      exact (hkeep p (by have := hp.2.1; omega) hp.2.2.1).trans (hb.cell hp.2.1)) (fun b hb' => by
      have h1 := hb.size
      have h2 := hb'.2.1
      exact ⟨hb'.1, by have := hg.size; omega, hs b (.inl ⟨hb'.2.1, hb'.2.2.1⟩), hb'.2.2.2.same ((hblock b (by omega) hb'.2.2.1).trans (hb.block b h2))⟩)
  have hN3 : NodeS W3 (RowL L W3 v') A c K k n := hN.turn (fun p hp => hkeep p hp.2.1 fun e => by have := hlt p.block e.symm; omega) (fun b hb' => ⟨by omega, by have := hg.size; omega, hs b (.inr ⟨hb'.1, hb'.2.1⟩), hb'.2.2.same (hblock b hb'.2.1 fun e => by have := hlt b e.symm; omega)⟩)
  obtain ⟨Ks', cs', h⟩ := hE3.snoc hN3
  exact ⟨⟨_, by rw [List.length_append]; exact hown, Ks', cs', h⟩⟩
end Go.Proofs.YteknmgmdmjmnmaaGreatDoor


