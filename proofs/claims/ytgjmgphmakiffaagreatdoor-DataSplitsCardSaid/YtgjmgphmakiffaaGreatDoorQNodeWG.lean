/- Layer 8, the law's side: change. It writes into the blocks of the list alone, and every cell keeps its kind. -/
import Derived.Test.YtgjmgphmakiffaaGreatDoorQNodeWX

namespace Go.Proofs.YtgjmgphmakiffaaGreatDoor
open Go.RowKit Go.Shelf

attribute [local go_sem] Oper.semAt_some

/-- a block that may be written -/
def LooseB (w : World) (b : Nat) : Prop := ∃ cs t, w.heap[b]? = some (.cells cs t (0, 0))
theorem LooseB.frozen {w : World} {p : Addr} (h : LooseB w p.block) : w.frozen? p = false := by
  obtain ⟨cs, t, h⟩ := h
  simp [World.frozen?, h]
/-- some cells of certain blocks were written; each is of the kind that it was -/
structure Kin (S : Nat → Prop) (w w' : World) : Prop where
  os : w'.os = w.os
  tape : w'.tape = w.tape
  output : w'.output = w.output
  size : w'.heap.size = w.heap.size
  out : ∀ b, ¬ S b → w'.heap[b]? = w.heap[b]?
  loose : ∀ b, LooseB w b → LooseB w' b
  cell : ∀ q v, w.cell? q = some v → w'.cell? q = some v ∨ (∃ x y : UInt8, v = bv x ∧ w'.cell? q = some (bv y)) ∨ (∃ x y : UInt16, v = hv x ∧ w'.cell? q = some (hv y))
section
variable {S : Nat → Prop} {a b w w' : World}
theorem Kin.refl (S : Nat → Prop) (w : World) : Kin S w w := ⟨rfl, rfl, rfl, rfl, fun _ _ => rfl, fun _ h => h, fun _ _ h => .inl h⟩
theorem Kin.u8 (h : Kin S w w') {q : Addr} {x : UInt8} (hc : w.cell? q = some (bv x)) : ∃ y : UInt8, w'.cell? q = some (bv y) := by
  rcases h.cell q _ hc with h1 | ⟨_, y, _, h1⟩ | ⟨_, _, h1, _⟩
  · exact ⟨x, h1⟩
  · exact ⟨y, h1⟩
  · cases h1
theorem Kin.u16 (h : Kin S w w') {q : Addr} {x : UInt16} (hc : w.cell? q = some (hv x)) : ∃ y : UInt16, w'.cell? q = some (hv y) := by
  rcases h.cell q _ hc with h1 | ⟨_, _, h1, _⟩ | ⟨_, y, _, h1⟩
  · exact ⟨x, h1⟩
  · cases h1
  · exact ⟨y, h1⟩
theorem Kin.slice (h : Kin S w w') {q : Addr} {A : Option Addr} {m c : Nat} (hc : w.cell? q = some (.slice A m c)) : w'.cell? q = some (.slice A m c) := by
  rcases h.cell q _ hc with h1 | ⟨_, _, h1, _⟩ | ⟨_, _, h1, _⟩
  · exact h1
  · cases h1
  · cases h1
theorem Kin.trans (h : Kin S a b) (k : Kin S b w) : Kin S a w :=
  ⟨k.os.trans h.os, k.tape.trans h.tape, k.output.trans h.output, k.size.trans h.size, fun i hi => (k.out i hi).trans (h.out i hi), fun i hi => k.loose i (h.loose i hi), fun q v hv' => by
    rcases h.cell q v hv' with h1 | ⟨x, y, h1, h2⟩ | ⟨x, y, h1, h2⟩
    · exact k.cell q v h1
    · obtain ⟨z, hz⟩ := k.u8 h2
      exact .inr (.inl ⟨x, z, h1, hz⟩)
    · obtain ⟨z, hz⟩ := k.u16 h2
      exact .inr (.inr ⟨x, z, h1, hz⟩)⟩
theorem Kin.below (h : Kin S w w') {B : Nat} (hB : ∀ b, S b → B ≤ b) : Below B w w' :=
  ⟨h.os, h.tape, h.output, Nat.le_of_eq h.size.symm, fun k hk => h.out k fun hs => by have := hB k hs; omega⟩
end
/-- bytes of whatever values -/
def ShB (w : World) (S : Nat → Prop) (v : Value) (m : Nat) : Prop := ∃ A c, v = .slice A m c ∧ ∀ j, j < m → ∃ ad, A = some ad ∧ S ad.block ∧ ∃ x : UInt8, w.cell? (ad.add j) = some (bv x)
/-- nodes of whatever types and bytes, of the shape of a list -/
inductive Sh (w : World) (S : Nat → Prop) : Option Addr → List Nd → Prop
  | mk {A : Option Addr} {ns : List Nd} (K : Nat → Option Addr) (c : Nat → Nat)
      (row : ∀ (i : Nat) (n : Nd), ns[i]? = some n → ∃ ad, A = some ad ∧ S ad.block ∧ (∃ t : UInt16, w.cell? (ad.add (i * 3)) = some (hv t)) ∧ (∃ d, w.cell? (ad.add (i * 3 + 1)) = some d ∧ ShB w S d n.v.length) ∧ w.cell? (ad.add (i * 3 + 2)) = some (.slice (K i) n.ks.length (c i)))
      (kids : ∀ (i : Nat) (n : Nd), ns[i]? = some n → Sh w S (K i) n.ks) : Sh w S A ns
section
variable {S : Nat → Prop} {w w' : World} {A : Option Addr} {ns : List Nd}
theorem Sh.at_ (h : Sh w S A ns) {k : Nat} {n : Nd} (hn : ns[k]? = some n) :
    ∃ ad A' c' K' k', A = some ad ∧ S ad.block ∧ (∃ t : UInt16, w.cell? (ad.add (k * 3)) = some (hv t)) ∧ w.cell? ⟨(ad.add (k * 3)).block, (ad.add (k * 3)).off + 1, none⟩ = some (.slice A' n.v.length c') ∧
      w.cell? ⟨(ad.add (k * 3)).block, (ad.add (k * 3)).off + 2, none⟩ = some (.slice K' n.ks.length k') ∧ (∀ j, j < n.v.length → ∃ a2, A' = some a2 ∧ S a2.block ∧ ∃ x : UInt8, w.cell? (a2.add j) = some (bv x)) ∧ Sh w S K' n.ks := by
  cases h with
  | mk K c row kids =>
    obtain ⟨ad, h1, h2, h3, ⟨d, h4, A2, c2, rfl, h5⟩, h6⟩ := row k n hn
    exact ⟨ad, A2, c2, K k, c k, h1, h2, h3, by rw [← add_add'] at h4; exact h4, by rw [← add_add'] at h6; exact h6, h5, kids k n hn⟩
end
end Go.Proofs.YtgjmgphmakiffaaGreatDoor


