/- NodeWA + NodeWB + NodeWC + NodeWD + NodeWE + NodeWF -/
import Derived.Test.YtgjmgphmakiffaaGreatDoorQNF
import Derived.Test.YtgjmgphmakiffaaGreatDoorQA
import Derived.Test.YtgjmgphmakiffaaGreatDoorQTC
import Derived.Test.YtgjmgphmakiffaaGreatDoorQNodeNO
import Derived.Test.YtgjmgphmakiffaaGreatDoorQNA
import Derived.Test.YtgjmgphmakiffaaGreatDoorQTA
import Derived.Test.YtgjmgphmakiffaaGreatDoorQEachLv





namespace Go.Proofs.YtgjmgphmakiffaaGreatDoor
open Go.RowKit Go.Shelf

attribute [local go_sem] Oper.semAt_some

section
variable {G : World → Nat → Prop} {n₀ : Nat} {A B : World}
theorem KpG.cell (k : KpG G n₀ A B) {p : Addr} {u : Value} (hg : ¬ G A p.block) (h : A.cell? p = some u) : B.cell? p = some u := by
  have h' := h
  unfold World.cell? at h'
  cases ho : A.heap[p.block]? with
  | none => rw [ho] at h'; simp at h'
  | some o =>
    rw [ho] at h'
    cases o <;> first | (simp at h'; done) | exact (World.cell?_of_block ((k.same _ _ _ _ hg ho).trans ho.symm)).trans h
/-- an element of a list that lies in certain blocks -/
theorem NodesS.at_ {w : World} {S : Nat → Prop} {a : Option Addr} {ns : List Nd} (h : NodesS w S a ns) {k : Nat} (hk : k < ns.length) :
    ∃ ad A' c' K' k' n, a = some ad ∧ S ad.block ∧ Hid (ns[k]? = some n) ∧ w.cell? (ad.add (k * 3)) = some (hv n.t) ∧ w.cell? ⟨(ad.add (k * 3)).block, (ad.add (k * 3)).off + 1, none⟩ = some (.slice A' n.v.length c') ∧
      w.cell? ⟨(ad.add (k * 3)).block, (ad.add (k * 3)).off + 2, none⟩ = some (.slice K' n.ks.length k') ∧ NodeS w S A' c' K' k' n := by
  cases h with
  | mk vs K c lies len each kids =>
    obtain ⟨h1, ⟨d, h2, A2, c2, rfl, h4, h5, h6⟩, h7, h8, h9⟩ := each k _ (List.getElem?_eq_getElem hk)
    obtain ⟨ad, ha, hb, hc⟩ := lies (fun e => by rw [e] at len; simp at len; omega)
    exact ⟨ad, A2, c2, K k, c k, ns[k], ha, hb, List.getElem?_eq_getElem hk, hc _ _ h1, by have h10 := hc _ _ h2; rw [← add_add'] at h10; exact h10,
      by have h10 := hc _ _ h7; rw [← add_add'] at h10; exact h10, ⟨h4, h5, h6, kids k _ (List.getElem?_eq_getElem hk), h8, h9⟩⟩
end
end Go.Proofs.YtgjmgphmakiffaaGreatDoor


namespace Go.Proofs.YtgjmgphmakiffaaGreatDoor
open Go.RowKit Go.Shelf

attribute [local go_sem] Oper.semAt_some

theorem run_store_fn {P : Program} {w : World} {a : Addr} {m : Mode} (fn : Fn) (first captured : Array Value) : (store a (.func fn first captured) m).run P w = stored P w a (.func fn first captured) m := run_store P w a _ m rfl
attribute [local go_sem] run_store_fn
end Go.Proofs.YtgjmgphmakiffaaGreatDoor


namespace Go.Proofs.YtgjmgphmakiffaaGreatDoor
open Go.RowKit Go.Shelf

section
variable {P : Program} (w : World)
end

section
variable {w : World} {S : Nat → Prop} {ns ns2 : List Nd} {us us2 : List Value} {Ks Ks2 : Nat → Option Addr} {cs cs2 : Nat → Nat}
theorem Elems.append (h : Elems w S us ns Ks cs) (h2 : Elems w S us2 ns2 Ks2 cs2) : ∃ K c, Elems w S (us ++ us2) (ns ++ ns2) K c := by
  have hl := h.len
  refine ⟨fun i => if i < ns.length then Ks i else Ks2 (i - ns.length), fun i => if i < ns.length then cs i else cs2 (i - ns.length), by simp [hl, h2.len]; omega, fun i m hm => ?_, fun i m hm => ?_⟩
  · rcases Nat.lt_or_ge i ns.length with hlt | hge
    · rw [List.getElem?_append_left hlt] at hm
      rw [List.getElem?_append_left (by omega), List.getElem?_append_left (by omega), List.getElem?_append_left (by omega)]
      simp only [hlt, if_true]
      exact h.each i m hm
    · rw [List.getElem?_append_right hge] at hm
      rw [List.getElem?_append_right (by omega), List.getElem?_append_right (by omega), List.getElem?_append_right (by omega), hl, show i * 3 - ns.length * 3 = (i - ns.length) * 3 by omega,
        show i * 3 + 1 - ns.length * 3 = (i - ns.length) * 3 + 1 by omega, show i * 3 + 2 - ns.length * 3 = (i - ns.length) * 3 + 2 by omega]
      simp only [show ¬ i < ns.length by omega, if_false]
      exact h2.each _ m hm
  · rcases Nat.lt_or_ge i ns.length with hlt | hge
    · rw [List.getElem?_append_left hlt] at hm
      simp only [hlt, if_true]
      exact h.kids i m hm
    · rw [List.getElem?_append_right hge] at hm
      simp only [show ¬ i < ns.length by omega, if_false]
      exact h2.kids _ m hm
end
theorem own_belowW {w w' : World} {base e size n : Nat} {v : Value} {xs : List Value} (h : w.ownsRow base e size v n xs) (hb : Below w.heap.size w w') : w'.ownsRow base e size v n xs := by
  refine ⟨h.1, ?_⟩
  rcases h.2 with h2 | ⟨g, cap, cur, rfl, h3, h4, h5⟩
  · exact .inl h2
  · exact .inr ⟨g, cap, cur, rfl, h3, (hb.block g (Array.getElem?_eq_some_iff.1 h4).1).trans h4, h5⟩
end Go.Proofs.YtgjmgphmakiffaaGreatDoor


