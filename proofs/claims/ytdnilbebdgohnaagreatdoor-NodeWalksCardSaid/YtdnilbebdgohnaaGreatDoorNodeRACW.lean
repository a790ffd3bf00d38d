/- NodeRA + NodeRB + NodeRC -/
import Derived.Test.YtdnilbebdgohnaaGreatDoorNodeFG
import Derived.Test.YtdnilbebdgohnaaGreatDoorTlvD
import Derived.Test.YtdnilbebdgohnaaGreatDoorPadA
import Derived.Test.YtdnilbebdgohnaaGreatDoorWireA
import Derived.Test.YtdnilbebdgohnaaGreatDoorRefNS
import Derived.Deep.RegionHeld3
import Derived.Deep.Cut
import Derived.Test.YtdnilbebdgohnaaGreatDoorNodeAD
import Derived.Test.YtdnilbebdgohnaaGreatDoorHeadX
import Derived.Test.YtdnilbebdgohnaaGreatDoorNodeTV
import Derived.Test.YtdnilbebdgohnaaGreatDoorNodeS
import Derived.Test.YtdnilbebdgohnaaGreatDoorNodeUO






namespace Go.Proofs.YtdnilbebdgohnaaGreatDoor
open Go.ChangeShapes Go.WideShapes Go.ChangeAt Go.RowKit

/-! ### few nodes have few bytes -/
def sb : List Nd → Nat
  | [] => 0
  | x :: l => (7 + x.vlen) + sb l
theorem sizes_sb (l : List Nd) : sizes (lens l) ≤ sb l := by
  have h : ∀ (l : List Nd) (s : Nat), (lens l).foldl (fun s n => up s + n) s ≤ s + sb l := by
    intro l
    induction l with
    | nil => intro s; simp [lens, sb]
    | cons x l ih =>
      intro s
      have h1 := ih (up s + (4 + x.vlen))
      have h2 : up s ≤ s + 3 := by unfold up gap; omega
      simp only [lens, List.foldl_cons, sb]
      omega
  have := h l 0
  simpa [sizes] using this
theorem sb_mem {l : List Nd} {x : Nd} (h : x ∈ l) : x.vlen ≤ sb l := by
  induction l with
  | nil => cases h
  | cons y l ih =>
    unfold sb
    rcases List.mem_cons.1 h with rfl | h
    · omega
    · have := ih h; omega
theorem cl_bytes (g : Nd → Nat) : ∀ (l : List Nd) (n : Nat), cl g n l ≤ 200 → (∀ x ∈ l, g x ≤ 200 → sizes (lens x.ks) ≤ 1007 * g x) → 1007 * n + sb l ≤ 1007 * cl g n l
  | [], n, _, _ => by simp [cl, sb]
  | x :: l, n, h, hg => by
    have h0 := (cl_few g (x :: l) n h).2 x (by simp)
    have h1 := hg x (by simp) h0.1
    have h2 := x.vlen_eq
    unfold cl at h ⊢
    split at h
    · rename_i hn
      rw [if_pos hn]
      have h3 := cl_bytes g l _ h fun y hy => hg y (by simp [hy])
      unfold sb
      omega
    · rename_i hn
      omega
theorem few_bytes : ∀ (f : Nat) (l : List Nd), cnt f l ≤ 200 → sb l ≤ 1007 * cnt f l
  | 0, l, h => by simp [cnt] at h
  | f + 1, l, h => by
    unfold cnt at h ⊢
    have := cl_bytes _ l 0 h fun x _ hx => Nat.le_trans (sizes_sb x.ks) (few_bytes f x.ks hx)
    omega
theorem few_fine : ∀ (f : Nat) (l : List Nd), cnt f l ≤ 200 → l.length ≤ 200 ∧ sizes (lens l) ≤ 201400 ∧ ∀ x ∈ l, Fine x
  | 0, l, h => by simp [cnt] at h
  | f + 1, l, h => by
    have hb := few_bytes (f + 1) l h
    have hs := sizes_sb l
    have hs2 : sb l ≤ 201400 := by omega
    refine ⟨(few_of (f + 1) l h).1, by omega, fun x hx => ?_⟩
    have hv := sb_mem hx
    unfold cnt at h
    obtain ⟨_, h2⟩ := cl_few _ l 0 h
    obtain ⟨h3, _, h4⟩ := few_fine f x.ks (h2 x hx).1
    exact .mk (by omega) (by omega) h4
/-! ### right -/
/-- how Encode ends, its error by its code -/
theorem encode8 (c : Int) (A : Option Addr) (cc : Nat) (ns : List Nd) (w : World) (h : Nodes w w.heap.size A ns) (hn : ns.length ≤ 1000) (hf : ∀ n ∈ ns, Fine n) :
    Calls Tryz.prog 13 #[.int .i64 c, .slice A ns.length cc] w fun e w' => Below w.heap.size w w' ∧
      ((chkL c ns ≠ 0 ∧ e = .returned (.tuple #[.slice none 0 0, codeE (chkL c ns)])) ∨
       (chkL c ns = 0 ∧ ∃ A' c', e = .returned (.tuple #[.slice A' (jn (frs ns)).length c', codeE (chkL c ns)]) ∧ Lies w' w'.heap.size A' ((jn (frs ns)).map bv) ∧ (jn (frs ns)).length ≤ c' ∧ c' ≤ maxLen)) := by
  refine Calls.mono (R := EncR w c ns) (encode_any c A cc ns w h hn hf) ?_
  rintro e w1 ⟨b1, ⟨h2, rfl⟩ | ⟨h2, A1, c1, rfl, own1⟩⟩
  · refine ⟨b1, .inl ⟨h2, ?_⟩⟩
    unfold codeE
    rw [if_neg h2]
  · have hc := own_cap own1
    refine ⟨b1, .inr ⟨h2, A1, c1, ?_, Lies.own own1, hc.2.1, hc.2.2⟩⟩
    rw [h2]
    rfl
theorem chk_of_chkL {c : Int} {ns : List Nd} (h : chkL c ns = 0) : ∀ n ∈ ns, chk 4 c n = 0 := fun n hn => fst0_zero h _ (List.mem_map.2 ⟨n, hn, rfl⟩)
theorem fitN_of_chkL {c : Int} {ns : List Nd} (h : chkL c ns = 0) : ∀ n ∈ ns, FitN n := fun n hn => fit_of_chk 4 c n (chk_of_chkL h n hn)
end Go.Proofs.YtdnilbebdgohnaaGreatDoor

/- Layer 8: the law NodeSame, for whatever two nodes. It writes nothing that was there. -/




namespace Go.Proofs.YtdnilbebdgohnaaGreatDoor
open Go.ChangeShapes Go.WideShapes Go.ChangeAt Go.RowKit

/-- a node that lies in a block is a list of its own -/
theorem list1_of {V : World} {g : Nat} {n : Nd} {A K : Option Addr} {c k : Nat} (h : Whole V g 34 #[hv n.t, .slice A n.v.length c, .slice K n.ks.length k]) (hN : Node V V.heap.size A c K k n) : Nodes V V.heap.size (some ⟨g, 0, none⟩) [n] := by
  refine .mk [hv n.t, .slice A n.v.length c, .slice K n.ks.length k] (fun _ => K) (fun _ => k) (fun _ => ⟨_, rfl, h.lt, fun j x hx => ?_⟩) rfl (fun i m hm => ?_) (fun i m hm => ?_)
  · rw [add_row, h.cell]
    simpa using hx
  · match i, hm with
    | 0, hm => simp only [List.getElem?_cons_zero, Option.some.injEq] at hm; subst hm; exact ⟨rfl, ⟨_, rfl, A, c, rfl, hN.data, hN.dc, hN.dm⟩, rfl, hN.kc, hN.km⟩
    | i + 1, hm => simp at hm
  · match i, hm with
    | 0, hm => simp only [List.getElem?_cons_zero, Option.some.injEq] at hm; subst hm; exact hN.kids
    | i + 1, hm => simp at hm
theorem wnew1 (w : World) (o : Obj) (t : TypeId) (cs : Array Value) : Whole ((w.alloc o).alloc (.cells cs t)) (w.heap.size + 1) t cs := by
  have := Whole.new (w.alloc o) t cs
  rw [World.size_alloc] at this
  exact this
theorem few_one (n : Nd) (A : Option Addr) (c : Nat) (K : Option Addr) (k : Nat) (w : World) (h : Node w w.heap.size A c K k n) (hb : Bnd n) :
    Calls Tryz.prog 5 #[.slice (some ⟨w.heap.size, 0, none⟩) 1 1] (w.alloc (.cells #[hv n.t, .slice A n.v.length c, .slice K n.ks.length k] 34)) fun e w' => e = .returned (.bool (decide (cnt 21 [n] ≤ 200))) ∧ Below w.heap.size w w' := by
  have hal : Below w.heap.size w (w.alloc (.cells #[hv n.t, .slice A n.v.length c, .slice K n.ks.length k] 34)) := (Below.refl _ w).alloc (Nat.le_refl _) _
  refine (few_any (some ⟨w.heap.size, 0, none⟩) 1 [n] _ ((h.list1 34).more (by simp)) (by simp) (by intro m hm; rw [List.mem_singleton.1 hm]; exact hb)).mono ?_
  rintro e w1 ⟨rfl, b1⟩
  exact ⟨rfl, hal.trans (b1.mono hal.size)⟩
theorem few1_of {n : Nd} (h : cnt 21 [n] ≤ 200) : Few1 n := (few_of 21 [n] h).2 n (by simp)
end Go.Proofs.YtdnilbebdgohnaaGreatDoor

