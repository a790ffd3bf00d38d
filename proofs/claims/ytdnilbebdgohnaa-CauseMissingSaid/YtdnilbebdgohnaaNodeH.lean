/- Layer 8: nodes that lie in certain blocks alone; a row of nodes that grows. No condition of its own. -/
import Derived.Test.YtdnilbebdgohnaaNodeA
import Derived.Test.YtdnilbebdgohnaaAppOne
import Derived.Test.YtdnilbebdgohnaaTlvE



namespace Go.Proofs.Ytdnilbebdgohnaa
open Go.RowKit

def LiesS (w : World) (S : Nat → Prop) (A : Option Addr) (xs : List Value) : Prop :=
  xs ≠ [] → ∃ ad, A = some ad ∧ S ad.block ∧ ∀ j u, xs[j]? = some u → w.cell? (ad.add j) = some u
def IsBS (w : World) (S : Nat → Prop) (v : Value) (l : List UInt8) : Prop := ∃ A c, v = .slice A l.length c ∧ LiesS w S A (l.map bv) ∧ l.length ≤ c ∧ c ≤ maxLen
inductive NodesS (w : World) (S : Nat → Prop) : Option Addr → List Nd → Prop
  | mk {A : Option Addr} {ns : List Nd} (vs : List Value) (K : Nat → Option Addr) (c : Nat → Nat) (lies : LiesS w S A vs) (len : vs.length = ns.length * 3)
      (each : ∀ (i : Nat) (n : Nd), ns[i]? = some n → vs[i * 3]? = some (hv n.t) ∧ (∃ d, vs[i * 3 + 1]? = some d ∧ IsBS w S d n.v) ∧ vs[i * 3 + 2]? = some (.slice (K i) n.ks.length (c i)) ∧ n.ks.length ≤ c i ∧ c i ≤ maxLen)
      (kids : ∀ (i : Nat) (n : Nd), ns[i]? = some n → NodesS w S (K i) n.ks) : NodesS w S A ns
structure NodeS (w : World) (S : Nat → Prop) (A : Option Addr) (c : Nat) (K : Option Addr) (k : Nat) (n : Nd) : Prop where
  data : LiesS w S A (n.v.map bv)
  dc : n.v.length ≤ c
  dm : c ≤ maxLen
  kids : NodesS w S K n.ks
  kc : n.ks.length ≤ k
  km : k ≤ maxLen
/-- the cells of a row of nodes -/
structure Elems (w : World) (S : Nat → Prop) (us : List Value) (ns : List Nd) (K : Nat → Option Addr) (c : Nat → Nat) : Prop where
  len : us.length = ns.length * 3
  each : ∀ (i : Nat) (n : Nd), ns[i]? = some n → us[i * 3]? = some (hv n.t) ∧ (∃ d, us[i * 3 + 1]? = some d ∧ IsBS w S d n.v) ∧ us[i * 3 + 2]? = some (.slice (K i) n.ks.length (c i)) ∧ n.ks.length ≤ c i ∧ c i ≤ maxLen
  kids : ∀ (i : Nat) (n : Nd), ns[i]? = some n → NodesS w S (K i) n.ks
section
variable {w w' : World} {S S' : Nat → Prop} {A K : Option Addr} {c k B : Nat} {n : Nd} {ns : List Nd} {xs us : List Value} {v : Value} {l : List UInt8}
theorem LiesS.turn (h : LiesS w S A xs) (hk : ∀ p : Addr, S p.block → w'.cell? p = w.cell? p) (hs : ∀ b, S b → S' b) : LiesS w' S' A xs := fun hne => by
  obtain ⟨ad, h1, h2, h3⟩ := h hne
  exact ⟨ad, h1, hs _ h2, fun j u hu => (hk _ (by rw [blk_add]; exact h2)).trans (h3 j u hu)⟩
theorem LiesS.lies (h : LiesS w S A xs) (hs : ∀ b, S b → b < B) : Lies w B A xs := fun hne => by
  obtain ⟨ad, h1, h2, h3⟩ := h hne
  exact ⟨ad, h1, hs _ h2, h3⟩
theorem IsBS.turn (h : IsBS w S v l) (hk : ∀ p : Addr, S p.block → w'.cell? p = w.cell? p) (hs : ∀ b, S b → S' b) : IsBS w' S' v l := by
  obtain ⟨A, c, h1, h2, h3⟩ := h
  exact ⟨A, c, h1, h2.turn hk hs, h3⟩
theorem NodesS.turn (h : NodesS w S A ns) (hk : ∀ p : Addr, S p.block → w'.cell? p = w.cell? p) (hs : ∀ b, S b → S' b) : NodesS w' S' A ns := by
  induction h with
  | mk vs K c lies len each kids ih =>
    refine .mk vs K c (lies.turn hk hs) len (fun i n hn => ?_) ih
    obtain ⟨h1, ⟨d, h2, h3⟩, h6⟩ := each i n hn
    exact ⟨h1, ⟨d, h2, h3.turn hk hs⟩, h6⟩
theorem NodesS.nodes (h : NodesS w S A ns) (hs : ∀ b, S b → b < B) : Nodes w B A ns := by
  induction h with
  | mk vs K c lies len each kids ih =>
    refine .mk vs K c (lies.lies hs) len (fun i n hn => ?_) ih
    obtain ⟨h1, ⟨d, h2, A2, c2, h3, h4, h5⟩, h6⟩ := each i n hn
    exact ⟨h1, ⟨d, h2, A2, c2, h3, h4.lies hs, h5⟩, h6⟩
theorem NodesS.nil (w : World) (S : Nat → Prop) (A : Option Addr) : NodesS w S A [] := .mk [] (fun _ => none) (fun _ => 0) (fun h => absurd rfl h) rfl (fun i n h => by simp at h) (fun i n h => by simp at h)
theorem NodeS.turn (h : NodeS w S A c K k n) (hk : ∀ p : Addr, S p.block → w'.cell? p = w.cell? p) (hs : ∀ b, S b → S' b) : NodeS w' S' A c K k n :=
  ⟨h.data.turn hk hs, h.dc, h.dm, h.kids.turn hk hs, h.kc, h.km⟩
theorem NodeS.node (h : NodeS w S A c K k n) (hs : ∀ b, S b → b < B) : Node w B A c K k n := ⟨h.data.lies hs, h.dc, h.dm, h.kids.nodes hs, h.kc, h.km⟩
variable {Ks : Nat → Option Addr} {cs : Nat → Nat}
theorem Elems.turn (h : Elems w S us ns Ks cs) (hk : ∀ p : Addr, S p.block → w'.cell? p = w.cell? p) (hs : ∀ b, S b → S' b) : Elems w' S' us ns Ks cs :=
  ⟨h.len, fun i n hn => by obtain ⟨h1, ⟨d, h2, h3⟩, h6⟩ := h.each i n hn; exact ⟨h1, ⟨d, h2, h3.turn hk hs⟩, h6⟩, fun i n hn => (h.kids i n hn).turn hk hs⟩
theorem Elems.nil (w : World) (S : Nat → Prop) : Elems w S [] [] (fun _ => none) (fun _ => 0) := ⟨rfl, fun i n h => by simp at h, fun i n h => by simp at h⟩
theorem Elems.snoc (h : Elems w S us ns Ks cs) (hN : NodeS w S A c K k n) :
    ∃ Ks' cs', Elems w S (us ++ [hv n.t, .slice A n.v.length c, .slice K n.ks.length k]) (ns ++ [n]) Ks' cs' := by
  have hl := h.len
  refine ⟨fun i => if i = ns.length then K else Ks i, fun i => if i = ns.length then k else cs i, by simp [hl]; omega, fun i m hm => ?_, fun i m hm => ?_⟩
  · rcases Nat.lt_or_ge i ns.length with hlt | hge
    · rw [List.getElem?_append_left hlt] at hm
      obtain ⟨h1, ⟨d, h2, h3⟩, h4, h5⟩ := h.each i m hm
      rw [List.getElem?_append_left (by omega), List.getElem?_append_left (by omega), List.getElem?_append_left (by omega)]
      simp only [show ¬ i = ns.length by omega, if_false]
      exact ⟨h1, ⟨d, h2, h3⟩, h4, h5⟩
    · rw [List.getElem?_append_right hge] at hm
      have hi : i = ns.length := by
        have := (List.getElem?_eq_some_iff.1 hm).1
        simp at this
        omega
      subst hi
      simp only [Nat.sub_self, List.getElem?_cons_zero, Option.some.injEq] at hm
      subst hm
      rw [List.getElem?_append_right (by omega), List.getElem?_append_right (by omega), List.getElem?_append_right (by omega), hl, Nat.sub_self, show ns.length * 3 + 1 - ns.length * 3 = 1 by omega, show ns.length * 3 + 2 - ns.length * 3 = 2 by omega]
      simp only [if_true]
      exact ⟨rfl, ⟨_, rfl, A, c, rfl, hN.data, hN.dc, hN.dm⟩, rfl, hN.kc, hN.km⟩
  · rcases Nat.lt_or_ge i ns.length with hlt | hge
    · rw [List.getElem?_append_left hlt] at hm
      simp only [show ¬ i = ns.length by omega, if_false]
      exact h.kids i m hm
    · rw [List.getElem?_append_right hge] at hm
      have hi : i = ns.length := by
        have := (List.getElem?_eq_some_iff.1 hm).1
        simp at this
        omega
      subst hi
      simp only [Nat.sub_self, List.getElem?_cons_zero, Option.some.injEq] at hm
      subst hm
      simp only [if_true]
      exact hN.kids
theorem Elems.nodesS (h : Elems w S us ns Ks cs) (hl : LiesS w S A us) : NodesS w S A ns := .mk us Ks cs hl h.len h.each h.kids
end

/-! ### a row of whatever elements that grows by one -/
theorem wpList_append_told {P : Program} (w : World) {ops : Array Oper} {rest : List Oper} {o : Oper} {a : Act} {Q : Exit → Act → World → Prop}
    (hgd : o.guard = none) (s x : Operand) (t : TypeId) (hop : o.op = .call { callee := .builtin .append, args := #[s, x], argTypes := #[t, t] })
    (base : Nat) (e : TypeId) (z : Value) (size bytes : Nat) (ht : P.underlying t = some (.slice e)) (hi : (P.info? e).map (fun i => (i.zero, i.size, i.bytes)) = some (some z, size, bytes))
    (hzs : z.cells.size = size) (hsz : 0 < size)
    (v : Value) (n : Nat) (xs : List Value) (hs : a.eval s = v) (hown : w.ownsRow base e size v n xs)
    (ad : Addr) (m c : Nat) (hm : 0 < m) (news : List Value) (hx : a.eval x = .slice (some ad) m c) (hl : news.length = m * size) (hnews : ∀ j u, news[j]? = some u → w.cell? (ad.add j) = some u) (h1 : ∀ u ∈ news, u.oneCell' = true)
    (h63 : n + m ≤ maxLen) (hbytes : (n + m) * bytes ≤ 140737488355328) (hbase : base ≤ w.heap.size)
    (h : ∀ v' w', w'.ownsRow base e size v' (n + m) (xs ++ news) → w.grownBy w' v.ownBlock → (v'.ownBlock = some w.heap.size ∨ (v'.ownBlock = v.ownBlock ∧ ∃ g, v.ownBlock = some g)) → wpList P ops Q rest (a.put o.dst v') w') : wpList P ops Q (o :: rest) a w := by
  obtain ⟨i, hi0, hi1, hi2, hi3⟩ := info_parts hi
  refine wpList_plain hgd fun K hK' => ?_
  obtain ⟨v', w', hr, h2, h3, h4⟩ := run_append_told (P := P) w base t o.type e i z size bytes ht hi0 hi1 hi2 hi3 hzs hsz v n xs hown ad m c hm news hl hnews h1 h63 hbytes hbase
  unfold Oper.wp
  simp only [execOp, hop, resolve, invoke, builtin, Sem.run_bind, Sem.run_pure, Result.andThen_ok, List.map_toArray, List.map_cons, List.map_nil, hs, hx, hr]
  exact hK' _ _ (h v' w' h2 h3 h4)
/-- what a row of nodes of a call's own owns, with what lies behind its elements: no element lies in the row's own block -/
def RowS (L : Nat) (W : World) (v : Value) : Nat → Prop := fun b => L ≤ b ∧ b < W.heap.size ∧ some b ≠ v.ownBlock
structure NRow (W : World) (L : Nat) (v : Value) (ns : List Nd) : Prop where
  own : ∃ us, W.ownsRow L 28 3 v ns.length us ∧ ∃ Ks cs, Elems W (RowS L W v) us ns Ks cs
theorem lies_own3 {w : World} {base e n c : Nat} {A : Option Addr} {xs : List Value} (h : w.ownsRow base e 3 (.slice A n c) n xs) : LiesS w (fun b => base ≤ b ∧ b < w.heap.size) A xs := fun hne => by
  rcases h.2 with ⟨h1, h2⟩ | ⟨g, cap, cur, h1, h2, h3, _⟩
  · refine absurd (List.eq_nil_of_length_eq_zero ?_) hne
    rw [h.1, h2]
  · simp only [Value.slice.injEq] at h1
    obtain ⟨rfl, _, _⟩ := h1
    exact ⟨_, rfl, ⟨h2, (Array.getElem?_eq_some_iff.1 h3).1⟩, h.cells (g := g) rfl⟩
theorem own_cap3 {w : World} {base e n c : Nat} {A : Option Addr} {xs : List Value} (h : w.ownsRow base e 3 (.slice A n c) n xs) : n ≤ c ∧ c ≤ maxLen := by
  rcases h.2 with ⟨h1, h2⟩ | ⟨g, cap, cur, h1, _, _, h3, h4, _⟩
  · simp only [Value.slice.injEq] at h1
    omega
  · simp only [Value.slice.injEq] at h1
    omega
theorem own_below3 {w w' : World} {base e n : Nat} {v : Value} {xs : List Value} (h : w.ownsRow base e 3 v n xs) (hb : Below w.heap.size w w') : w'.ownsRow base e 3 v n xs := by
  refine ⟨h.1, ?_⟩
  rcases h.2 with h2 | ⟨g, cap, cur, rfl, h3, h4, h5⟩
  · exact .inl h2
  · exact .inr ⟨g, cap, cur, rfl, h3, (hb.block g (Array.getElem?_eq_some_iff.1 h4).1).trans h4, h5⟩
theorem own_slice3 {w : World} {base e n : Nat} {v : Value} {xs : List Value} (h : w.ownsRow base e 3 v n xs) : ∃ A c, v = .slice A n c := by
  rcases h.2 with ⟨rfl, h2⟩ | ⟨g, cap, cur, h1, _⟩
  · exact ⟨none, 0, by rw [h2]⟩
  · exact ⟨_, _, h1⟩
theorem NRow.nodesS {W : World} {L : Nat} {A : Option Addr} {c : Nat} {ns : List Nd} (h : NRow W L (.slice A ns.length c) ns) : NodesS W (fun b => L ≤ b ∧ b < W.heap.size) A ns ∧ ns.length ≤ c ∧ c ≤ maxLen := by
  obtain ⟨us, h1, Ks, cs, h2⟩ := h.own
  exact ⟨(h2.turn (fun _ _ => rfl) fun b hb => ⟨hb.1, hb.2.1⟩).nodesS (lies_own3 h1), own_cap3 h1⟩
theorem ndinfo : (Try.prog.info? 28).map (fun i => (i.zero, i.size, i.bytes)) = some (some (.agg #[.int .u16 0, .slice none 0 0, .slice none 0 0]), 3, 56) := by kernel_rfl
/-- nothing but the row's own block turned, and the row grew by a node that lies behind what was there -/
theorem NRow.grow {W W2 W3 : World} {L : Nat} {v v' : Value} {ns : List Nd} {us : List Value} {A K : Option Addr} {c k : Nat} {n : Nd} {Ks : Nat → Option Addr} {cs : Nat → Nat}
    (hrow : W.ownsRow L 28 3 v ns.length us) (hE : Elems W (RowS L W v) us ns Ks cs) (hLW : L ≤ W.heap.size) (hb : Below W.heap.size W W2) (hN : NodeS W2 (fun b => W.heap.size ≤ b ∧ b < W2.heap.size) A c K k n)
    (hg : W2.grownBy W3 v.ownBlock) (hown : W3.ownsRow L 28 3 v' (ns.length + 1) (us ++ [hv n.t, .slice A n.v.length c, .slice K n.ks.length k]))
    (hblk : (∃ q, W2.heap.size ≤ q ∧ v'.ownBlock = some q) ∨ (v'.ownBlock = v.ownBlock ∧ ∃ g, v.ownBlock = some g)) : NRow W3 L v' (ns ++ [n]) := by
  have hlt : ∀ g, v.ownBlock = some g → g < W.heap.size := fun g hg => (hrow.lt g hg).2
  have hkeep : ∀ p : Addr, p.block < W2.heap.size → some p.block ≠ v.ownBlock → W3.cell? p = W2.cell? p := fun p h1 h2 => World.cell?_of_block (hg.block p.block h1 h2)
  have hs : ∀ b, (b < W.heap.size ∧ some b ≠ v.ownBlock) ∨ (W.heap.size ≤ b ∧ b < W2.heap.size) → some b ≠ v'.ownBlock := by
    rintro b hb' e
    rcases hblk with ⟨q, h1, h2⟩ | ⟨h1, _⟩
    · rw [h2] at e
      simp only [Option.some.injEq] at e
      have := hb.size
      omega
    · rw [h1] at e
      rcases hb' with h3 | h3
      · exact h3.2 e
      · have := hlt b e.symm
        omega
  have hE3 : Elems W3 (RowS L W3 v') us ns Ks cs := hE.turn (fun p hp => by
      have h1 := hb.size
      exact (hkeep p (by have := hp.2.1; omega) hp.2.2).trans (hb.cell hp.2.1)) (fun b hb' => ⟨hb'.1, by have := hb'.2.1; have := hb.size; have := hg.size; omega, hs b (.inl hb'.2)⟩)
  have hN3 : NodeS W3 (RowS L W3 v') A c K k n := hN.turn (fun p hp => hkeep p hp.2 fun e => by have := hlt p.block e.symm; omega) (fun b hb' => ⟨by omega, by have := hg.size; omega, hs b (.inr hb')⟩)
  obtain ⟨Ks', cs', h⟩ := hE3.snoc hN3
  exact ⟨⟨_, by rw [List.length_append]; exact hown, Ks', cs', h⟩⟩
end Go.Proofs.Ytdnilbebdgohnaa

