/- EachSt + NodeH + NodeI + NodeJ -/
import Derived.Test.YtemeeeiglifpaaaDoorNodeAD
import Derived.Test.YtemeeeiglifpaaaDoorAppOne
import Derived.Test.YtemeeeiglifpaaaDoorTlvE
import Derived.Deep.OwnRows
import Derived.Deep.RegionHeld3
import Derived.Test.YtemeeeiglifpaaaDoorRange



namespace Go.Proofs.YtemeeeiglifpaaaDoor
open Go.RowKit

def LiesS (w : World) (S : Nat → Prop) (A : Option Addr) (xs : List Value) : Prop :=
  xs ≠ [] → ∃ ad, A = some ad ∧ S ad.block ∧ ∀ j u, xs[j]? = some u → w.cell? (ad.add j) = some u
def IsBS (w : World) (S : Nat → Prop) (v : Value) (l : List UInt8) : Prop := ∃ A c, v = .slice A l.length c ∧ LiesS w S A (l.map bv) ∧ l.length ≤ c ∧ c ≤ maxLen
inductive NodesS (w : World) (S : Nat → Prop) : Option Addr → List Nd → Prop
  | mk {A : Option Addr} {ns : List Nd} (vs : List Value) (K : Nat → Option Addr) (c : Nat → Nat) (lies : LiesS w S A vs) (len : vs.length = ns.length * 3)
      (each : ∀ (i : Nat) (n : Nd), ns[i]? = some n → vs[i * 3]? = some (hv n.t) ∧ (∃ d, vs[i * 3 + 1]? = some d ∧ IsBS w S d n.v) ∧ vs[i * 3 + 2]? = some (.slice (K i) n.ks.length (c i)) ∧ n.ks.length ≤ c i ∧ c i ≤ maxLen)
      (kids : ∀ (i : Nat) (n : Nd), ns[i]? = some n → NodesS w S (K i) n.ks) : NodesS w S A ns
structure NodeS (w : World) (S : Nat → Prop) (A : Option Addr) (c : Nat) (K : Option Addr) (k : Nat) (n : Nd) : Prop where
  data : LiesS w S A (n.v.map bv)
  dc : n.v.length ≤ c
  dm : c ≤ maxLen
  kids : NodesS w S K n.ks
  kc : n.ks.length ≤ k
  km : k ≤ maxLen
/-- the cells of a row of nodes -/
structure Elems (w : World) (S : Nat → Prop) (us : List Value) (ns : List Nd) (K : Nat → Option Addr) (c : Nat → Nat) : Prop where
  len : us.length = ns.length * 3
  each : ∀ (i : Nat) (n : Nd), ns[i]? = some n → us[i * 3]? = some (hv n.t) ∧ (∃ d, us[i * 3 + 1]? = some d ∧ IsBS w S d n.v) ∧ us[i * 3 + 2]? = some (.slice (K i) n.ks.length (c i)) ∧ n.ks.length ≤ c i ∧ c i ≤ maxLen
  kids : ∀ (i : Nat) (n : Nd), ns[i]? = some n → NodesS w S (K i) n.ks
section
variable {w w' : World} {S S' : Nat → Prop} {A K : Option Addr} {c k B : Nat} {n : Nd} {ns : List Nd} {xs us : List Value} {v : Value} {l : List UInt8}
theorem LiesS.turn (h : LiesS w S A xs) (hk : ∀ p : Addr, S p.block → w'.cell? p = w.cell? p) (hs : ∀ b, S b → S' b) : LiesS w' S' A xs := fun hne => by
  obtain ⟨ad, h1, h2, h3⟩ := h hne
  exact ⟨ad, h1, hs _ h2, fun j u hu => (hk _ (by rw [blk_add]; exact h2)).trans (h3 j u hu)⟩
theorem LiesS.lies (h : LiesS w S A xs) (hs : ∀ b, S b → b < B) : Lies w B A xs := fun hne => by
  obtain ⟨ad, h1, h2, h3⟩ := h hne
  exact ⟨ad, h1, hs _ h2, h3⟩
theorem IsBS.turn (h : IsBS w S v l) (hk : ∀ p : Addr, S p.block → w'.cell? p = w.cell? p) (hs : ∀ b, S b → S' b) : IsBS w' S' v l := by
  obtain ⟨A, c, h1, h2, h3⟩ := h
  exact ⟨A, c, h1, h2.turn hk hs, h3⟩
theorem NodesS.turn (h : NodesS w S A ns) (hk : ∀ p : Addr, S p.block → w'.cell? p = w.cell? p) (hs : ∀ b, S b → S' b) : NodesS w' S' A ns := by
  induction h with
  | mk vs K c lies len each kids ih =>
    refine .mk vs K c (lies.turn hk hs) len (fun i n hn => ?_) ih
    obtain ⟨h1, ⟨d, h2, h3⟩, h6⟩ := each i n hn
    exact ⟨h1, ⟨d, h2, h3.turn hk hs⟩, h6⟩
theorem NodesS.nodes (h : NodesS w S A ns) (hs : ∀ b, S b → b < B) : Nodes w B A ns := by
  induction h with
  | mk vs K c lies len each kids ih =>
    refine .mk vs K c (lies.lies hs) len (fun i n hn => ?_) ih
    obtain ⟨h1, ⟨d, h2, A2, c2, h3, h4, h5⟩, h6⟩ := each i n hn
    exact ⟨h1, ⟨d, h2, A2, c2, h3, h4.lies hs, h5⟩, h6⟩
theorem NodesS.nil (w : World) (S : Nat → Prop) (A : Option Addr) : NodesS w S A [] := .mk [] (fun _ => none) (fun _ => 0) (fun h => absurd rfl h) rfl (fun i n h => by simp at h) (fun i n h => by simp at h)
theorem NodeS.turn (h : NodeS w S A c K k n) (hk : ∀ p : Addr, S p.block → w'.cell? p = w.cell? p) (hs : ∀ b, S b → S' b) : NodeS w' S' A c K k n :=
  ⟨h.data.turn hk hs, h.dc, h.dm, h.kids.turn hk hs, h.kc, h.km⟩
theorem NodeS.node (h : NodeS w S A c K k n) (hs : ∀ b, S b → b < B) : Node w B A c K k n := ⟨h.data.lies hs, h.dc, h.dm, h.kids.nodes hs, h.kc, h.km⟩
variable {Ks : Nat → Option Addr} {cs : Nat → Nat}
theorem Elems.turn (h : Elems w S us ns Ks cs) (hk : ∀ p : Addr, S p.block → w'.cell? p = w.cell? p) (hs : ∀ b, S b → S' b) : Elems w' S' us ns Ks cs :=
  ⟨h.len, fun i n hn => by obtain ⟨h1, ⟨d, h2, h3⟩, h6⟩ := h.each i n hn; exact ⟨h1, ⟨d, h2, h3.turn hk hs⟩, h6⟩, fun i n hn => (h.kids i n hn).turn hk hs⟩
theorem Elems.nil (w : World) (S : Nat → Prop) : Elems w S [] [] (fun _ => none) (fun _ => 0) := ⟨rfl, fun i n h => by simp at h, fun i n h => by simp at h⟩
theorem Elems.snoc (h : Elems w S us ns Ks cs) (hN : NodeS w S A c K k n) :
    ∃ Ks' cs', Elems w S (us ++ [hv n.t, .slice A n.v.length c, .slice K n.ks.length k]) (ns ++ [n]) Ks' cs' := by
  have hl := h.len
  refine ⟨fun i => if i = ns.length then K else Ks i, fun i => if i = ns.length then k else cs i, by simp [hl]; omega, fun i m hm => ?_, fun i m hm => ?_⟩
  · rcases Nat.lt_or_ge i ns.length with hlt | hge
    · rw [List.getElem?_append_left hlt] at hm
      obtain ⟨h1, ⟨d, h2, h3⟩, h4, h5⟩ := h.each i m hm
      rw [List.getElem?_append_left (by omega), List.getElem?_append_left (by omega), List.getElem?_append_left (by omega)]
      simp only [show ¬ i = ns.length by omega, if_false]
      exact ⟨h1, ⟨d, h2, h3⟩, h4, h5⟩
    · rw [List.getElem?_append_right hge] at hm
      have hi : i = ns.length := by
        have := (List.getElem?_eq_some_iff.1 hm).1
        simp at this
        omega
      subst hi
      simp only [Nat.sub_self, List.getElem?_cons_zero, Option.some.injEq] at hm
      subst hm
      rw [List.getElem?_append_right (by omega), List.getElem?_append_right (by omega), List.getElem?_append_right (by omega), hl, Nat.sub_self, show ns.length * 3 + 1 - ns.length * 3 = 1 by omega, show ns.length * 3 + 2 - ns.length * 3 = 2 by omega]
      simp only [if_true]
      exact ⟨rfl, ⟨_, rfl, A, c, rfl, hN.data, hN.dc, hN.dm⟩, rfl, hN.kc, hN.km⟩
  · rcases Nat.lt_or_ge i ns.length with hlt | hge
    · rw [List.getElem?_append_left hlt] at hm
      simp only [show ¬ i = ns.length by omega, if_false]
      exact h.kids i m hm
    · rw [List.getElem?_append_right hge] at hm
      have hi : i = ns.length := by
        have := (List.getElem?_eq_some_iff.1 hm).1
        simp at this
        omega
      subst hi
      simp only [Nat.sub_self, List.getElem?_cons_zero, Option.some.injEq] at hm
      subst hm
      simp only [if_true]
      exact hN.kids
theorem Elems.nodesS (h : Elems w S us ns Ks cs) (hl : LiesS w S A us) : NodesS w S A ns := .mk us Ks cs hl h.len h.each h.kids
end

/-! ### a row of whatever elements that grows by one -/
theorem wpList_append_told {P : Program} (w : World) {ops : Array Oper} {rest : List Oper} {o : Oper} {a : Act} {Q : Exit → Act → World → Prop}
    (hgd : o.guard = none) (s x : Operand) (t : TypeId) (hop : o.op = .call { callee := .builtin .append, args := #[s, x], argTypes := #[t, t] })
    (base : Nat) (e : TypeId) (z : Value) (size bytes : Nat) (ht : P.underlying t = some (.slice e)) (hi : (P.info? e).map (fun i => (i.zero, i.size, i.bytes)) = some (some z, size, bytes))
    (hzs : z.cells.size = size) (hsz : 0 < size)
    (v : Value) (n : Nat) (xs : List Value) (hs : a.eval s = v) (hown : w.ownsRow base e size v n xs)
    (ad : Addr) (m c : Nat) (hm : 0 < m) (news : List Value) (hx : a.eval x = .slice (some ad) m c) (hl : news.length = m * size) (hnews : ∀ j u, news[j]? = some u → w.cell? (ad.add j) = some u) (h1 : ∀ u ∈ news, u.oneCell' = true)
    (h63 : n + m ≤ maxLen) (hbytes : (n + m) * bytes ≤ 140737488355328) (hbase : base ≤ w.heap.size)
    (h : ∀ v' w', w'.ownsRow base e size v' (n + m) (xs ++ news) → w.grownBy w' v.ownBlock → (v'.ownBlock = some w.heap.size ∨ (v'.ownBlock = v.ownBlock ∧ ∃ g, v.ownBlock = some g)) → wpList P ops Q rest (a.put o.dst v') w') : wpList P ops Q (o :: rest) a w := by
  obtain ⟨i, hi0, hi1, hi2, hi3⟩ := info_parts hi
  refine wpList_plain hgd fun K hK' => ?_
  obtain ⟨v', w', hr, h2, h3, h4⟩ := run_append_told (P := P) w base t o.type e i z size bytes ht hi0 hi1 hi2 hi3 hzs hsz v n xs hown ad m c hm news hl hnews h1 h63 hbytes hbase
  unfold Oper.wp
  simp only [execOp, hop, resolve, invoke, builtin, Sem.run_bind, Sem.run_pure, Result.andThen_ok, List.map_toArray, List.map_cons, List.map_nil, hs, hx, hr]
  exact hK' _ _ (h v' w' h2 h3 h4)
/-- what a row of nodes of a call's own owns, with what lies behind its elements: no element lies in the row's own block -/
def RowS (L : Nat) (W : World) (v : Value) : Nat → Prop := fun b => L ≤ b ∧ b < W.heap.size ∧ some b ≠ v.ownBlock
structure NRow (W : World) (L : Nat) (v : Value) (ns : List Nd) : Prop where
  own : ∃ us, W.ownsRow L 27 3 v ns.length us ∧ ∃ Ks cs, Elems W (RowS L W v) us ns Ks cs
theorem lies_own3 {w : World} {base e n c : Nat} {A : Option Addr} {xs : List Value} (h : w.ownsRow base e 3 (.slice A n c) n xs) : LiesS w (fun b => base ≤ b ∧ b < w.heap.size) A xs := fun hne => by
  rcases h.2 with ⟨h1, h2⟩ | ⟨g, cap, cur, h1, h2, h3, _⟩
  · refine absurd (List.eq_nil_of_length_eq_zero ?_) hne
    rw [h.1, h2]
  · simp only [Value.slice.injEq] at h1
    obtain ⟨rfl, _, _⟩ := h1
    exact ⟨_, rfl, ⟨h2, (Array.getElem?_eq_some_iff.1 h3).1⟩, h.cells (g := g) rfl⟩
theorem own_cap3 {w : World} {base e n c : Nat} {A : Option Addr} {xs : List Value} (h : w.ownsRow base e 3 (.slice A n c) n xs) : n ≤ c ∧ c ≤ maxLen := by
  rcases h.2 with ⟨h1, h2⟩ | ⟨g, cap, cur, h1, _, _, h3, h4, _⟩
  · simp only [Value.slice.injEq] at h1
    omega
  · simp only [Value.slice.injEq] at h1
    omega
theorem own_below3 {w w' : World} {base e n : Nat} {v : Value} {xs : List Value} (h : w.ownsRow base e 3 v n xs) (hb : Below w.heap.size w w') : w'.ownsRow base e 3 v n xs := by
  refine ⟨h.1, ?_⟩
  rcases h.2 with h2 | ⟨g, cap, cur, rfl, h3, h4, h5⟩
  · exact .inl h2
  · exact .inr ⟨g, cap, cur, rfl, h3, (hb.block g (Array.getElem?_eq_some_iff.1 h4).1).trans h4, h5⟩
theorem own_slice3 {w : World} {base e n : Nat} {v : Value} {xs : List Value} (h : w.ownsRow base e 3 v n xs) : ∃ A c, v = .slice A n c := by
  rcases h.2 with ⟨rfl, h2⟩ | ⟨g, cap, cur, h1, _⟩
  · exact ⟨none, 0, by rw [h2]⟩
  · exact ⟨_, _, h1⟩
theorem NRow.nodesS {W : World} {L : Nat} {A : Option Addr} {c : Nat} {ns : List Nd} (h : NRow W L (.slice A ns.length c) ns) : NodesS W (fun b => L ≤ b ∧ b < W.heap.size) A ns ∧ ns.length ≤ c ∧ c ≤ maxLen := by
  obtain ⟨us, h1, Ks, cs, h2⟩ := h.own
  exact ⟨(h2.turn (fun _ _ => rfl) fun b hb => ⟨hb.1, hb.2.1⟩).nodesS (lies_own3 h1), own_cap3 h1⟩
theorem ndinfo : (Tryd.prog.info? 27).map (fun i => (i.zero, i.size, i.bytes)) = some (some (.agg #[.int .u16 0, .slice none 0 0, .slice none 0 0]), 3, 56) := by kernel_rfl
/-- nothing but the row's own block turned, and the row grew by a node that lies behind what was there -/
theorem NRow.grow {W W2 W3 : World} {L : Nat} {v v' : Value} {ns : List Nd} {us : List Value} {A K : Option Addr} {c k : Nat} {n : Nd} {Ks : Nat → Option Addr} {cs : Nat → Nat}
    (hrow : W.ownsRow L 27 3 v ns.length us) (hE : Elems W (RowS L W v) us ns Ks cs) (hLW : L ≤ W.heap.size) (hb : Below W.heap.size W W2) (hN : NodeS W2 (fun b => W.heap.size ≤ b ∧ b < W2.heap.size) A c K k n)
    (hg : W2.grownBy W3 v.ownBlock) (hown : W3.ownsRow L 27 3 v' (ns.length + 1) (us ++ [hv n.t, .slice A n.v.length c, .slice K n.ks.length k]))
    (hblk : (∃ q, W2.heap.size ≤ q ∧ v'.ownBlock = some q) ∨ (v'.ownBlock = v.ownBlock ∧ ∃ g, v.ownBlock = some g)) : NRow W3 L v' (ns ++ [n]) := by
  have hlt : ∀ g, v.ownBlock = some g → g < W.heap.size := fun g hg => (hrow.lt g hg).2
  have hkeep : ∀ p : Addr, p.block < W2.heap.size → some p.block ≠ v.ownBlock → W3.cell? p = W2.cell? p := fun p h1 h2 => World.cell?_of_block (hg.block p.block h1 h2)
  have hs : ∀ b, (b < W.heap.size ∧ some b ≠ v.ownBlock) ∨ (W.heap.size ≤ b ∧ b < W2.heap.size) → some b ≠ v'.ownBlock := by
    rintro b hb' e
    rcases hblk with ⟨q, h1, h2⟩ | ⟨h1, _⟩
    · rw [h2] at e
      simp only [Option.some.injEq] at e
      have := hb.size
      omega
    · rw [h1] at e
      rcases hb' with h3 | h3
      · exact h3.2 e
      · have := hlt b e.symm
        omega
  have hE3 : Elems W3 (RowS L W3 v') us ns Ks cs := hE.turn (fun p hp => by
      have h1 := hb.size
      exact (hkeep p (by have := hp.2.1; omega) hp.2.2).trans (hb.cell hp.2.1)) (fun b hb' => ⟨hb'.1, by have := hb'.2.1; have := hb.size; have := hg.size; omega, hs b (.inl hb'.2)⟩)
  have hN3 : NodeS W3 (RowS L W3 v') A c K k n := hN.turn (fun p hp => hkeep p hp.2 fun e => by have := hlt p.block e.symm; omega) (fun b hb' => ⟨by omega, by have := hg.size; omega, hs b (.inr hb')⟩)
  obtain ⟨Ks', cs', h⟩ := hE3.snoc hN3
  exact ⟨⟨_, by rw [List.length_append]; exact hown, Ks', cs', h⟩⟩
end Go.Proofs.YtemeeeiglifpaaaDoor




namespace Go.Proofs.YtemeeeiglifpaaaDoor
open Go.RowKit

/-- new blocks alone -/
def NewS (w w' : World) : Nat → Prop := fun b => w.heap.size ≤ b ∧ b < w'.heap.size
set_option maxRecDepth 100000 in
theorem bclone_any (A : Option Addr) (c : Nat) (l : List UInt8) (w : World) (h : Lies w w.heap.size A (l.map bv)) (h1 : l.length ≤ c) (_h2 : c ≤ maxLen) (hn : l.length ≤ 140737488355328) :
    Calls Tryd.prog 34 #[.slice A l.length c] w fun e w' => ∃ A' c', e = .returned (.slice A' l.length c') ∧ LiesS w' (NewS w w') A' (l.map bv) ∧ l.length ≤ c' ∧ c' ≤ maxLen ∧ Below w.heap.size w w' := by
  rcases A with _ | ad
  · have hl : l = [] := by
      cases l with
      | nil => rfl
      | cons x l => obtain ⟨ad, h3, _⟩ := h (by simp); cases h3
    subst hl
    have hq : (binOp .eql 24 (.slice none 0 c) (.slice none 0 0)).run Tryd.prog w = .ok (.bool true) w := run_eql_nil_slice (P := Tryd.prog) w 24 5 none 0 c 0 0 Tryd.underlying24
    go_enter Tryd.func34, Tryd.ntmps34
    go_wp2_with fail
    go_ret
    exact ⟨none, 0, rfl, fun hne => absurd rfl hne, Nat.le_refl _, Nat.zero_le _, Below.refl _ _⟩
  · have h3 := one_bytes l
    have H1 := Lib.hid h3
    have hE := own_empty w w.heap.size (Nat.le_refl _)
    have hq : (binOp .eql 24 (.slice (some ad) l.length c) (.slice none 0 0)).run Tryd.prog w = .ok (.bool false) w := run_eql_nil_slice (P := Tryd.prog) w 24 5 (some ad) l.length c 0 0 Tryd.underlying24
    go_enter Tryd.func34, Tryd.ntmps34
    go_wp2_with (at_builtin; refine wpList_append_lies _ rfl (.tmp 5) (.tmp 6) 24 rfl w.heap.size 5 _ 1 Tryd.underlying24 u8info rfl _ _ _ rfl hE _ _ l.length c (l.map bv) rfl (by simp) ((h.alloc (Nat.le_refl _) _).more (B' := w.heap.size + 1) (by omega)) H1.out (by omega) (by unfold maxLen; omega) (by simp) ?_; intro A' c' w1 hown hgrow _)
    simp only [Nat.zero_add, List.nil_append] at hown
    have hcap := own_cap hown
    have hB := ((Below.refl _ w).alloc (Nat.le_refl _) (.cells #[] 5)).grown hgrow (by simp) (fun k e => by cases e; exact Nat.le_refl _)
    have HO := Lib.hid hown
    clear hown hgrow
    go_wp2_with fail
    go_ret
    refine ⟨A', c', rfl, fun hne => ?_, hcap.2.1, hcap.2.2, hB⟩
    rcases HO.out.2 with ⟨q1, q2⟩ | ⟨g, cap, cur, q1, q2, q3, _⟩
    · refine absurd (List.eq_nil_of_length_eq_zero ?_) hne
      rw [HO.out.1, q2]
    · simp only [Value.slice.injEq] at q1
      obtain ⟨rfl, _, _⟩ := q1
      exact ⟨_, rfl, ⟨q2, (Array.getElem?_eq_some_iff.1 q3).1⟩, HO.out.cells (g := g) rfl⟩

theorem newS_lt {w w' : World} {b : Nat} (h : NewS w w' b) : b < w'.heap.size := h.2
def CloneOK (ns : List Nd) : Prop := ∀ (A : Option Addr) (c : Nat) (w : World), Nodes w w.heap.size A ns → ns.length ≤ 100000000 →
  Calls Tryd.prog 51 #[.slice A ns.length c] w fun e w' => ∃ A' c', e = .returned (.slice A' ns.length c') ∧ NodesS w' (NewS w w') A' ns ∧ ns.length ≤ c' ∧ c' ≤ maxLen ∧ Below w.heap.size w w'
theorem results_row1 {P : Program} {fn : Func} {p : Tmp} {ty : TypeId} (h : fn.results = #[.cell p ty]) (tmps : Array Value) (w : World) (g : Nat) (t : TypeId) (cs : Array Value) (d : TypeDesc)
    (hp : tmps.getD p undef = .pointer (some ⟨g, 0, none⟩)) (hg : Whole w g t cs)
    (hu : P.underlying ty = some d) (hd : (match d with | .struct _ | .array _ _ => true | _ => false) = true) (hi : (P.info? ty).map (·.size) = some cs.size) :
    (results fn tmps).run P w = .ok (.agg cs) w := by
  have hp' : tmps[p]?.getD undef = .pointer (some ⟨g, 0, none⟩) := by simpa using hp
  simp only [results, h]
  simp [hp', asAddr, run_loadVar_row w g t ty cs (0, 0) d hg hu hd hi]
set_option maxRecDepth 100000 in
set_option maxHeartbeats 1000000 in
theorem clone_node (n : Nd) (ih : CloneOK n.ks) (A : Option Addr) (c : Nat) (K : Option Addr) (k : Nat) (w : World) (h : Node w w.heap.size A c K k n) (hl : n.ks.length ≤ 100000000) (hv' : n.v.length ≤ 140737488355328) :
    Calls Tryd.prog 54 #[ndV n A c K k] w fun e w' => ∃ A' c' K' k', e = .returned (ndV n A' c' K' k') ∧ NodeS w' (NewS w w') A' c' K' k' n ∧ Below w.heap.size w w' := by
  unfold ndV
  have hB := fun W (hW : Below w.heap.size w W) => bclone_any A c n.v W (h.on hW).data h.dc h.dm hv'
  have hC := fun W (hW : Below w.heap.size w W) => ih K k W (h.on hW).kids hl
  have b0 : Below w.heap.size w ((w.alloc (.cells #[hv n.t, .slice A n.v.length c, .slice K n.ks.length k] 27)).alloc (.cells #[.int .u16 0, .slice none 0 0, .slice none 0 0] 27)) := ((Below.refl _ _).alloc (Nat.le_refl _) _).alloc (by simp) _
  have hW0 := (Whole.new w 27 #[hv n.t, .slice A n.v.length c, .slice K n.ks.length k]).alloc (.cells #[.int .u16 0, .slice none 0 0, .slice none 0 0] 27)
  have hW1 := Whole.new (w.alloc (.cells #[hv n.t, .slice A n.v.length c, .slice K n.ks.length k] 27)) 27 #[.int .u16 0, .slice none 0 0, .slice none 0 0]
  simp only [World.size_alloc] at hW1
  go_enter Tryd.func54, Tryd.ntmps54
  go_wp2_with fail
  go_region_held3 (fun W => W.cell? ⟨w.heap.size, 0, none⟩ = some (hv n.t) ∧ W.cell? ⟨w.heap.size, 1, none⟩ = some (.slice A n.v.length c) ∧ W.cell? ⟨w.heap.size, 2, none⟩ = some (.slice K n.ks.length k)) (go_keep) (first
    | (go_at_call 34; refine (hB _ (by first | exact b0 | exact below_drew b0)).mono ?_; rintro e w2 ⟨A2, c2, rfl, l2, m2, m3, b2⟩; have b2' : Below w.heap.size w w2 := (by first | exact b0.trans (b2.mono (by simp <;> omega)) | exact (below_drew b0).trans (b2.mono (by simp <;> omega))); have hX0 : Whole w2 w.heap.size 27 #[hv n.t, .slice A n.v.length c, .slice K n.ks.length k] := (by first | exact hW0.below b2 (by simp <;> omega) | exact hW0.drew.below b2 (by simp <;> omega)); have hX1 : Whole w2 (w.heap.size + 1) 27 #[.int .u16 0, .slice none 0 0, .slice none 0 0] := (by first | exact hW1.below b2 (by simp) | exact hW1.drew.below b2 (by simp)); have g0 : w2.cell? ⟨w.heap.size, 0, none⟩ = some (hv n.t) := (by rw [hX0.cell]; rfl); have g1 : w2.cell? ⟨w.heap.size, 1, none⟩ = some (.slice A n.v.length c) := (by rw [hX0.cell]; rfl); have g2 : w2.cell? ⟨w.heap.size, 2, none⟩ = some (.slice K n.ks.length k) := (by rw [hX0.cell]; rfl); have hsz2 : w.heap.size + 1 + 1 ≤ w2.heap.size := (by have h9 := b2.size; simpa using h9))
    | (go_at_call 51; refine (hC _ b2').mono ?_; rintro e w3 ⟨A3, c3, rfl, l3, m4, m5, b3⟩; have b3' : Below w.heap.size w w3 := b2'.trans (b3.mono b2'.size); have hY0 := hX0.below b3 hX0.lt; have hY1 := hX1.below b3 hX1.lt; have k0 : w3.cell? ⟨w.heap.size, 0, none⟩ = some (hv n.t) := (by rw [hY0.cell]; rfl); have k1 : w3.cell? ⟨w.heap.size, 1, none⟩ = some (.slice A n.v.length c) := (by rw [hY0.cell]; rfl); have k2 : w3.cell? ⟨w.heap.size, 2, none⟩ = some (.slice K n.ks.length k) := (by rw [hY0.cell]; rfl); have r0 : w3.cell? ⟨w.heap.size + 1, 0, none⟩ = some (.int .u16 0) := (by rw [hY1.cell]; rfl); have r1 : w3.cell? ⟨w.heap.size + 1, 1, none⟩ = some (.slice none 0 0) := (by rw [hY1.cell]; rfl); have r2 : w3.cell? ⟨w.heap.size + 1, 2, none⟩ = some (.slice none 0 0) := (by rw [hY1.cell]; rfl); have f0 := hY1.frozen 0; have f1 := hY1.frozen 1; have f2 := hY1.frozen 2))
  have hF : Whole (((w3.setCell ⟨w.heap.size + 1, 0, none⟩ (.int .u16 n.t.toNat)).setCell ⟨w.heap.size + 1, 1, none⟩ (.slice A2 n.v.length c2)).setCell ⟨w.heap.size + 1, 2, none⟩ (.slice A3 n.ks.length c3)) (w.heap.size + 1) 27 #[hv n.t, .slice A2 n.v.length c2, .slice A3 n.ks.length c3] :=
    ((hY1.set_ 0 _).set_ 1 _).set_ 2 _
  have hfar : ∀ p : Addr, p.block ≠ w.heap.size + 1 → (((w3.setCell ⟨w.heap.size + 1, 0, none⟩ (.int .u16 n.t.toNat)).setCell ⟨w.heap.size + 1, 1, none⟩ (.slice A2 n.v.length c2)).setCell ⟨w.heap.size + 1, 2, none⟩ (.slice A3 n.ks.length c3)).cell? p = w3.cell? p := fun p hp => by
    rw [World.cell?_setCell_other _ _ _ _ (fun e => hp (by rw [← e])), World.cell?_setCell_other _ _ _ _ (fun e => hp (by rw [← e])), World.cell?_setCell_other _ _ _ _ (fun e => hp (by rw [← e]))]
  have hBf : Below w.heap.size w (((w3.setCell ⟨w.heap.size + 1, 0, none⟩ (.int .u16 n.t.toNat)).setCell ⟨w.heap.size + 1, 1, none⟩ (.slice A2 n.v.length c2)).setCell ⟨w.heap.size + 1, 2, none⟩ (.slice A3 n.ks.length c3)) :=
    ((b3'.setCell (by simp) _).setCell (by simp) _).setCell (by simp) _
  have hsz3 : w2.heap.size ≤ w3.heap.size := b3.size
  have hszf : (((w3.setCell ⟨w.heap.size + 1, 0, none⟩ (.int .u16 n.t.toNat)).setCell ⟨w.heap.size + 1, 1, none⟩ (.slice A2 n.v.length c2)).setCell ⟨w.heap.size + 1, 2, none⟩ (.slice A3 n.ks.length c3)).heap.size = w3.heap.size := by simp [World.setCell]
  generalize ((w3.setCell ⟨w.heap.size + 1, 0, none⟩ (.int .u16 n.t.toNat)).setCell ⟨w.heap.size + 1, 1, none⟩ (.slice A2 n.v.length c2)).setCell ⟨w.heap.size + 1, 2, none⟩ (.slice A3 n.ks.length c3) = W at *
  go_wp2_with fail
  (try simp only [Exit.then])
  refine bodyPost_ret (results_row1 rfl _ _ (w.heap.size + 1) 27 _ _ rfl hF Tryd.underlying27 rfl (by kernel_rfl)) rfl ?_
  refine ⟨A2, c2, A3, c3, rfl, ⟨l2.turn (fun p hp => ?_) (fun b hb => ?_), m2, m3, l3.turn (fun p hp => ?_) (fun b hb => ?_), m4, m5⟩, hBf⟩
  · have h1 := hp.1
    simp at h1
    exact (hfar p (by omega)).trans (b3.cell hp.2)
  · have h1 := hb.1
    simp at h1
    exact ⟨by omega, by have := hb.2; omega⟩
  · exact hfar p (by have := hp.1; omega)
  · exact ⟨by have := hb.1; omega, by have := hb.2; omega⟩
set_option maxRecDepth 100000 in
set_option maxHeartbeats 1000000 in
theorem clones_step (ns : List Nd) (ih : ∀ n ∈ ns, CloneOK n.ks) (hf : ∀ n ∈ ns, n.ks.length ≤ 100000000 ∧ n.v.length ≤ 140737488355328) : CloneOK ns := by
  intro A c w h hl
  have HI := Lib.hid ih
  have HF := Lib.hid hf
  clear ih hf
  go_enter Tryd.func51, Tryd.ntmps51
  go_wp2_with fail
  go_loopw [3, 8] (fun v i wr => ∃ (k : Nat), k ≤ ns.length ∧ i = .int .i64 k ∧ Hid (NRow wr w.heap.size v (ns.take k)) ∧ Below w.heap.size w wr) (fun _ i _ => ns.length - (intOf i).toNat)
  case atStart => exact ⟨0, Nat.zero_le _, rfl, ⟨[], World.ownsRow_nil _ _ _ _, _, _, Elems.nil _ _⟩, Below.refl _ _⟩
  case round =>
    obtain ⟨k, hk, rfl, hrow, hbel⟩ := hrel
    by_cases hlt : k < ns.length
    · obtain ⟨ad, A', c', K', k', n, rfl, hb, hn', hc0, hc1, hc2, hN⟩ := (h.bel hbel).at_ hlt
      obtain ⟨us, hown, Ks, cs, hE⟩ := hrow.out.own
      have hlen : (ns.take k).length = k := by rw [List.length_take]; omega
      rw [hlen] at hown
      have hmem := List.mem_of_getElem? hn'.out
      have b0 : Below wr.heap.size wr (wr.alloc (.cells #[hv n.t, .slice A' n.v.length c', .slice K' n.ks.length k'] 27)) := (Below.refl _ _).alloc (Nat.le_refl _) _
      have hS := clone_node n (HI.out n hmem) A' c' K' k' _ ((hN.more hbel.size).on b0) (HF.out n hmem).1 (HF.out n hmem).2
      unfold ndV at hS
      have HE := Lib.hid hE
      have HO := Lib.hid hown
      have HL := Lib.hid hlen
      clear hE hown hlen
      obtain ⟨A1, c1, rfl⟩ := own_slice3 HO.out
      go_wp2_with fail
      refine hS.mono ?_
      rintro e w2 ⟨A2, c2, K2, k2, rfl, hN2, b2⟩
      have b2' := b0.trans (b2.mono (by simp))
      have hal := (Below.refl w2.heap.size w2).alloc (Nat.le_refl _) (.cells #[hv n.t, .slice A2 n.v.length c2, .slice K2 n.ks.length k2] 27)
      have hown2 := (own_below3 HO.out b2').alloc (.cells #[hv n.t, .slice A2 n.v.length c2, .slice K2 n.ks.length k2] 27)
      have HO2 := Lib.hid hown2
      have hnew : ∀ j u, [hv n.t, Value.slice A2 n.v.length c2, .slice K2 n.ks.length k2][j]? = some u → (w2.alloc (.cells #[hv n.t, .slice A2 n.v.length c2, .slice K2 n.ks.length k2] 27)).cell? ((⟨w2.heap.size, 0, none⟩ : Addr).add j) = some u := fun j u hu => by
        rw [add_row, (Whole.new w2 27 #[hv n.t, .slice A2 n.v.length c2, .slice K2 n.ks.length k2]).cell]
        simpa using hu
      have HNW := Lib.hid hnew
      have hwsz := hbel.size
      have hwsz2 := b2'.size
      clear hown2 hnew
      go_wp2_with (at_builtin; refine wpList_append_told _ rfl (.tmp 12) (.tmp 15) 25 rfl w.heap.size 27 _ 3 56 Tryd.underlying25 ndinfo rfl (by omega) _ _ _ rfl HO2.out _ 1 1 (by omega) [hv n.t, .slice A2 n.v.length c2, .slice K2 n.ks.length k2] rfl rfl HNW.out (by intro u hu; simp at hu; rcases hu with rfl | rfl | rfl <;> rfl) (by unfold maxLen; omega) (by omega) (by simp; omega) ?_; intro v' w4 hown4 hgrow4 hblk4)
      have hR4 := NRow.grow (W := wr) (W2 := w2.alloc (.cells #[hv n.t, .slice A2 n.v.length c2, .slice K2 n.ks.length k2] 27)) (W3 := w4) (L := w.heap.size) (v := .slice A1 k c1) (v' := v') (ns := ns.take k) (us := us) (A := A2) (K := K2) (c := c2) (k := k2) (n := n) (by rw [HL.out]; exact HO.out) HE.out hwsz (b2'.trans (hal.mono hwsz2))
        (hN2.turn (fun p hp => World.cell?_alloc_lt w2 _ p hp.2) (fun b hb => ⟨by have := hb.1; simp at this; omega, by have := hb.2; simp; omega⟩)) hgrow4 (by rw [HL.out]; exact hown4)
        (by rcases hblk4 with h1 | h1; · exact .inl ⟨_, Nat.le_refl _, h1⟩
            · exact .inr h1)
      rw [← take_some hn'.out] at hR4
      have hb4 : Below w.heap.size w w4 := (hbel.trans ((b2'.trans (hal.mono hwsz2)).mono hwsz)).grown hgrow4 (by simp; omega) (fun q e => (HO.out.lt q e).1)
      exact ⟨⟨k + 1, by omega, rfl, hR4, hb4⟩, by simp [intOf]; omega⟩
    · obtain rfl : k = ns.length := by omega
      rw [List.take_length] at hrow
      obtain ⟨us, hown, Ks, cs, hE⟩ := hrow.out.own
      obtain ⟨A1, c1, rfl⟩ := own_slice3 hown
      have HR := Lib.hid (NRow.nodesS hrow.out)
      clear hown hE hrow
      go_wp2_with fail
      go_ret
      exact ⟨A1, c1, rfl, HR.out.1, HR.out.2.1, HR.out.2.2, hbel⟩
/-- at whatever depth: not so many inside, and not so many bytes -/
inductive Few2 : Nd → Prop
  | mk {n : Nd} : n.ks.length ≤ 100000000 → n.v.length ≤ 140737488355328 → (∀ k ∈ n.ks, Few2 k) → Few2 n
theorem Few2.kl {n : Nd} (h : Few2 n) : n.ks.length ≤ 100000000 ∧ n.v.length ≤ 140737488355328 := by cases h; constructor <;> assumption
theorem Few2.kid {n : Nd} (h : Few2 n) : ∀ k ∈ n.ks, Few2 k := by cases h; assumption
theorem Fine.few2 (n : Nd) : Fine n → Few2 n :=
  Nd.ind (P := fun n => Fine n → Few2 n) (fun t v ks ih h => .mk (by have := h.kl; omega) (by have := h.vl; rw [Nd.vlen_eq] at this; omega) fun k hk => ih k hk (h.kid k hk)) n
theorem clones_any (ns : List Nd) : (∀ n ∈ ns, Few2 n) → CloneOK ns :=
  Nds.ind (P := fun ns => (∀ n ∈ ns, Few2 n) → CloneOK ns) (fun ns ih h => clones_step ns (fun n hn => ih n hn (h n hn).kid) fun n hn => (h n hn).kl) ns
/-- Clone of whatever node -/
theorem nclone_any (n : Nd) (hf : Few2 n) (A : Option Addr) (c : Nat) (K : Option Addr) (k : Nat) (w : World) (h : Node w w.heap.size A c K k n) :
    Calls Tryd.prog 54 #[ndV n A c K k] w fun e w' => ∃ A' c' K' k', e = .returned (ndV n A' c' K' k') ∧ NodeS w' (NewS w w') A' c' K' k' n ∧ Below w.heap.size w w' :=
  clone_node n (clones_any n.ks hf.kid) A c K k w h hf.kl.1 hf.kl.2

/-- Walk: the iterator over clones -/
theorem walk_any (A : Option Addr) (c : Nat) (ns : List Nd) (w : World) (h : Nodes w w.heap.size A ns) (hl : ns.length ≤ 100000000) (hf : ∀ n ∈ ns, Few2 n) :
    Calls Tryd.prog 38 #[.slice A ns.length c] w fun e w' => ∃ g A' c', e = .returned (.func (.func 52) #[] #[.pointer (some ⟨g, 0, none⟩)]) ∧ Whole w' g 25 #[.slice A' ns.length c'] ∧ Nodes w' w'.heap.size A' ns ∧ ns.length ≤ c' ∧ c' ≤ maxLen ∧ w.heap.size ≤ g ∧ Below w.heap.size w w' := by
  have b0 : Below w.heap.size w (w.alloc (.cells #[.slice A ns.length c] 25)) := (Below.refl _ w).alloc (Nat.le_refl _) _
  have hC := clones_any ns hf A c _ (h.on b0) hl
  have hW := Whole.new w 25 #[.slice A ns.length c]
  go_enter Tryd.func38, Tryd.ntmps38
  go_wp2_with fail
  refine hC.mono ?_
  rintro e w2 ⟨A2, c2, rfl, hN, m1, m2, b2⟩
  have hW2 := hW.below b2 (by simp)
  have d0 := hW2.cell 0
  have d1 := hW2.frozen 0
  simp only [List.getElem?_toArray, List.getElem?_cons_zero] at d0
  have b2' := b0.trans (b2.mono (by simp))
  have hsz : w.heap.size + 1 ≤ w2.heap.size := by have := b2.size; simpa using this
  go_wp2_with fail
  go_ret
  refine ⟨w.heap.size, A2, c2, rfl, hW2.set_ 0 _, ?_, m1, m2, Nat.le_refl _, b2'.setCell (Nat.le_refl _) _⟩
  have h3 : NodesS (w2.setCell ⟨w.heap.size, 0, none⟩ (.slice A2 ns.length c2)) (fun b => b < w2.heap.size) A2 ns := hN.turn (fun p hp => World.cell?_setCell_other _ _ _ _ (fun e => by have := hp.1; rw [← e] at this; simp at this; omega)) (fun b hb => hb.2)
  exact h3.nodes fun b hb => by simpa [World.setCell] using hb
theorem neq_walk (g : Nat) (w : World) : (binOp .neq 73 (.func (.func 52) #[] #[.pointer (some ⟨g, 0, none⟩)]) .nilFunc).run Tryd.prog w = .ok (.bool true) w := by kernel_rfl
end Go.Proofs.YtemeeeiglifpaaaDoor



namespace Go.Proofs.YtemeeeiglifpaaaDoor
open Go.RowKit Go.Shelf

attribute [local go_sem] Oper.semAt_some

/-- nothing that grows, or turns a block at or behind X, adds to what the rounds may write -/
def GOwn (X : Nat) (G : World → Nat → Prop) : Prop := ∀ A B row, X ≤ A.heap.size → A.grownBy B row → (∀ r, row = some r → X ≤ r) → ∀ i, G B i → G A i
theorem kpg_of {G : World → Nat → Prop} {X n₀ : Nat} {A B : World} (hGo : GOwn X G) (hX : X ≤ A.heap.size) (hn : n₀ ≤ A.heap.size) (hb : Below A.heap.size A B) : KpG G n₀ A B :=
  ⟨hb.mono hn, fun i _ _ _ _ hi => (hb.block i (Array.getElem?_eq_some_iff.1 hi).1).trans hi, fun i _ hi => hGo _ _ none hX (grown_of_below hb) (fun r e => by cases e) i hi⟩

/-! ### All's own iterator -/
theorem roundIn_wide {n m : Nat} {l l' : Nat} {P : Program} {f : FuncId} {tmps : Array Value} {assign body : Code} {w : World} {R : Ending → World → Prop} (h : RoundIn Fence.wide n P l f tmps assign body w R) : RoundIn (Fence.wide.inRound l') m P l f tmps assign body w R :=
  ⟨h.1, fun c cs _ => h.2 c cs (by simp [Fence.room, Fence.wide])⟩
theorem ownFrom_wider {β : Type} {B B' : Nat} {I : β → World → Prop} (h : OwnFrom B I) (hB : B ≤ B') : OwnFrom B' I := fun s W W' row hs hg hr => h s W W' row hs hg fun r e => ⟨Nat.le_trans hB (hr r e).1, (hr r e).2⟩
end Go.Proofs.YtemeeeiglifpaaaDoor

