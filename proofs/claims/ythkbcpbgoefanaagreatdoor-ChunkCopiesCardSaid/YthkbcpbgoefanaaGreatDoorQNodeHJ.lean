/- NodeH + NodeI + EachSt + NodeJ -/
import Derived.Test.YthkbcpbgoefanaaGreatDoorQNodeAD
import Derived.Test.YthkbcpbgoefanaaGreatDoorQA
import Derived.Test.YthkbcpbgoefanaaGreatDoorQTC
import Derived.Deep.RegionHeld3



namespace Go.Proofs.YthkbcpbgoefanaaGreatDoor
open Go.RowKit

def LiesS (w : World) (S : Nat → Prop) (A : Option Addr) (xs : List Value) : Prop :=
  xs ≠ [] → ∃ ad, A = some ad ∧ S ad.block ∧ ∀ j u, xs[j]? = some u → w.cell? (ad.add j) = some u
def IsBS (w : World) (S : Nat → Prop) (v : Value) (l : List UInt8) : Prop := ∃ A c, v = .slice A l.length c ∧ LiesS w S A (l.map bv) ∧ l.length ≤ c ∧ c ≤ maxLen
inductive NodesS (w : World) (S : Nat → Prop) : Option Addr → List Nd → Prop
  | mk {A : Option Addr} {ns : List Nd} (vs : List Value) (K : Nat → Option Addr) (c : Nat → Nat) (lies : LiesS w S A vs) (len : vs.length = ns.length * 3)
      (each : ∀ (i : Nat) (n : Nd), ns[i]? = some n → vs[i * 3]? = some (hv n.t) ∧ (∃ d, vs[i * 3 + 1]? = some d ∧ IsBS w S d n.v) ∧ vs[i * 3 + 2]? = some (.slice (K i) n.ks.length (c i)) ∧ n.ks.length ≤ c i ∧ c i ≤ maxLen)
      (kids : ∀ (i : Nat) (n : Nd), ns[i]? = some n → NodesS w S (K i) n.ks) : NodesS w S A ns
structure NodeS (w : World) (S : Nat → Prop) (A : Option Addr) (c : Nat) (K : Option Addr) (k : Nat) (n : Nd) : Prop where
  data : LiesS w S A (n.v.map bv)
  dc : n.v.length ≤ c
  dm : c ≤ maxLen
  kids : NodesS w S K n.ks
  kc : n.ks.length ≤ k
  km : k ≤ maxLen
/-- the cells of a row of nodes -/
structure Elems (w : World) (S : Nat → Prop) (us : List Value) (ns : List Nd) (K : Nat → Option Addr) (c : Nat → Nat) : Prop where
  len : us.length = ns.length * 3
  each : ∀ (i : Nat) (n : Nd), ns[i]? = some n → us[i * 3]? = some (hv n.t) ∧ (∃ d, us[i * 3 + 1]? = some d ∧ IsBS w S d n.v) ∧ us[i * 3 + 2]? = some (.slice (K i) n.ks.length (c i)) ∧ n.ks.length ≤ c i ∧ c i ≤ maxLen
  kids : ∀ (i : Nat) (n : Nd), ns[i]? = some n → NodesS w S (K i) n.ks
section
variable {w w' : World} {S S' : Nat → Prop} {A K : Option Addr} {c k B : Nat} {n : Nd} {ns : List Nd} {xs us : List Value} {v : Value} {l : List UInt8}
theorem LiesS.turn (h : LiesS w S A xs) (hk : ∀ p : Addr, S p.block → w'.cell? p = w.cell? p) (hs : ∀ b, S b → S' b) : LiesS w' S' A xs := fun hne => by
  obtain ⟨ad, h1, h2, h3⟩ := h hne
  exact ⟨ad, h1, hs _ h2, fun j u hu => (hk _ (by rw [blk_add]; exact h2)).trans (h3 j u hu)⟩
theorem LiesS.lies (h : LiesS w S A xs) (hs : ∀ b, S b → b < B) : Lies w B A xs := fun hne => by
  obtain ⟨ad, h1, h2, h3⟩ := h hne
  exact ⟨ad, h1, hs _ h2, h3⟩
theorem IsBS.turn (h : IsBS w S v l) (hk : ∀ p : Addr, S p.block → w'.cell? p = w.cell? p) (hs : ∀ b, S b → S' b) : IsBS w' S' v l := by
  obtain ⟨A, c, h1, h2, h3⟩ := h
  exact ⟨A, c, h1, h2.turn hk hs, h3⟩
theorem NodesS.turn (h : NodesS w S A ns) (hk : ∀ p : Addr, S p.block → w'.cell? p = w.cell? p) (hs : ∀ b, S b → S' b) : NodesS w' S' A ns := by
  induction h with
  | mk vs K c lies len each kids ih =>
    refine .mk vs K c (lies.turn hk hs) len (fun i n hn => ?_) ih
    obtain ⟨h1, ⟨d, h2, h3⟩, h6⟩ := each i n hn
    exact ⟨h1, ⟨d, h2, h3.turn hk hs⟩, h6⟩
theorem NodesS.nodes (h : NodesS w S A ns) (hs : ∀ b, S b → b < B) : Nodes w B A ns := by
  induction h with
  | mk vs K c lies len each kids ih =>
    refine .mk vs K c (lies.lies hs) len (fun i n hn => ?_) ih
    obtain ⟨h1, ⟨d, h2, A2, c2, h3, h4, h5⟩, h6⟩ := each i n hn
    exact ⟨h1, ⟨d, h2, A2, c2, h3, h4.lies hs, h5⟩, h6⟩
theorem NodesS.nil (w : World) (S : Nat → Prop) (A : Option Addr) : NodesS w S A [] := .mk [] (fun _ => none) (fun _ => 0) (fun h => absurd rfl h) rfl (fun i n h => by simp at h) (fun i n h => by simp at h)
theorem NodeS.turn (h : NodeS w S A c K k n) (hk : ∀ p : Addr, S p.block → w'.cell? p = w.cell? p) (hs : ∀ b, S b → S' b) : NodeS w' S' A c K k n :=
  ⟨h.data.turn hk hs, h.dc, h.dm, h.kids.turn hk hs, h.kc, h.km⟩
variable {Ks : Nat → Option Addr} {cs : Nat → Nat}
theorem Elems.turn (h : Elems w S us ns Ks cs) (hk : ∀ p : Addr, S p.block → w'.cell? p = w.cell? p) (hs : ∀ b, S b → S' b) : Elems w' S' us ns Ks cs :=
  ⟨h.len, fun i n hn => by obtain ⟨h1, ⟨d, h2, h3⟩, h6⟩ := h.each i n hn; exact ⟨h1, ⟨d, h2, h3.turn hk hs⟩, h6⟩, fun i n hn => (h.kids i n hn).turn hk hs⟩
theorem Elems.nil (w : World) (S : Nat → Prop) : Elems w S [] [] (fun _ => none) (fun _ => 0) := ⟨rfl, fun i n h => by simp at h, fun i n h => by simp at h⟩
theorem Elems.snoc (h : Elems w S us ns Ks cs) (hN : NodeS w S A c K k n) :
    ∃ Ks' cs', Elems w S (us ++ [hv n.t, .slice A n.v.length c, .slice K n.ks.length k]) (ns ++ [n]) Ks' cs' := by
  have hl := h.len
  refine ⟨fun i => if i = ns.length then K else Ks i, fun i => if i = ns.length then k else cs i, by simp [hl]; omega, fun i m hm => ?_, fun i m hm => ?_⟩
  · rcases Nat.lt_or_ge i ns.length with hlt | hge
    · rw [List.getElem?_append_left hlt] at hm
      obtain ⟨h1, ⟨d, h2, h3⟩, h4, h5⟩ := h.each i m hm
      rw [List.getElem?_append_left (by omega), List.getElem?_append_left (by omega), List.getElem?_append_left (by omega)]
      simp only [show ¬ i = ns.length by omega, if_false]
      exact ⟨h1, ⟨d, h2, h3⟩, h4, h5⟩
    · rw [List.getElem?_append_right hge] at hm
      have hi : i = ns.length := by
        have := (List.getElem?_eq_some_iff.1 hm).1
        simp at this
        omega
      subst hi
      simp only [Nat.sub_self, List.getElem?_cons_zero, Option.some.injEq] at hm
      subst hm
      rw [List.getElem?_append_right (by omega), List.getElem?_append_right (by omega), List.getElem?_append_right (by omega), hl, Nat.sub_self, show ns.length * 3 + 1 - ns.length * 3 = 1 by omega, show ns.length * 3 + 2 - ns.length * 3 = 2 by omega]
      simp only [if_true]
      exact ⟨rfl, ⟨_, rfl, A, c, rfl, hN.data, hN.dc, hN.dm⟩, rfl, hN.kc, hN.km⟩
  · rcases Nat.lt_or_ge i ns.length with hlt | hge
    · rw [List.getElem?_append_left hlt] at hm
      simp only [show ¬ i = ns.length by omega, if_false]
      exact h.kids i m hm
    · rw [List.getElem?_append_right hge] at hm
      have hi : i = ns.length := by
        have := (List.getElem?_eq_some_iff.1 hm).1
        simp at this
        omega
      subst hi
      simp only [Nat.sub_self, List.getElem?_cons_zero, Option.some.injEq] at hm
      subst hm
      simp only [if_true]
      exact hN.kids
theorem Elems.nodesS (h : Elems w S us ns Ks cs) (hl : LiesS w S A us) : NodesS w S A ns := .mk us Ks cs hl h.len h.each h.kids
end

/-! ### a row of whatever elements that grows by one -/
theorem wpList_append_told {P : Program} (w : World) {ops : Array Oper} {rest : List Oper} {o : Oper} {a : Act} {Q : Exit → Act → World → Prop}
    (hgd : o.guard = none) (s x : Operand) (t : TypeId) (hop : o.op = .call { callee := .builtin .append, args := #[s, x], argTypes := #[t, t] })
    (base : Nat) (e : TypeId) (z : Value) (size bytes : Nat) (ht : P.underlying t = some (.slice e)) (hi : (P.info? e).map (fun i => (i.zero, i.size, i.bytes)) = some (some z, size, bytes))
    (hzs : z.cells.size = size) (hsz : 0 < size)
    (v : Value) (n : Nat) (xs : List Value) (hs : a.eval s = v) (hown : w.ownsRow base e size v n xs)
    (ad : Addr) (m c : Nat) (hm : 0 < m) (news : List Value) (hx : a.eval x = .slice (some ad) m c) (hl : news.length = m * size) (hnews : ∀ j u, news[j]? = some u → w.cell? (ad.add j) = some u) (h1 : ∀ u ∈ news, u.oneCell' = true)
    (h63 : n + m ≤ maxLen) (hbytes : (n + m) * bytes ≤ 140737488355328) (hbase : base ≤ w.heap.size)
    (h : ∀ v' w', w'.ownsRow base e size v' (n + m) (xs ++ news) → w.grownBy w' v.ownBlock → (v'.ownBlock = some w.heap.size ∨ (v'.ownBlock = v.ownBlock ∧ ∃ g, v.ownBlock = some g)) → wpList P ops Q rest (a.put o.dst v') w') : wpList P ops Q (o :: rest) a w := by
  obtain ⟨i, hi0, hi1, hi2, hi3⟩ := info_parts hi
  refine wpList_plain hgd fun K hK' => ?_
  obtain ⟨v', w', hr, h2, h3, h4⟩ := run_append_told (P := P) w base t o.type e i z size bytes ht hi0 hi1 hi2 hi3 hzs hsz v n xs hown ad m c hm news hl hnews h1 h63 hbytes hbase
  unfold Oper.wp
  simp only [execOp, hop, resolve, invoke, builtin, Sem.run_bind, Sem.run_pure, Result.andThen_ok, List.map_toArray, List.map_cons, List.map_nil, hs, hx, hr]
  exact hK' _ _ (h v' w' h2 h3 h4)
/-- what a row of nodes of a call's own owns, with what lies behind its elements: no element lies in the row's own block -/
def RowS (L : Nat) (W : World) (v : Value) : Nat → Prop := fun b => L ≤ b ∧ b < W.heap.size ∧ some b ≠ v.ownBlock
structure NRow (W : World) (L : Nat) (v : Value) (ns : List Nd) : Prop where
  own : ∃ us, W.ownsRow L 50 3 v ns.length us ∧ ∃ Ks cs, Elems W (RowS L W v) us ns Ks cs
theorem lies_own3 {w : World} {base e n c : Nat} {A : Option Addr} {xs : List Value} (h : w.ownsRow base e 3 (.slice A n c) n xs) : LiesS w (fun b => base ≤ b ∧ b < w.heap.size) A xs := fun hne => by
  rcases h.2 with ⟨h1, h2⟩ | ⟨g, cap, cur, h1, h2, h3, _⟩
  · refine absurd (List.eq_nil_of_length_eq_zero ?_) hne
    rw [h.1, h2]
  · simp only [Value.slice.injEq] at h1
    obtain ⟨rfl, _, _⟩ := h1
    exact ⟨_, rfl, ⟨h2, (Array.getElem?_eq_some_iff.1 h3).1⟩, h.cells (g := g) rfl⟩
theorem own_cap3 {w : World} {base e n c : Nat} {A : Option Addr} {xs : List Value} (h : w.ownsRow base e 3 (.slice A n c) n xs) : n ≤ c ∧ c ≤ maxLen := by
  rcases h.2 with ⟨h1, h2⟩ | ⟨g, cap, cur, h1, _, _, h3, h4, _⟩
  · simp only [Value.slice.injEq] at h1
    omega
  · simp only [Value.slice.injEq] at h1
    omega
theorem own_below3 {w w' : World} {base e n : Nat} {v : Value} {xs : List Value} (h : w.ownsRow base e 3 v n xs) (hb : Below w.heap.size w w') : w'.ownsRow base e 3 v n xs := by
  refine ⟨h.1, ?_⟩
  rcases h.2 with h2 | ⟨g, cap, cur, rfl, h3, h4, h5⟩
  · exact .inl h2
  · exact .inr ⟨g, cap, cur, rfl, h3, (hb.block g (Array.getElem?_eq_some_iff.1 h4).1).trans h4, h5⟩
theorem own_slice3 {w : World} {base e n : Nat} {v : Value} {xs : List Value} (h : w.ownsRow base e 3 v n xs) : ∃ A c, v = .slice A n c := by
  rcases h.2 with ⟨rfl, h2⟩ | ⟨g, cap, cur, h1, _⟩
  · exact ⟨none, 0, by rw [h2]⟩
  · exact ⟨_, _, h1⟩
theorem NRow.nodesS {W : World} {L : Nat} {A : Option Addr} {c : Nat} {ns : List Nd} (h : NRow W L (.slice A ns.length c) ns) : NodesS W (fun b => L ≤ b ∧ b < W.heap.size) A ns ∧ ns.length ≤ c ∧ c ≤ maxLen := by
  obtain ⟨us, h1, Ks, cs, h2⟩ := h.own
  exact ⟨(h2.turn (fun _ _ => rfl) fun b hb => ⟨hb.1, hb.2.1⟩).nodesS (lies_own3 h1), own_cap3 h1⟩
theorem ndinfo : (Tryz.prog.info? 50).map (fun i => (i.zero, i.size, i.bytes)) = some (some (.agg #[.int .u16 0, .slice none 0 0, .slice none 0 0]), 3, 56) := by kernel_rfl
/-- nothing but the row's own block turned, and the row grew by a node that lies behind what was there -/
theorem NRow.grow {W W2 W3 : World} {L : Nat} {v v' : Value} {ns : List Nd} {us : List Value} {A K : Option Addr} {c k : Nat} {n : Nd} {Ks : Nat → Option Addr} {cs : Nat → Nat}
    (hrow : W.ownsRow L 50 3 v ns.length us) (hE : Elems W (RowS L W v) us ns Ks cs) (hLW : L ≤ W.heap.size) (hb : Below W.heap.size W W2) (hN : NodeS W2 (fun b => W.heap.size ≤ b ∧ b < W2.heap.size) A c K k n)
    (hg : W2.grownBy W3 v.ownBlock) (hown : W3.ownsRow L 50 3 v' (ns.length + 1) (us ++ [hv n.t, .slice A n.v.length c, .slice K n.ks.length k]))
    (hblk : (∃ q, W2.heap.size ≤ q ∧ v'.ownBlock = some q) ∨ (v'.ownBlock = v.ownBlock ∧ ∃ g, v.ownBlock = some g)) : NRow W3 L v' (ns ++ [n]) := by
  have hlt : ∀ g, v.ownBlock = some g → g < W.heap.size := fun g hg => (hrow.lt g hg).2
  have hkeep : ∀ p : Addr, p.block < W2.heap.size → some p.block ≠ v.ownBlock → W3.cell? p = W2.cell? p := fun p h1 h2 => World.cell?_of_block (hg.block p.block h1 h2)
  have hs : ∀ b, (b < W.heap.size ∧ some b ≠ v.ownBlock) ∨ (W.heap.size ≤ b ∧ b < W2.heap.size) → some b ≠ v'.ownBlock := by
    rintro b hb' e
    rcases hblk with ⟨q, h1, h2⟩ | ⟨h1, _⟩
    · rw [h2] at e
      simp only [Option.some.injEq] at e
      have := hb.size
      omega
    · rw [h1] at e
      rcases hb' with h3 | h3
      · exact h3.2 e
      · have := hlt b e.symm
        omega
  have hE3 : Elems W3 (RowS L W3 v') us ns Ks cs := hE.turn (fun p hp => by
      have h1 := hb.size
      exact (hkeep p (by have := hp.2.1; omega) hp.2.2).trans (hb.cell hp.2.1)) (fun b hb' => ⟨hb'.1, by have := hb'.2.1; have := hb.size; have := hg.size; omega, hs b (.inl hb'.2)⟩)
  have hN3 : NodeS W3 (RowS L W3 v') A c K k n := hN.turn (fun p hp => hkeep p hp.2 fun e => by have := hlt p.block e.symm; omega) (fun b hb' => ⟨by omega, by have := hg.size; omega, hs b (.inr hb')⟩)
  obtain ⟨Ks', cs', h⟩ := hE3.snoc hN3
  exact ⟨⟨_, by rw [List.length_append]; exact hown, Ks', cs', h⟩⟩
end Go.Proofs.YthkbcpbgoefanaaGreatDoor




namespace Go.Proofs.YthkbcpbgoefanaaGreatDoor
open Go.RowKit

/-- new blocks alone -/
def NewS (w w' : World) : Nat → Prop := fun b => w.heap.size ≤ b ∧ b < w'.heap.size
set_option maxRecDepth 100000 in
theorem bclone_any (A : Option Addr) (c : Nat) (l : List UInt8) (w : World) (h : Lies w w.heap.size A (l.map bv)) (h1 : l.length ≤ c) (_h2 : c ≤ maxLen) (hn : l.length ≤ 140737488355328) :
    Calls Tryz.prog 79 #[.slice A l.length c] w fun e w' => ∃ A' c', e = .returned (.slice A' l.length c') ∧ LiesS w' (NewS w w') A' (l.map bv) ∧ l.length ≤ c' ∧ c' ≤ maxLen ∧ Below w.heap.size w w' := by
  rcases A with _ | ad
  · have hl : l = [] := by
      cases l with
      | nil => rfl
      | cons x l => obtain ⟨ad, h3, _⟩ := h (by simp); cases h3
    subst hl
    have hq : (binOp .eql 22 (.slice none 0 c) (.slice none 0 0)).run Tryz.prog w = .ok (.bool true) w := run_eql_nil_slice (P := Tryz.prog) w 22 5 none 0 c 0 0 Tryz.underlying22
    go_enter Tryz.func79, Tryz.ntmps79
    go_wp2_with fail
    go_ret
    exact ⟨none, 0, rfl, fun hne => absurd rfl hne, Nat.le_refl _, Nat.zero_le _, Below.refl _ _⟩
  · have h3 := one_bytes l
    have H1 := Lib.hid h3
    have hE := own_empty w w.heap.size (Nat.le_refl _)
    have hq : (binOp .eql 22 (.slice (some ad) l.length c) (.slice none 0 0)).run Tryz.prog w = .ok (.bool false) w := run_eql_nil_slice (P := Tryz.prog) w 22 5 (some ad) l.length c 0 0 Tryz.underlying22
    go_enter Tryz.func79, Tryz.ntmps79
    go_wp2_with (at_builtin; refine wpList_append_lies _ rfl (.tmp 5) (.tmp 6) 22 rfl w.heap.size 5 _ 1 Tryz.underlying22 u8info rfl _ _ _ rfl hE _ _ l.length c (l.map bv) rfl (by simp) ((h.alloc (Nat.le_refl _) _).more (B' := w.heap.size + 1) (by omega)) H1.out (by omega) (by unfold maxLen; omega) (by simp) ?_; intro A' c' w1 hown hgrow _)
    simp only [Nat.zero_add, List.nil_append] at hown
    have hcap := own_cap hown
    have hB := ((Below.refl _ w).alloc (Nat.le_refl _) (.cells #[] 5)).grown hgrow (by simp) (fun k e => by cases e; exact Nat.le_refl _)
    have HO := Lib.hid hown
    clear hown hgrow
    go_wp2_with fail
    go_ret
    refine ⟨A', c', rfl, fun hne => ?_, hcap.2.1, hcap.2.2, hB⟩
    rcases HO.out.2 with ⟨q1, q2⟩ | ⟨g, cap, cur, q1, q2, q3, _⟩
    · refine absurd (List.eq_nil_of_length_eq_zero ?_) hne
      rw [HO.out.1, q2]
    · simp only [Value.slice.injEq] at q1
      obtain ⟨rfl, _, _⟩ := q1
      exact ⟨_, rfl, ⟨q2, (Array.getElem?_eq_some_iff.1 q3).1⟩, HO.out.cells (g := g) rfl⟩

theorem newS_lt {w w' : World} {b : Nat} (h : NewS w w' b) : b < w'.heap.size := h.2
def CloneOK (ns : List Nd) : Prop := ∀ (A : Option Addr) (c : Nat) (w : World), Nodes w w.heap.size A ns → ns.length ≤ 100000000 →
  Calls Tryz.prog 147 #[.slice A ns.length c] w fun e w' => ∃ A' c', e = .returned (.slice A' ns.length c') ∧ NodesS w' (NewS w w') A' ns ∧ ns.length ≤ c' ∧ c' ≤ maxLen ∧ Below w.heap.size w w'
theorem results_row1 {P : Program} {fn : Func} {p : Tmp} {ty : TypeId} (h : fn.results = #[.cell p ty]) (tmps : Array Value) (w : World) (g : Nat) (t : TypeId) (cs : Array Value) (d : TypeDesc)
    (hp : tmps.getD p undef = .pointer (some ⟨g, 0, none⟩)) (hg : Whole w g t cs)
    (hu : P.underlying ty = some d) (hd : (match d with | .struct _ | .array _ _ => true | _ => false) = true) (hi : (P.info? ty).map (·.size) = some cs.size) :
    (results fn tmps).run P w = .ok (.agg cs) w := by
  have hp' : tmps[p]?.getD undef = .pointer (some ⟨g, 0, none⟩) := by simpa using hp
  simp only [results, h]
  simp [hp', asAddr, run_loadVar_row w g t ty cs (0, 0) d hg hu hd hi]
set_option maxRecDepth 100000 in
set_option maxHeartbeats 1000000 in
theorem clone_node (n : Nd) (ih : CloneOK n.ks) (A : Option Addr) (c : Nat) (K : Option Addr) (k : Nat) (w : World) (h : Node w w.heap.size A c K k n) (hl : n.ks.length ≤ 100000000) (hv' : n.v.length ≤ 140737488355328) :
    Calls Tryz.prog 124 #[ndV n A c K k] w fun e w' => ∃ A' c' K' k', e = .returned (ndV n A' c' K' k') ∧ NodeS w' (NewS w w') A' c' K' k' n ∧ Below w.heap.size w w' := by
  unfold ndV
  have hB := fun W (hW : Below w.heap.size w W) => bclone_any A c n.v W (h.on hW).data h.dc h.dm hv'
  have hC := fun W (hW : Below w.heap.size w W) => ih K k W (h.on hW).kids hl
  have b0 : Below w.heap.size w ((w.alloc (.cells #[hv n.t, .slice A n.v.length c, .slice K n.ks.length k] 50)).alloc (.cells #[.int .u16 0, .slice none 0 0, .slice none 0 0] 50)) := ((Below.refl _ _).alloc (Nat.le_refl _) _).alloc (by simp) _
  have hW0 := (Whole.new w 50 #[hv n.t, .slice A n.v.length c, .slice K n.ks.length k]).alloc (.cells #[.int .u16 0, .slice none 0 0, .slice none 0 0] 50)
  have hW1 := Whole.new (w.alloc (.cells #[hv n.t, .slice A n.v.length c, .slice K n.ks.length k] 50)) 50 #[.int .u16 0, .slice none 0 0, .slice none 0 0]
  simp only [World.size_alloc] at hW1
  go_enter Tryz.func124, Tryz.ntmps124
  go_wp2_with fail
  go_region_held3 (fun W => W.cell? ⟨w.heap.size, 0, none⟩ = some (hv n.t) ∧ W.cell? ⟨w.heap.size, 1, none⟩ = some (.slice A n.v.length c) ∧ W.cell? ⟨w.heap.size, 2, none⟩ = some (.slice K n.ks.length k)) (go_keep) (first
    | (go_at_call 79; refine (hB _ (by first | exact b0 | exact below_drew b0)).mono ?_; rintro e w2 ⟨A2, c2, rfl, l2, m2, m3, b2⟩; have b2' : Below w.heap.size w w2 := (by first | exact b0.trans (b2.mono (by simp <;> omega)) | exact (below_drew b0).trans (b2.mono (by simp <;> omega))); have hX0 : Whole w2 w.heap.size 50 #[hv n.t, .slice A n.v.length c, .slice K n.ks.length k] := (by first | exact hW0.below b2 (by simp <;> omega) | exact hW0.drew.below b2 (by simp <;> omega)); have hX1 : Whole w2 (w.heap.size + 1) 50 #[.int .u16 0, .slice none 0 0, .slice none 0 0] := (by first | exact hW1.below b2 (by simp) | exact hW1.drew.below b2 (by simp)); have g0 : w2.cell? ⟨w.heap.size, 0, none⟩ = some (hv n.t) := (by rw [hX0.cell]; rfl); have g1 : w2.cell? ⟨w.heap.size, 1, none⟩ = some (.slice A n.v.length c) := (by rw [hX0.cell]; rfl); have g2 : w2.cell? ⟨w.heap.size, 2, none⟩ = some (.slice K n.ks.length k) := (by rw [hX0.cell]; rfl); have hsz2 : w.heap.size + 1 + 1 ≤ w2.heap.size := (by have h9 := b2.size; simpa using h9))
    | (go_at_call 147; refine (hC _ b2').mono ?_; rintro e w3 ⟨A3, c3, rfl, l3, m4, m5, b3⟩; have b3' : Below w.heap.size w w3 := b2'.trans (b3.mono b2'.size); have hY0 := hX0.below b3 hX0.lt; have hY1 := hX1.below b3 hX1.lt; have k0 : w3.cell? ⟨w.heap.size, 0, none⟩ = some (hv n.t) := (by rw [hY0.cell]; rfl); have k1 : w3.cell? ⟨w.heap.size, 1, none⟩ = some (.slice A n.v.length c) := (by rw [hY0.cell]; rfl); have k2 : w3.cell? ⟨w.heap.size, 2, none⟩ = some (.slice K n.ks.length k) := (by rw [hY0.cell]; rfl); have r0 : w3.cell? ⟨w.heap.size + 1, 0, none⟩ = some (.int .u16 0) := (by rw [hY1.cell]; rfl); have r1 : w3.cell? ⟨w.heap.size + 1, 1, none⟩ = some (.slice none 0 0) := (by rw [hY1.cell]; rfl); have r2 : w3.cell? ⟨w.heap.size + 1, 2, none⟩ = some (.slice none 0 0) := (by rw [hY1.cell]; rfl); have f0 := hY1.frozen 0; have f1 := hY1.frozen 1; have f2 := hY1.frozen 2))
  have hF : Whole (((w3.setCell ⟨w.heap.size + 1, 0, none⟩ (.int .u16 n.t.toNat)).setCell ⟨w.heap.size + 1, 1, none⟩ (.slice A2 n.v.length c2)).setCell ⟨w.heap.size + 1, 2, none⟩ (.slice A3 n.ks.length c3)) (w.heap.size + 1) 50 #[hv n.t, .slice A2 n.v.length c2, .slice A3 n.ks.length c3] :=
    ((hY1.set_ 0 _).set_ 1 _).set_ 2 _
  have hfar : ∀ p : Addr, p.block ≠ w.heap.size + 1 → (((w3.setCell ⟨w.heap.size + 1, 0, none⟩ (.int .u16 n.t.toNat)).setCell ⟨w.heap.size + 1, 1, none⟩ (.slice A2 n.v.length c2)).setCell ⟨w.heap.size + 1, 2, none⟩ (.slice A3 n.ks.length c3)).cell? p = w3.cell? p := fun p hp => by
    rw [World.cell?_setCell_other _ _ _ _ (fun e => hp (by rw [← e])), World.cell?_setCell_other _ _ _ _ (fun e => hp (by rw [← e])), World.cell?_setCell_other _ _ _ _ (fun e => hp (by rw [← e]))]
  have hBf : Below w.heap.size w (((w3.setCell ⟨w.heap.size + 1, 0, none⟩ (.int .u16 n.t.toNat)).setCell ⟨w.heap.size + 1, 1, none⟩ (.slice A2 n.v.length c2)).setCell ⟨w.heap.size + 1, 2, none⟩ (.slice A3 n.ks.length c3)) :=
    ((b3'.setCell (by simp) _).setCell (by simp) _).setCell (by simp) _
  have hsz3 : w2.heap.size ≤ w3.heap.size := b3.size
  have hszf : (((w3.setCell ⟨w.heap.size + 1, 0, none⟩ (.int .u16 n.t.toNat)).setCell ⟨w.heap.size + 1, 1, none⟩ (.slice A2 n.v.length c2)).setCell ⟨w.heap.size + 1, 2, none⟩ (.slice A3 n.ks.length c3)).heap.size = w3.heap.size := by simp [World.setCell]
  generalize ((w3.setCell ⟨w.heap.size + 1, 0, none⟩ (.int .u16 n.t.toNat)).setCell ⟨w.heap.size + 1, 1, none⟩ (.slice A2 n.v.length c2)).setCell ⟨w.heap.size + 1, 2, none⟩ (.slice A3 n.ks.length c3) = W at *
  go_wp2_with fail
  (try simp only [Exit.then])
  refine bodyPost_ret (results_row1 rfl _ _ (w.heap.size + 1) 50 _ _ rfl hF Tryz.underlying50 rfl (by kernel_rfl)) rfl ?_
  refine ⟨A2, c2, A3, c3, rfl, ⟨l2.turn (fun p hp => ?_) (fun b hb => ?_), m2, m3, l3.turn (fun p hp => ?_) (fun b hb => ?_), m4, m5⟩, hBf⟩
  · have h1 := hp.1
    simp at h1
    exact (hfar p (by omega)).trans (b3.cell hp.2)
  · have h1 := hb.1
    simp at h1
    exact ⟨by omega, by have := hb.2; omega⟩
  · exact hfar p (by have := hp.1; omega)
  · exact ⟨by have := hb.1; omega, by have := hb.2; omega⟩
set_option maxRecDepth 100000 in
set_option maxHeartbeats 1000000 in
theorem clones_step (ns : List Nd) (ih : ∀ n ∈ ns, CloneOK n.ks) (hf : ∀ n ∈ ns, n.ks.length ≤ 100000000 ∧ n.v.length ≤ 140737488355328) : CloneOK ns := by
  intro A c w h hl
  have HI := Lib.hid ih
  have HF := Lib.hid hf
  clear ih hf
  go_enter Tryz.func147, Tryz.ntmps147
  go_wp2_with fail
  go_loopw [3, 8] (fun v i wr => ∃ (k : Nat), k ≤ ns.length ∧ i = .int .i64 k ∧ Hid (NRow wr w.heap.size v (ns.take k)) ∧ Below w.heap.size w wr) (fun _ i _ => ns.length - (intOf i).toNat)
  case atStart => exact ⟨0, Nat.zero_le _, rfl, ⟨[], World.ownsRow_nil _ _ _ _, _, _, Elems.nil _ _⟩, Below.refl _ _⟩
  case round =>
    obtain ⟨k, hk, rfl, hrow, hbel⟩ := hrel
    by_cases hlt : k < ns.length
    · obtain ⟨ad, A', c', K', k', n, rfl, hb, hn', hc0, hc1, hc2, hN⟩ := (h.bel hbel).at_ hlt
      obtain ⟨us, hown, Ks, cs, hE⟩ := hrow.out.own
      have hlen : (ns.take k).length = k := by rw [List.length_take]; omega
      rw [hlen] at hown
      have hmem := List.mem_of_getElem? hn'.out
      have b0 : Below wr.heap.size wr (wr.alloc (.cells #[hv n.t, .slice A' n.v.length c', .slice K' n.ks.length k'] 50)) := (Below.refl _ _).alloc (Nat.le_refl _) _
      have hS := clone_node n (HI.out n hmem) A' c' K' k' _ ((hN.more hbel.size).on b0) (HF.out n hmem).1 (HF.out n hmem).2
      unfold ndV at hS
      have HE := Lib.hid hE
      have HO := Lib.hid hown
      have HL := Lib.hid hlen
      clear hE hown hlen
      obtain ⟨A1, c1, rfl⟩ := own_slice3 HO.out
      go_wp2_with fail
      refine hS.mono ?_
      rintro e w2 ⟨A2, c2, K2, k2, rfl, hN2, b2⟩
      have b2' := b0.trans (b2.mono (by simp))
      have hal := (Below.refl w2.heap.size w2).alloc (Nat.le_refl _) (.cells #[hv n.t, .slice A2 n.v.length c2, .slice K2 n.ks.length k2] 50)
      have hown2 := (own_below3 HO.out b2').alloc (.cells #[hv n.t, .slice A2 n.v.length c2, .slice K2 n.ks.length k2] 50)
      have HO2 := Lib.hid hown2
      have hnew : ∀ j u, [hv n.t, Value.slice A2 n.v.length c2, .slice K2 n.ks.length k2][j]? = some u → (w2.alloc (.cells #[hv n.t, .slice A2 n.v.length c2, .slice K2 n.ks.length k2] 50)).cell? ((⟨w2.heap.size, 0, none⟩ : Addr).add j) = some u := fun j u hu => by
        rw [add_row, (Whole.new w2 50 #[hv n.t, .slice A2 n.v.length c2, .slice K2 n.ks.length k2]).cell]
        simpa using hu
      have HNW := Lib.hid hnew
      have hwsz := hbel.size
      have hwsz2 := b2'.size
      clear hown2 hnew
      go_wp2_with (at_builtin; refine wpList_append_told _ rfl (.tmp 12) (.tmp 15) 23 rfl w.heap.size 50 _ 3 56 Tryz.underlying23 ndinfo rfl (by omega) _ _ _ rfl HO2.out _ 1 1 (by omega) [hv n.t, .slice A2 n.v.length c2, .slice K2 n.ks.length k2] rfl rfl HNW.out (by intro u hu; simp at hu; rcases hu with rfl | rfl | rfl <;> rfl) (by unfold maxLen; omega) (by omega) (by simp; omega) ?_; intro v' w4 hown4 hgrow4 hblk4)
      have hR4 := NRow.grow (W := wr) (W2 := w2.alloc (.cells #[hv n.t, .slice A2 n.v.length c2, .slice K2 n.ks.length k2] 50)) (W3 := w4) (L := w.heap.size) (v := .slice A1 k c1) (v' := v') (ns := ns.take k) (us := us) (A := A2) (K := K2) (c := c2) (k := k2) (n := n) (by rw [HL.out]; exact HO.out) HE.out hwsz (b2'.trans (hal.mono hwsz2))
        (hN2.turn (fun p hp => World.cell?_alloc_lt w2 _ p hp.2) (fun b hb => ⟨by have := hb.1; simp at this; omega, by have := hb.2; simp; omega⟩)) hgrow4 (by rw [HL.out]; exact hown4)
        (by rcases hblk4 with h1 | h1; · exact .inl ⟨_, Nat.le_refl _, h1⟩
            · exact .inr h1)
      rw [← take_some hn'.out] at hR4
      have hb4 : Below w.heap.size w w4 := (hbel.trans ((b2'.trans (hal.mono hwsz2)).mono hwsz)).grown hgrow4 (by simp; omega) (fun q e => (HO.out.lt q e).1)
      exact ⟨⟨k + 1, by omega, rfl, hR4, hb4⟩, by simp [intOf]; omega⟩
    · obtain rfl : k = ns.length := by omega
      rw [List.take_length] at hrow
      obtain ⟨us, hown, Ks, cs, hE⟩ := hrow.out.own
      obtain ⟨A1, c1, rfl⟩ := own_slice3 hown
      have HR := Lib.hid (NRow.nodesS hrow.out)
      clear hown hE hrow
      go_wp2_with fail
      go_ret
      exact ⟨A1, c1, rfl, HR.out.1, HR.out.2.1, HR.out.2.2, hbel⟩
/-- at whatever depth: not so many inside, and not so many bytes -/
inductive Few2 : Nd → Prop
  | mk {n : Nd} : n.ks.length ≤ 100000000 → n.v.length ≤ 140737488355328 → (∀ k ∈ n.ks, Few2 k) → Few2 n
theorem Few2.kl {n : Nd} (h : Few2 n) : n.ks.length ≤ 100000000 ∧ n.v.length ≤ 140737488355328 := by cases h; constructor <;> assumption
theorem Few2.kid {n : Nd} (h : Few2 n) : ∀ k ∈ n.ks, Few2 k := by cases h; assumption
theorem Fine.few2 (n : Nd) : Fine n → Few2 n :=
  Nd.ind (P := fun n => Fine n → Few2 n) (fun t v ks ih h => .mk (by have := h.kl; omega) (by have := h.vl; rw [Nd.vlen_eq] at this; omega) fun k hk => ih k hk (h.kid k hk)) n
theorem clones_any (ns : List Nd) : (∀ n ∈ ns, Few2 n) → CloneOK ns :=
  Nds.ind (P := fun ns => (∀ n ∈ ns, Few2 n) → CloneOK ns) (fun ns ih h => clones_step ns (fun n hn => ih n hn (h n hn).kid) fun n hn => (h n hn).kl) ns
/-- Clone of whatever node -/
theorem nclone_any (n : Nd) (hf : Few2 n) (A : Option Addr) (c : Nat) (K : Option Addr) (k : Nat) (w : World) (h : Node w w.heap.size A c K k n) :
    Calls Tryz.prog 124 #[ndV n A c K k] w fun e w' => ∃ A' c' K' k', e = .returned (ndV n A' c' K' k') ∧ NodeS w' (NewS w w') A' c' K' k' n ∧ Below w.heap.size w w' :=
  clone_node n (clones_any n.ks hf.kid) A c K k w h hf.kl.1 hf.kl.2

end Go.Proofs.YthkbcpbgoefanaaGreatDoor


namespace Go.Proofs.YthkbcpbgoefanaaGreatDoor
open Go.RowKit

/-- how a body ends that goes on or leaves by 'return' -/
def either {α : Type} (B : Nat) (Kp : World → World → Prop) (I : List α → World → Prop) (Ix : List α × α → World → Prop) (pre : List α) (x : α) (W : World) : Exit → Act → World → Prop
  | .normal, _, W' => KeepsFrom B W W' ∧ Kp W W' ∧ I (pre ++ [x]) W'
  | .ret, _, W' => KeepsFrom B W W' ∧ Ix (pre, x) W'
  | .exit _, _, _ => False
  | .goto _, _, _ => False
  | .panic _, _, _ => False
  | .outgrown, _, _ => False

/-- an iterator that ends by itself, or where a round has said 'no more' (Row: what it says of an element as it hands it over) -/
def ComesS {α : Type} (F : Fence) (n : Nat) (P : Program) (gf : Nat) (lb : Array Value) (encs : α → Array Value) (Kp : World → World → Prop) (G : World → Nat → Prop) (Row : World → α → Prop) (Fin : List α → Prop) (FinX : List α × α → Prop) (N : Nat) (w : World) : Prop :=
  ∀ (l : Nat) (J : List α → World → Prop) (Jx : List α × α → World → Prop) (W : World), Below w.heap.size w W → OwnFrom W.heap.size J → OwnFrom W.heap.size Jx → (∀ s A, J s A → ∀ i, G A i → i < A.heap.size) →
    (∀ pre x W1, J pre W1 → pre.length < N → Row W1 x → YieldAt F (n - 1) P l (encs x) W1 fun e W' => ((e = .returned (.bool true) ∧ J (pre ++ [x]) W' ∧ Kp W1 W') ∨ (e = .returned (.bool false) ∧ Jx (pre, x) W')) ∧ KeepsFrom W.heap.size W1 W') → J [] W →
    CallsIn F n P gf (#[.func (.yield l) #[] #[]] ++ lb) W fun e W' => (∃ v, e = .returned v) ∧ ((∃ xs, Fin xs ∧ J xs W') ∨ (∃ p, FinX p ∧ Jx p W'))

theorem each_stop {α : Type} {F : Fence} {n : Nat} {P : Program} {g : Operand} {ps : Array Tmp} {assign body : Code} {Q : Exit → Act → World → Prop} {a : Act} {w : World}
    (hro : F.round = none) (h1 : 1 ≤ n) {gf : Nat} {lb : Array Value} (hg : a.eval g = .func (.func gf) #[] lb) (hFg : F.fn gf) (eg : ∀ args w, (callFunc gf args).run P w = .ok (.enter gf args) w)
    {encs : α → Array Value} {Kp : World → World → Prop} {G : World → Nat → Prop} {Row : World → α → Prop} {Fin : List α → Prop} {FinX : List α × α → Prop} {N : Nat} (hseq : ComesS F (n - 1) P gf lb encs Kp G Row Fin FinX N w)
    (hps : ∀ x, (encs x).size = ps.size)
    (hKt : ∀ {A B C : World}, Kp A B → Kp B C → Kp A C) (hKb : ∀ (W : World) (l : Nat) (o o' : Obj), w.heap.size ≤ l → W.heap[l]? = some o → o.isCells = false → Kp W (W.putObj l o'))
    (I : List α → World → Prop) (hI : OwnFrom w.heap.size I) (Ix : List α × α → World → Prop) (hIx : OwnFrom w.heap.size Ix) (h0 : I [] w) (hG : ∀ s A, I s A → ∀ i, G A i → i < A.heap.size)
    (Ax : List α → α → Act → World → Prop) (hAx : ∀ pre x a', OwnFrom w.heap.size (fun (_ : Unit) W => Ax pre x a' W))
    (hassign : ∀ (l : Nat) (pre : List α) (x : α) (W : World) (K : Act → World → Prop), I pre W → Row W x → (∀ a' W', KeepsFrom w.heap.size W W' → Kp W W' → Ax pre x a' W' → K a' W') →
      assign.wpIn (F.inRound l) (n - 1 - 1) P (Exit.then K (fun _ _ _ => False)) { tmps := (ps.zip (encs x)).foldl (fun t (p, v) => t.setIfInBounds p v) a.tmps, defers := [] } W)
    (hbody : ∀ (l : Nat) (pre : List α) (x : α) (a' : Act) (W : World), Ax pre x a' W → pre.length < N → body.wpIn (F.inRound l) (n - 1 - 1) P (either w.heap.size Kp I Ix pre x W) a' W)
    (hdone : ∀ (D : Nat) (xs : List α) (W : World), w.heap.size ≤ D → Fin xs → I xs W → W.heap[D]? = some (.deferred (some [])) → Q .normal { a with defers := { target := .collected D, args := #[] } :: a.defers } W)
    (hstop : ∀ (D : Nat) (p : List α × α) (W : World), w.heap.size ≤ D → FinX p → Ix p W → W.heap[D]? = some (.deferred (some [])) → Code.ret.wpIn F n P Q { a with defers := { target := .collected D, args := #[] } :: a.defers } W) :
    (Code.rangeFunc g ps assign body).wpIn F n P Q a w := by
  refine wpIn_rangeFunc fun fn hfn => ?_
  rw [hro]
  obtain ⟨rec, hrec⟩ : ∃ rec : LoopState → Option Code → Loop, rec = fun st pe => { state := st, pending := pe, fn, tmps := a.tmps, params := ps, assign, body, defers := w.heap.size } := ⟨_, rfl⟩
  have he := run_enterLoop_outer (P := P) (w := w) fn a.tmps ps assign body
  rw [show ({ state := .ready, pending := none, fn, tmps := a.tmps, params := ps, assign, body, defers := w.heap.size } : Loop) = rec .ready none by rw [hrec]] at he
  have hgrow : w.grownBy ((w.alloc (.deferred (some []))).alloc (.loop (rec .ready none))) none := (World.grownBy_alloc w _ none).trans (World.grownBy_alloc _ _ none)
  have hlr : ((w.alloc (.deferred (some []))).alloc (.loop (rec .ready none))).heap[w.heap.size + 1]? = some (.loop (rec .ready none)) := by
    have := World.alloc_heap_new (w.alloc (.deferred (some []))) (.loop (rec .ready none))
    rwa [World.size_alloc] at this
  have hld : ((w.alloc (.deferred (some []))).alloc (.loop (rec .ready none))).heap[w.heap.size]? = some (.deferred (some [])) :=
    (Below.heap_alloc _ _ _ (by simp)).trans (World.alloc_heap_new w _)
  have hb : Below w.heap.size w ((w.alloc (.deferred (some []))).alloc (.loop (rec .ready none))) := (Below.refl _ w).grown hgrow (Nat.le_refl _) (fun k e => by cases e)
  have hi1 : I [] ((w.alloc (.deferred (some []))).alloc (.loop (rec .ready none))) := hI [] w _ none h0 hgrow (fun _ e => by cases e)
  have hsz : ((w.alloc (.deferred (some []))).alloc (.loop (rec .ready none))).heap.size = w.heap.size + 1 + 1 := by simp
  generalize (w.alloc (.deferred (some []))).alloc (.loop (rec .ready none)) = w1 at *
  refine ⟨w.heap.size + 1, [{ target := .collected w.heap.size, args := #[] }], w1, { target := .fn (.func gf) lb, args := #[.func (.yield (w.heap.size + 1)) #[] #[]] }, w1, gf,
    #[.func (.yield (w.heap.size + 1)) #[] #[]] ++ lb, w1, he, ?_, ?_, ?_, fun _ => h1, ?_⟩
  · simp only [resolve, hg]
    simp [go_sem]
  · intro f' hf'
    simp [Target.leads] at hf'
    subst hf'
    exact hFg
  · simp [invoke, go_sem, eg]
  have hst : ∀ (A B : World) (row : Option Nat) (i : Nat) (o : Obj), A.grownBy B row → (∀ r, row = some r → w1.heap.size ≤ r ∧ ∃ o : Obj, A.heap[r]? = some o ∧ o.isCells = false) → i < w1.heap.size → A.heap[i]? = some o → B.heap[i]? = some o := fun A B row i o hgr hr hi ho =>
    (hgr.block i (Array.getElem?_eq_some_iff.1 ho).1 (fun e => by have := (hr i e.symm).1; omega)).trans ho
  refine (hseq (w.heap.size + 1) (fun pre W => I pre W ∧ W.heap[w.heap.size + 1]? = some (.loop (rec .ready none)) ∧ W.heap[w.heap.size]? = some (.deferred (some [])))
    (fun p W => Ix p W ∧ W.heap[w.heap.size + 1]? = some (.loop (rec .done (some .ret))) ∧ W.heap[w.heap.size]? = some (.deferred (some []))) w1 hb ?_ ?_ (fun s A h => hG s A h.1) ?_ ⟨hi1, hlr, hld⟩).mono ?_
  · rintro s A B row ⟨ha, hl, hd⟩ hgr hr
    exact ⟨hI s A B row ha hgr (fun r e => ⟨by have := (hr r e).1; omega, (hr r e).2⟩), hst A B row _ _ hgr hr (by omega) hl, hst A B row _ _ hgr hr (by omega) hd⟩
  · rintro s A B row ⟨ha, hl, hd⟩ hgr hr
    exact ⟨hIx s A B row ha hgr (fun r e => ⟨by have := (hr r e).1; omega, (hr r e).2⟩), hst A B row _ _ hgr hr (by omega) hl, hst A B row _ _ hgr hr (by omega) hd⟩
  · rintro pre x W ⟨hi, hl, hd⟩ hN hrw
    have hy := run_yield (P := P) (args := encs x) hl (by rw [hrec]; exact hps x)
    rw [hrec] at hy
    refine ⟨fn, _, assign, body, hy, roundIn_of_wpIn hfn (hassign _ pre x W _ hi hrw ?_)⟩
    intro a' W' hk hkp hax
    have hl' := hk.same _ _ (by omega) hl rfl
    have hd' := hk.same _ _ (Nat.le_refl _) hd rfl
    refine ⟨_, run_beginRound hl' (by rw [hrec]), ?_⟩
    have hlt := (Array.getElem?_eq_some_iff.1 hl').1
    have hl2 : (W'.putObj (w.heap.size + 1) (.loop { rec .ready none with state := .busy })).heap[w.heap.size + 1]? = some (.loop { rec .ready none with state := .busy }) := World.putObj_heap_same hlt
    have hd2 : (W'.putObj (w.heap.size + 1) (.loop { rec .ready none with state := .busy })).heap[w.heap.size]? = some (.deferred (some [])) := (World.putObj_heap_other (by omega)).trans hd'
    have hkf : ∀ {B B' : Nat} {X Y : World}, KeepsFrom B X Y → B ≤ B' → KeepsFrom B' X Y := fun h hB => ⟨h.size, fun k o hk => h.same k o (Nat.le_trans hB hk)⟩
    have hkp0 : ∀ {X : World} (o : Obj), KeepsFrom w1.heap.size X (X.putObj (w.heap.size + 1) o) := fun {X} o => KeepsFrom.of_grownBy (grownBy_putObj' X (w.heap.size + 1) o) (fun j e => by cases e; omega)
    have hka := (hkf hk (B' := w1.heap.size) (by omega)).trans (hkp0 (.loop { rec .ready none with state := .busy }))
    have hkp2 := hKt hkp (hKb W' _ _ (.loop { rec .ready none with state := .busy }) (by omega) hl' rfl)
    have hax2 := (hAx pre x a').putObj (s := ()) (.loop { rec .ready none with state := .busy }) hax (by omega) hl' rfl
    generalize W'.putObj (w.heap.size + 1) (.loop { rec .ready none with state := .busy }) = W2 at *
    refine wpIn_mono (hbody _ pre x a' W2 hax2 hN) ?_
    rintro e a3 W3 hp
    cases e with
    | normal =>
      obtain ⟨hk3, hkp3, hi3⟩ := hp
      have hl3 := hk3.same _ _ (by omega) hl2 rfl
      have hd3 := hk3.same _ _ (Nat.le_refl _) hd2 rfl
      have hend := run_endRound (P := P) none hl3
      have hrr : ({ ({ rec .ready none with state := .busy } : Loop) with state := if (none : Option Code).isNone then .ready else .done, pending := none } : Loop) = rec .ready none := by rw [hrec]; rfl
      rw [hrr] at hend
      exact ⟨_, _, hend, .inl ⟨rfl, ⟨hI.putObj _ hi3 (by omega) hl3 rfl, World.putObj_heap_same (Array.getElem?_eq_some_iff.1 hl3).1, (World.putObj_heap_other (by omega)).trans hd3⟩, hKt hkp2 (hKt hkp3 (hKb _ _ _ _ (by omega) hl3 rfl))⟩, (hka.trans (hkf hk3 (by omega))).trans (hkp0 _)⟩
    | ret =>
      obtain ⟨hk3, hi3⟩ := hp
      have hl3 := hk3.same _ _ (by omega) hl2 rfl
      have hd3 := hk3.same _ _ (Nat.le_refl _) hd2 rfl
      have hend := run_endRound (P := P) (some .ret) hl3
      have hrr : ({ ({ rec .ready none with state := .busy } : Loop) with state := if (some Code.ret : Option Code).isNone then .ready else .done, pending := some .ret } : Loop) = rec .done (some .ret) := by rw [hrec]; rfl
      rw [hrr] at hend
      exact ⟨_, _, hend, .inr ⟨rfl, hIx.putObj _ hi3 (by omega) hl3 rfl, World.putObj_heap_same (Array.getElem?_eq_some_iff.1 hl3).1, (World.putObj_heap_other (by omega)).trans hd3⟩, (hka.trans (hkf hk3 (by omega))).trans (hkp0 _)⟩
    | exit id => exact hp.elim
    | goto t => exact hp.elim
    | panic c => exact hp.elim
    | outgrown => exact hp.elim
  · rintro e W2 ⟨⟨v, rfl⟩, (⟨xs, hf, hi, hl, hd⟩ | ⟨p, hf, hi, hl, hd⟩)⟩
    · have hend := run_endLoop (P := P) hl (by rw [hrec]; simp)
      rw [hrec] at hend
      exact ⟨none, _, hend, hdone _ xs _ (Nat.le_refl _) hf (hI.putObj _ hi (by omega) hl rfl) ((World.putObj_heap_other (by omega)).trans hd)⟩
    · have hend := run_endLoop (P := P) hl (by rw [hrec]; simp)
      rw [hrec] at hend
      exact ⟨some .ret, _, hend, hstop _ p _ (Nat.le_refl _) hf (hIx.putObj _ hi (by omega) hl rfl) ((World.putObj_heap_other (by omega)).trans hd)⟩
end Go.Proofs.YthkbcpbgoefanaaGreatDoor



namespace Go.Proofs.YthkbcpbgoefanaaGreatDoor
open Go.RowKit Go.Shelf

attribute [local go_sem] Oper.semAt_some

/-- where the reading of a right list stands -/
def Cur2 (b : List UInt8) (pre : List (Nat × Fr)) (k : Nat) : Prop := (k = b.length ∧ yla b 0 = pre) ∨ (k < b.length ∧ pre.length ≤ k ∧ Live b pre k)
theorem cur2_start (b : List UInt8) : Cur2 b [] 0 := by
  by_cases h : b = []
  · subst h
    exact .inl ⟨rfl, yla_none (by simp [fa])⟩
  · exact .inr ⟨List.length_pos_iff.2 h, Nat.le_refl _, live_start h⟩
theorem Live.next2 {b : List UInt8} {pre : List (Nat × Fr)} {k k' : Nat} {f : Fr} (h : Live b pre k) (hl : pre.length ≤ k) (hf : fa b k = some f) (hn : na b (k + frL f) = some k') : Cur2 b (pre ++ [(k, f)]) k' ∧ k < k' ∧ k' ≤ b.length := by
  have h4 := frL_pos f
  have h5 := fa_len hf
  unfold na at hn
  split at hn
  · rename_i he
    simp only [Option.some.injEq] at hn
    subst hn
    exact ⟨.inl ⟨he, h.last hf (by rw [he]; exact nx_end b)⟩, by omega, h5⟩
  · obtain ⟨_, h1, h2, _⟩ := nx_some hn
    exact ⟨.inr ⟨h2, by rw [List.length_append]; simp; omega, h.more hf hn⟩, by omega, by omega⟩
theorem Live.has {b : List UInt8} {pre : List (Nat × Fr)} {k : Nat} {f : Fr} (h : Live b pre k) (hf : fa b k = some f) : ∃ post, yla b 0 = pre ++ (k, f) :: post := by
  have h1 := h.all
  cases hn : Go.Proofs.YthkbcpbgoefanaaGreatDoor.nx b (k + frL f) with
  | none => rw [yla_last hf hn] at h1; exact ⟨[], h1.symm⟩
  | some k' => rw [yla_more hf hn] at h1; exact ⟨_, h1.symm⟩
/-- what has come at the end; how far it had come when it was stopped -/
def FinK (b : List UInt8) (ys : List Yf) : Prop := yla b 0 = ys.map Yf.key
def FinP (b : List UInt8) (p : List Yf × Yf) : Prop := ∃ post, yla b 0 = p.1.map Yf.key ++ p.2.key :: post
/-- nothing that grows, or turns a block at or behind X, adds to what the rounds may write -/
def GOwn (X : Nat) (G : World → Nat → Prop) : Prop := ∀ A B row, X ≤ A.heap.size → A.grownBy B row → (∀ r, row = some r → X ≤ r) → ∀ i, G B i → G A i
def RowX (G : World → Nat → Prop) (W : World) (x : Yf) : Prop := RowG G W x.A x.c x.f.v

theorem kpg_of {G : World → Nat → Prop} {X n₀ : Nat} {A B : World} (hGo : GOwn X G) (hX : X ≤ A.heap.size) (hn : n₀ ≤ A.heap.size) (hb : Below A.heap.size A B) : KpG G n₀ A B :=
  ⟨hb.mono hn, fun i _ _ _ _ hi => (hb.block i (Array.getElem?_eq_some_iff.1 hi).1).trans hi, fun i _ hi => hGo _ _ none hX (grown_of_below hb) (fun r e => by cases e) i hi⟩

set_option maxRecDepth 100000 in
set_option maxHeartbeats 2000000 in
theorem places1s_in (n : Nat) (hn : 1 ≤ n) (l Bb n₀ X : Nat) (A : Option Addr) (c : Nat) (b : List UInt8) (hc : b.length ≤ c) (hm : c ≤ maxLen) (hs : b.length ≤ 10000000) (fs0 : List Fr) (hsp : spl b = .ok fs0)
    (G : World → Nat → Prop) (hGo : GOwn X G)
    (J : List Yf → World → Prop) (Jx : List Yf × Yf → World → Prop) (hJg : ∀ s A B, J s A → A.grownBy B none → J s B) (hJG : ∀ s A, J s A → ∀ i, G A i → i < A.heap.size)
    (hY : ∀ pre x W1, J pre W1 → pre.length < b.length + 1 → RowX G W1 x → YieldAt Fence.wide (n - 1) Tryz.prog l (encY x) W1 fun e W' => (e = .returned (.bool true) ∧ J (pre ++ [x]) W' ∧ KpG G n₀ W1 W') ∨ (e = .returned (.bool false) ∧ Jx (pre, x) W'))
    (W : World) (hX : X ≤ W.heap.size) (hBb : Whole W Bb 22 #[.slice A b.length c]) (hBg : ¬ G W Bb) (hLk : ∀ V, KpG G n₀ W V → Lies V V.heap.size A (b.map bv)) (hn₀ : n₀ ≤ W.heap.size) (h0 : J [] W) :
    CallsIn Fence.wide n Tryz.prog 173 #[.func (.yield l) #[] #[], .pointer (some ⟨Bb, 0, none⟩)] W fun e W' => (∃ v, e = .returned v) ∧ ((∃ xs, FinK b xs ∧ J xs W') ∨ (∃ p, FinP b p ∧ Jx p W')) := by
  refine callsIn_of_wp Tryz.func173 rfl trivial ?_ rfl
  simp only [Tryz.ntmps173, List.size_toArray, List.length_cons, List.length_nil, Nat.reduceAdd, Nat.reduceSub, Array.replicate_succ, Array.replicate_zero, List.push_toArray, List.append_toArray, List.nil_append, List.cons_append]
  gi_wp2
  refine wpIn_wide.2 (wp_scope_straight ((wpIn_wide (n := n)).1 ?_))
  refine wpIn_seq (wpIn_label ?_)
  simp only [Exit.then]
  gi_wp2
  gi_loopw [3] (fun at_ wr => ∃ (k : Nat) (ys : List Yf), at_ = .int .i64 k ∧ J ys wr ∧ KpG G n₀ W wr ∧ Hid (Cur2 b (ys.map Yf.key) k))
    (fun at_ _ => b.length + 1 - (intOf at_).toNat)
  case atStart => exact ⟨0, [], rfl, h0, KpG.refl _ _ _, cur2_start b⟩
  case round =>
    obtain ⟨k, ys, rfl, hj, hkp, hrel⟩ := hrel
    have hW1 : Whole wr Bb 22 #[.slice A b.length c] := hkp.same _ _ _ _ hBg hBb
    have hcell : wr.cell? ⟨Bb, 0, none⟩ = some (.slice A b.length c) := by rw [Whole.cell hW1]; rfl
    have hgl := hJG _ _ hj
    have hXw : X ≤ wr.heap.size := Nat.le_trans hX hkp.low.size
    -- what grows keeps all
    have hgr : ∀ B, Below wr.heap.size wr B → KpG G n₀ wr B ∧ J ys B ∧ ∀ i, G B i → i < wr.heap.size := fun B hB =>
      ⟨⟨hB.mono (Nat.le_trans hn₀ hkp.low.size), fun i _ _ _ _ hi => (hB.block i (Array.getElem?_eq_some_iff.1 hi).1).trans hi, fun i _ hi => hGo _ _ none hXw (grown_of_below hB) (fun r e => by cases e) i hi⟩, hJg _ _ _ hj (grown_of_below hB), fun i hi => hgl i (hGo _ _ none hXw (grown_of_below hB) (fun r e => by cases e) i hi)⟩
    rcases hrel.out with ⟨hk, hfin⟩ | ⟨hk, hyk, hlv⟩
    · have ht : ¬ ((k : Int) < (b.length : Int)) := by omega
      clear hrel
      gi_wp2
      go_end0
      exact ⟨⟨_, rfl⟩, .inl ⟨ys, hfin, hj⟩⟩
    · have ht : (k : Int) < (b.length : Int) := by omega
      have hLr := hLk wr hkp
      cases hf : fa b k with
      | none => exact absurd (hsp.symm.trans (hlv.none hf)) (by simp)
      | some f =>
        have hfl := fa_len hf
        have hf4 := frL_pos f
        have hle : k + frL f ≤ 10000000 := by omega
        cases hna : na b (k + frL f) with
        | none => exact absurd (hsp.symm.trans (hlv.wrong hf hna)) (by simp)
        | some k' =>
          have HF := Lib.hid (frameAt_some A c b k f k' wr hLr hc hm hs hf hna)
          obtain ⟨hcur, hk1, hk2⟩ := hlv.next2 hyk hf hna
          have HP := Lib.hid (hlv.has hf)
          have HC := Lib.hid hcur
          clear hcur
          clear hrel
          gi_wp2_with fail
          refine ⟨trivial, (callsIn_wide.2 HF.out).mono ?_⟩
          rintro e w2 ⟨A', c', rfl, hown, b2⟩
          obtain ⟨k1, hj2, hg2⟩ := hgr _ (b2.alloc b2.size (.cells #[hv f.t, .slice A' f.v.length c'] 96))
          have hro : RowG G (w2.alloc (.cells #[hv f.t, .slice A' f.v.length c'] 96)) A' c' f.v :=
            ⟨⟨_, hown.alloc _⟩, fun u hu hgu => by
              rcases hown.2 with ⟨h2, _⟩ | ⟨g, cap, cur, h2, h3, _⟩
              · simp only [Value.slice.injEq] at h2
                rw [h2.1] at hu
                cases hu
              · simp only [Value.slice.injEq] at h2
                rw [h2.1] at hu
                cases hu
                have h1 : g < wr.heap.size := hg2 _ hgu
                omega⟩
          obtain ⟨fn, tmps, assign, body, hy, hR⟩ := hY ys ⟨k, f, A', c', hle⟩ _ hj2 (by simp at hyk; omega) hro
          have hbox := Whole.new w2 96 #[hv f.t, .slice A' f.v.length c']
          have q0 := hbox.cell 0
          have q1 := hbox.cell 1
          simp only [List.getElem?_toArray, List.getElem?_cons_zero, List.getElem?_cons_succ] at q0 q1
          simp only [encY] at hy
          gi_wp2_with fail
          refine hR.mono ?_
          rintro e w3 (⟨rfl, hj3, hk3⟩ | ⟨rfl, hx3⟩)
          · have hkp3 := (hkp.trans k1).trans hk3
            have HE2 : Hid (Cur2 b ((ys ++ [(⟨k, f, A', c', hle⟩ : Yf)]).map Yf.key) k') := by
              rw [Hid, List.map_append]
              exact HC.out
            gi_wp2_with fail
            go_roundw
            case rel => exact ⟨k', _, rfl, hj3, hkp3, HE2⟩
            case measure => simp [intOf]; omega
          · gi_wp2_with fail
            simp only [Exit.noGoto_normal]
            go_end0
            exact ⟨⟨_, rfl⟩, .inr ⟨(ys, ⟨k, f, A', c', hle⟩), HP.out, hx3⟩⟩

/-! ### All's own iterator -/
def encA (y : Yf) : Array Value := #[.int .i64 (y.k : Int), .agg #[hv y.f.t, .slice y.A y.f.v.length y.c]]
theorem roundIn_wide {n m : Nat} {l l' : Nat} {P : Program} {f : FuncId} {tmps : Array Value} {assign body : Code} {w : World} {R : Ending → World → Prop} (h : RoundIn Fence.wide n P l f tmps assign body w R) : RoundIn (Fence.wide.inRound l') m P l f tmps assign body w R :=
  ⟨h.1, fun c cs _ => h.2 c cs (by simp [Fence.room, Fence.wide])⟩
/-- what All's loop holds: the caller's, and the variable with the yield -/
structure AlI (G : World → Nat → Prop) (J : List Yf → World → Prop) (l By X : Nat) (ys : List Yf) (W : World) : Prop where
  j : J ys W
  y : Boxed W By 231 (.func (.yield l) #[] #[])
  ny : ¬ G W By
  sz : X ≤ W.heap.size
theorem ownFrom_wider {β : Type} {B B' : Nat} {I : β → World → Prop} (h : OwnFrom B I) (hB : B ≤ B') : OwnFrom B' I := fun s W W' row hs hg hr => h s W W' row hs hg fun r e => ⟨Nat.le_trans hB (hr r e).1, (hr r e).2⟩
theorem alI_own {G : World → Nat → Prop} {J : List Yf → World → Prop} {l By X : Nat} (hGo : GOwn X G) (hJo : OwnFrom X J) : OwnFrom X (AlI G J l By X) := by
  rintro ys A B row ⟨h1, h2, h3, h0⟩ hg hr
  have hne : ∀ (i : Nat) (cs : Array Value) (t : TypeId) (z : Nat × Nat), A.heap[i]? = some (.cells cs t z) → some i ≠ row := by
    intro i cs t z hi e
    obtain ⟨_, o, ho, hoc⟩ := hr i e.symm
    rw [hi] at ho
    cases ho
    cases hoc
  exact ⟨hJo _ _ _ _ h1 hg hr, h2.kept hg (hne _ _ _ _ h2), fun h => h3 (hGo _ _ _ h0 hg (fun r e => (hr r e).1) _ h), Nat.le_trans h0 hg.size⟩
theorem rowX_own {G : World → Nat → Prop} {X : Nat} (hGo : GOwn X G) {A B : World} {row : Option Nat} {x : Yf} (h0 : X ≤ A.heap.size) (hg : A.grownBy B row) (hr : ∀ r, row = some r → X ≤ r ∧ ∃ o : Obj, A.heap[r]? = some o ∧ o.isCells = false) (h : RowX G A x) : RowX G B x := by
  obtain ⟨⟨base, h1⟩, h2⟩ := h
  refine ⟨⟨base, h1.kept hg ?_⟩, fun u hu hb => h2 u hu (hGo _ _ _ h0 hg (fun r e => (hr r e).1) _ hb)⟩
  rcases h1.2 with ⟨h3, _⟩ | ⟨g, cap, cur, h3, _, hh, _⟩
  · rw [h3]; exact .inl rfl
  · rw [h3]
    refine .inr (fun e => ?_)
    obtain ⟨_, o, ho, hoc⟩ := hr g e.symm
    rw [hh] at ho
    cases ho
    cases hoc

set_option maxRecDepth 100000 in
set_option maxHeartbeats 4000000 in
theorem all1_in (l Bb n₀ : Nat) (A : Option Addr) (c : Nat) (b : List UInt8) (hc : b.length ≤ c) (hm : c ≤ maxLen) (hs : b.length ≤ 10000000) (fs0 : List Fr) (hsp : spl b = .ok fs0)
    (G : World → Nat → Prop) (W : World) (hGo : GOwn W.heap.size G)
    (J : List Yf → World → Prop) (Jx : List Yf × Yf → World → Prop) (hJo : OwnFrom W.heap.size J) (hJxo : OwnFrom W.heap.size Jx) (hJG : ∀ s A, J s A → ∀ i, G A i → i < A.heap.size)
    (hY : ∀ pre x W1, J pre W1 → pre.length < b.length + 1 → RowX G W1 x → YieldAt Fence.wide 4 Tryz.prog l (encA x) W1 fun e W' => ((e = .returned (.bool true) ∧ J (pre ++ [x]) W' ∧ KpG G n₀ W1 W') ∨ (e = .returned (.bool false) ∧ Jx (pre, x) W')) ∧ KeepsFrom W.heap.size W1 W')
    (hBb : Whole W Bb 22 #[.slice A b.length c]) (hLk : ∀ V, KpG G n₀ W V → Lies V V.heap.size A (b.map bv)) (hn₀ : n₀ ≤ W.heap.size) (h0 : J [] W) :
    CallsIn Fence.wide 5 Tryz.prog 165 #[.func (.yield l) #[] #[], .pointer (some ⟨Bb, 0, none⟩)] W fun e W' => (∃ v, e = .returned v) ∧ ((∃ xs, FinK b xs ∧ J xs W') ∨ (∃ p, FinP b p ∧ Jx p W')) := by
  refine callsIn_of_wp_marks Tryz.func165 rfl trivial ?_ rfl
  simp only [Tryz.ntmps165, List.size_toArray, List.length_cons, List.length_nil, Nat.reduceAdd, Nat.reduceSub, Array.replicate_succ, Array.replicate_zero, List.push_toArray, List.append_toArray, List.nil_append, List.cons_append]
  have hcell : W.cell? ⟨Bb, 0, none⟩ = some (.slice A b.length c) := by rw [Whole.cell hBb]; rfl
  have hBlt := hBb.lt
  gi_wp2_with (refine ⟨trivial, ?_⟩; gi_at_call 164; refine (places_in _ _ _ _ _).mono ?_; rintro e w' ⟨rfl, rfl⟩)
  have hW0 := (Whole.below hBb (w' := W.alloc (.cells #[.func (.yield l) #[] #[]] 231)) ((Below.refl _ W).alloc (Nat.le_refl _) _) hBlt)
  have hB0 : Below W.heap.size W ((W.alloc (.cells #[.func (.yield l) #[] #[]] 231)).alloc (.cells #[.slice A b.length c] 22)) :=
    ((Below.refl _ W).alloc (Nat.le_refl _) _).alloc (by simp) _
  have x0 := (Boxed.new W 231 (.func (.yield l) #[] #[])).alloc (.cells #[.slice A b.length c] 22)
  have x1 := Boxed.new (W.alloc (.cells #[.func (.yield l) #[] #[]] 231)) 22 (.slice A b.length c)
  simp only [World.size_alloc] at x1
  have hsz : ((W.alloc (.cells #[.func (.yield l) #[] #[]] 231)).alloc (.cells #[.slice A b.length c] 22)).heap.size = W.heap.size + 1 + 1 := by simp
  have hj0 : J [] ((W.alloc (.cells #[.func (.yield l) #[] #[]] 231)).alloc (.cells #[.slice A b.length c] 22)) := hJo.alloc _ (hJo.alloc _ h0)
  have hg0 : ∀ i, G ((W.alloc (.cells #[.func (.yield l) #[] #[]] 231)).alloc (.cells #[.slice A b.length c] 22)) i → i < W.heap.size := fun i hi =>
    hJG _ _ h0 i (hGo _ _ none (Nat.le_refl _) (grown_of_below hB0) (fun r e => by cases e) i hi)
  generalize (W.alloc (.cells #[.func (.yield l) #[] #[]] 231)).alloc (.cells #[.slice A b.length c] 22) = W0 at *
  have hi0 : AlI G J l W.heap.size W0.heap.size [] W0 := ⟨hj0, x0, fun h => Nat.lt_irrefl _ (hg0 _ h), Nat.le_refl _⟩
  have hGo0 : GOwn W0.heap.size G := fun A B row hA hg hr => hGo A B row (by omega) hg fun r e => by have := hr r e; omega
  have hIo : OwnFrom W0.heap.size (AlI G J l W.heap.size W0.heap.size) := alI_own hGo0 (ownFrom_wider hJo (by omega))
  refine each_stop (F := Fence.wide) (n := 5) (P := Tryz.prog) rfl (by omega) (gf := 173) (lb := #[.pointer (some ⟨W.heap.size + 1, 0, none⟩)]) rfl trivial (enters_of Tryz.func173 (by kernel_rfl) rfl)
    (encs := encY) (Kp := KpG G n₀) (G := G) (Row := RowX G) (Fin := FinK b) (FinX := FinP b) (N := b.length + 1) ?hseq (fun _ => rfl)
    KpG.trans ?hKb (AlI G J l W.heap.size W0.heap.size) hIo Jx (ownFrom_wider hJxo (by omega)) hi0 (fun _ _ h => hJG _ _ h.j)
    (fun pre x a' V => ∃ g, a' = { tmps := #[.func (.yield l) #[] #[], .pointer (some ⟨Bb, 0, none⟩), .pointer (some ⟨W.heap.size, 0, none⟩), .pointer (some ⟨g, 0, none⟩), .nilIface, .slice A b.length c, .func (.func 173) #[] #[.pointer (some ⟨W.heap.size + 1, 0, none⟩)], .agg #[.int .i64 (x.k : Int), hv x.f.t, .slice x.A x.f.v.length x.c], .nilIface, undef, undef, undef, undef, undef, undef, undef, undef, undef, undef, undef], defers := [] } ∧
      Whole V g 230 #[.int .i64 (x.k : Int), hv x.f.t, .slice x.A x.f.v.length x.c] ∧ AlI G J l W.heap.size W0.heap.size pre V ∧ RowX G V x) ?hAx
    ?assign ?body ?done ?stop
  case hseq =>
    intro l' J' Jx' V hV hJo' hJxo' hJG' hY' hj'
    exact places1s_in 4 (by omega) l' (W.heap.size + 1) n₀ W0.heap.size A c b hc hm hs fs0 hsp G hGo0 J' Jx' (fun s A B h hg => hJo' s A B none h hg (fun r e => by cases e)) hJG'
      (fun pre x W1 h1 h2 h3 => by
        obtain ⟨fn, tmps, assign, body, hy, hR⟩ := hY' pre x W1 h1 h2 h3
        exact ⟨fn, tmps, assign, body, hy, hR.mono fun e w' h => h.1⟩) V hV.size (Whole.below x1 hV (by omega)) (fun h => by
          have h1 := hGo W0 V none (by omega) (grown_of_below hV) (fun r e => by cases e) _ h
          have := hg0 _ h1
          omega) (fun V' hV' => hLk V' ((kpg_of hGo (Nat.le_refl _) hn₀ (hB0.trans (hV.mono (by omega)))).trans hV')) (by have := hV.size; omega) hj'
  case hKb =>
    intro V l' o o' hl ho hoc
    have hlt := (Array.getElem?_eq_some_iff.1 ho).1
    refine ⟨(Below.refl _ V).grown (grownBy_putObj' V l' o') (by omega) (fun k e => by cases e; omega), fun i cs t z _ hi => ?_, fun i _ hi => hGo _ _ (some l') (by omega) (grownBy_putObj' V l' o') (fun r e => by cases e; omega) i hi⟩
    rw [World.putObj_heap_other (fun e => ?_)]
    · exact hi
    · subst e
      rw [hi] at ho
      cases ho
      cases hoc
  case hAx =>
    rintro pre x a' s X Y row ⟨g, ha, hw, hi, hr1⟩ hg hr
    refine ⟨g, ha, (hg.block g hw.lt (fun e => ?_)).trans hw, hIo _ _ _ _ hi hg hr, rowX_own hGo0 hi.sz hg hr hr1⟩
    obtain ⟨_, o, ho, hoc⟩ := hr g e.symm
    unfold Whole at hw
    rw [hw] at ho
    cases ho
    cases hoc
  case assign =>
    intro l' pre x V K hi hrx hK
    have hk : ∀ o, KeepsFrom W0.heap.size V (V.alloc o) := fun o => (KeepsOthers.alloc V o).from _
    simp only [encY]
    gi_wp2
    have hb := (Below.refl V.heap.size V).alloc (Nat.le_refl _) (.cells #[.int .i64 (x.k : Int), hv x.f.t, .slice x.A x.f.v.length x.c] 230)
    have hgr := grown_of_below hb
    have hsz0 := hi.sz
    refine hK _ _ (hk _) ⟨hb.mono (by omega), fun i _ _ _ _ h2 => (hb.block i (Array.getElem?_eq_some_iff.1 h2).1).trans h2, fun i _ h2 => hGo0 _ _ none hsz0 hgr (fun r e => by cases e) i h2⟩
      ⟨V.heap.size, rfl, Whole.new _ _ _, hIo _ _ _ none hi hgr (fun _ e => by cases e), rowX_own hGo0 hsz0 hgr (fun _ e => by cases e) hrx⟩
  case body =>
    rintro l' pre x a' V ⟨g, rfl, hw, hi, hrx⟩ hlen
    have hy0 := hi.y.cell
    have hg0 : V.cell? ⟨g, 0, none⟩ = some (.int .i64 (x.k : Int)) := by rw [hw.cell]; rfl
    have hg1 : V.cell? ⟨g, 1, none⟩ = some (hv x.f.t) := by rw [hw.cell]; rfl
    have hg2 : V.cell? ⟨g, 2, none⟩ = some (.slice x.A x.f.v.length x.c) := by rw [hw.cell]; rfl
    obtain ⟨fn, tmps, assign, body, hy, hR⟩ := hY pre x V hi.j hlen hrx
    simp only [encA] at hy
    gi_wp2_with fail
    refine (roundIn_wide hR).mono ?_
    rintro e w3 ⟨⟨rfl, hj3, hk3⟩ | ⟨rfl, hx3⟩, hkf⟩
    · gi_wp2_with fail
      exact ⟨⟨hkf.size, fun k o hk ho => hkf.same k o (by omega) ho⟩, hk3, hj3, hk3.same _ _ _ _ hi.ny hi.y, fun h => hi.ny (hk3.own _ (boxed_lt hi.y) h), Nat.le_trans hi.sz hkf.size⟩
    · gi_wp2_with fail
      exact ⟨⟨hkf.size, fun k o hk ho => hkf.same k o (by omega) ho⟩, hx3⟩
  case done =>
    rintro D xs V hD hF hi hKD
    gi_wp2_with fail
    refine ⟨by simp, .inl ⟨_, _, rfl, run_takeDeferred hKD, ?_⟩⟩
    refine ⟨_, results_none rfl _ _ _, ?_⟩
    exact ⟨⟨_, rfl⟩, .inl ⟨xs, hF, hJo.putObj _ hi.j (by omega) hKD rfl⟩⟩
  case stop =>
    rintro D p V hD hF hi hKD
    gi_wp2_with fail
    refine ⟨by simp, .inl ⟨_, _, rfl, run_takeDeferred hKD, ?_⟩⟩
    refine ⟨_, results_none rfl _ _ _, ?_⟩
    exact ⟨⟨_, rfl⟩, .inr ⟨p, hF, hJxo.putObj _ hi (by omega) hKD rfl⟩⟩
end Go.Proofs.YthkbcpbgoefanaaGreatDoor


