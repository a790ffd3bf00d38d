/- NodeH + NodeI + EachSt + NodeJ -/
/- NodeF + NodeG -/
/- TakeAt + NodeV -/
/- NodeK + NodeL -/
import Derived.Test.YteknmgmdmjmnmaaGreatDoorUNA
import Derived.Test.YteknmgmdmjmnmaaGreatDoorUA
import Derived.Test.YteknmgmdmjmnmaaGreatDoorUTC
import Derived.Deep.RegionHeld3
import Derived.Laws.BytesArg
import Derived.Test.YteknmgmdmjmnmaaGreatDoorUTA



namespace Go.Proofs.YteknmgmdmjmnmaaGreatDoor
open Go.RowKit

def LiesS (w : World) (S : Nat → Prop) (A : Option Addr) (xs : List Value) : Prop :=
  xs ≠ [] → ∃ ad, A = some ad ∧ S ad.block ∧ ∀ j u, xs[j]? = some u → w.cell? (ad.add j) = some u
def IsBS (w : World) (S : Nat → Prop) (v : Value) (l : List UInt8) : Prop := ∃ A c, v = .slice A l.length c ∧ LiesS w S A (l.map bv) ∧ l.length ≤ c ∧ c ≤ maxLen
inductive NodesS (w : World) (S : Nat → Prop) : Option Addr → List Nd → Prop
  | mk {A : Option Addr} {ns : List Nd} (vs : List Value) (K : Nat → Option Addr) (c : Nat → Nat) (lies : LiesS w S A vs) (len : vs.length = ns.length * 3)
      (each : ∀ (i : Nat) (n : Nd), ns[i]? = some n → vs[i * 3]? = some (hv n.t) ∧ (∃ d, vs[i * 3 + 1]? = some d ∧ IsBS w S d n.v) ∧ vs[i * 3 + 2]? = some (.slice (K i) n.ks.length (c i)) ∧ n.ks.length ≤ c i ∧ c i ≤ maxLen)
      (kids : ∀ (i : Nat) (n : Nd), ns[i]? = some n → NodesS w S (K i) n.ks) : NodesS w S A ns
structure NodeS (w : World) (S : Nat → Prop) (A : Option Addr) (c : Nat) (K : Option Addr) (k : Nat) (n : Nd) : Prop where
  data : LiesS w S A (n.v.map bv)
  dc : n.v.length ≤ c
  dm : c ≤ maxLen
  kids : NodesS w S K n.ks
  kc : n.ks.length ≤ k
  km : k ≤ maxLen
/-- the cells of a row of nodes -/
structure Elems (w : World) (S : Nat → Prop) (us : List Value) (ns : List Nd) (K : Nat → Option Addr) (c : Nat → Nat) : Prop where
  len : us.length = ns.length * 3
  each : ∀ (i : Nat) (n : Nd), ns[i]? = some n → us[i * 3]? = some (hv n.t) ∧ (∃ d, us[i * 3 + 1]? = some d ∧ IsBS w S d n.v) ∧ us[i * 3 + 2]? = some (.slice (K i) n.ks.length (c i)) ∧ n.ks.length ≤ c i ∧ c i ≤ maxLen
  kids : ∀ (i : Nat) (n : Nd), ns[i]? = some n → NodesS w S (K i) n.ks
section
variable {w w' : World} {S S' : Nat → Prop} {A K : Option Addr} {c k B : Nat} {n : Nd} {ns : List Nd} {xs us : List Value} {v : Value} {l : List UInt8}
theorem LiesS.turn (h : LiesS w S A xs) (hk : ∀ p : Addr, S p.block → w'.cell? p = w.cell? p) (hs : ∀ b, S b → S' b) : LiesS w' S' A xs := fun hne => by
  obtain ⟨ad, h1, h2, h3⟩ := h hne
  exact ⟨ad, h1, hs _ h2, fun j u hu => (hk _ (by rw [blk_add]; exact h2)).trans (h3 j u hu)⟩
theorem LiesS.lies (h : LiesS w S A xs) (hs : ∀ b, S b → b < B) : Lies w B A xs := fun hne => by
  obtain ⟨ad, h1, h2, h3⟩ := h hne
  exact ⟨ad, h1, hs _ h2, h3⟩
theorem IsBS.turn (h : IsBS w S v l) (hk : ∀ p : Addr, S p.block → w'.cell? p = w.cell? p) (hs : ∀ b, S b → S' b) : IsBS w' S' v l := by
  obtain ⟨A, c, h1, h2, h3⟩ := h
  exact ⟨A, c, h1, h2.turn hk hs, h3⟩
theorem NodesS.turn (h : NodesS w S A ns) (hk : ∀ p : Addr, S p.block → w'.cell? p = w.cell? p) (hs : ∀ b, S b → S' b) : NodesS w' S' A ns := by
  induction h with
  | mk vs K c lies len each kids ih =>
    refine .mk vs K c (lies.turn hk hs) len (fun i n hn => ?_) ih
    obtain ⟨h1, ⟨d, h2, h3⟩, h6⟩ := each i n hn
    exact ⟨h1, ⟨d, h2, h3.turn hk hs⟩, h6⟩
theorem NodesS.nodes (h : NodesS w S A ns) (hs : ∀ b, S b → b < B) : Nodes w B A ns := by
  induction h with
  | mk vs K c lies len each kids ih =>
    refine .mk vs K c (lies.lies hs) len (fun i n hn => ?_) ih
    obtain ⟨h1, ⟨d, h2, A2, c2, h3, h4, h5⟩, h6⟩ := each i n hn
    exact ⟨h1, ⟨d, h2, A2, c2, h3, h4.lies hs, h5⟩, h6⟩
theorem NodesS.nil (w : World) (S : Nat → Prop) (A : Option Addr) : NodesS w S A [] := .mk [] (fun _ => none) (fun _ => 0) (fun h => absurd rfl h) rfl (fun i n h => by simp at h) (fun i n h => by simp at h)
theorem NodeS.turn (h : NodeS w S A c K k n) (hk : ∀ p : Addr, S p.block → w'.cell? p = w.cell? p) (hs : ∀ b, S b → S' b) : NodeS w' S' A c K k n :=
  ⟨h.data.turn hk hs, h.dc, h.dm, h.kids.turn hk hs, h.kc, h.km⟩
variable {Ks : Nat → Option Addr} {cs : Nat → Nat}
theorem Elems.turn (h : Elems w S us ns Ks cs) (hk : ∀ p : Addr, S p.block → w'.cell? p = w.cell? p) (hs : ∀ b, S b → S' b) : Elems w' S' us ns Ks cs :=
  ⟨h.len, fun i n hn => by obtain ⟨h1, ⟨d, h2, h3⟩, h6⟩ := h.each i n hn; exact ⟨h1, ⟨d, h2, h3.turn hk hs⟩, h6⟩, fun i n hn => (h.kids i n hn).turn hk hs⟩
theorem Elems.nil (w : World) (S : Nat → Prop) : Elems w S [] [] (fun _ => none) (fun _ => 0) := ⟨rfl, fun i n h => by simp at h, fun i n h => by simp at h⟩
theorem Elems.snoc (h : Elems w S us ns Ks cs) (hN : NodeS w S A c K k n) :
    ∃ Ks' cs', Elems w S (us ++ [hv n.t, .slice A n.v.length c, .slice K n.ks.length k]) (ns ++ [n]) Ks' cs' := by
  have hl := h.len
  refine ⟨fun i => if i = ns.length then K else Ks i, fun i => if i = ns.length then k else cs i, by simp [hl]; omega, fun i m hm => ?_, fun i m hm => ?_⟩
  · rcases Nat.lt_or_ge i ns.length with hlt | hge
    · rw [List.getElem?_append_left hlt] at hm
      obtain ⟨h1, ⟨d, h2, h3⟩, h4, h5⟩ := h.each i m hm
      rw [List.getElem?_append_left (by omega), List.getElem?_append_left (by omega), List.getElem?_append_left (by omega)]
      simp only [show ¬ i = ns.length by omega, if_false]
      exact ⟨h1, ⟨d, h2, h3⟩, h4, h5⟩
    · rw [List.getElem?_append_right hge] at hm
      have hi : i = ns.length := by
        have := (List.getElem?_eq_some_iff.1 hm).1
        simp at this
        omega
      subst hi
      simp only [Nat.sub_self, List.getElem?_cons_zero, Option.some.injEq] at hm
      subst hm
      rw [List.getElem?_append_right (by omega), List.getElem?_append_right (by omega), List.getElem?_append_right (by omega), hl, Nat.sub_self, show ns.length * 3 + 1 - ns.length * 3 = 1 by omega, show ns.length * 3 + 2 - ns.length * 3 = 2 by omega]
      simp only [if_true]
      exact ⟨rfl, ⟨_, rfl, A, c, rfl, hN.data, hN.dc, hN.dm⟩, rfl, hN.kc, hN.km⟩
  · rcases Nat.lt_or_ge i ns.length with hlt | hge
    · rw [List.getElem?_append_left hlt] at hm
      simp only [show ¬ i = ns.length by omega, if_false]
      exact h.kids i m hm
    · rw [List.getElem?_append_right hge] at hm
      have hi : i = ns.length := by
        have := (List.getElem?_eq_some_iff.1 hm).1
        simp at this
        omega
      subst hi
      simp only [Nat.sub_self, List.getElem?_cons_zero, Option.some.injEq] at hm
      subst hm
      simp only [if_true]
      exact hN.kids
theorem Elems.nodesS (h : Elems w S us ns Ks cs) (hl : LiesS w S A us) : NodesS w S A ns := .mk us Ks cs hl h.len h.each h.kids
end

/-! ### a row of whatever elements that grows by one -/
theorem wpList_append_told {P : Program} (w : World) {ops : Array Oper} {rest : List Oper} {o : Oper} {a : Act} {Q : Exit → Act → World → Prop}
    (hgd : o.guard = none) (s x : Operand) (t : TypeId) (hop : o.op = .call { callee := .builtin .append, args := #[s, x], argTypes := #[t, t] })
    (base : Nat) (e : TypeId) (z : Value) (size bytes : Nat) (ht : P.underlying t = some (.slice e)) (hi : (P.info? e).map (fun i => (i.zero, i.size, i.bytes)) = some (some z, size, bytes))
    (hzs : z.cells.size = size) (hsz : 0 < size)
    (v : Value) (n : Nat) (xs : List Value) (hs : a.eval s = v) (hown : w.ownsRow base e size v n xs)
    (ad : Addr) (m c : Nat) (hm : 0 < m) (news : List Value) (hx : a.eval x = .slice (some ad) m c) (hl : news.length = m * size) (hnews : ∀ j u, news[j]? = some u → w.cell? (ad.add j) = some u) (h1 : ∀ u ∈ news, u.oneCell' = true)
    (h63 : n + m ≤ maxLen) (hbytes : (n + m) * bytes ≤ 140737488355328) (hbase : base ≤ w.heap.size)
    (h : ∀ v' w', w'.ownsRow base e size v' (n + m) (xs ++ news) → w.grownBy w' v.ownBlock → (v'.ownBlock = some w.heap.size ∨ (v'.ownBlock = v.ownBlock ∧ ∃ g, v.ownBlock = some g)) → wpList P ops Q rest (a.put o.dst v') w') : wpList P ops Q (o :: rest) a w := by
  obtain ⟨i, hi0, hi1, hi2, hi3⟩ := info_parts hi
  refine wpList_plain hgd fun K hK' => ?_
  obtain ⟨v', w', hr, h2, h3, h4⟩ := run_append_told (P := P) w base t o.type e i z size bytes ht hi0 hi1 hi2 hi3 hzs hsz v n xs hown ad m c hm news hl hnews h1 h63 hbytes hbase
  unfold Oper.wp
  simp only [execOp, hop, resolve, invoke, builtin, Sem.run_bind, Sem.run_pure, Result.andThen_ok, List.map_toArray, List.map_cons, List.map_nil, hs, hx, hr]
  exact hK' _ _ (h v' w' h2 h3 h4)
/-- what a row of nodes of a call's own owns, with what lies behind its elements: no element lies in the row's own block -/
def RowS (L : Nat) (W : World) (v : Value) : Nat → Prop := fun b => L ≤ b ∧ b < W.heap.size ∧ some b ≠ v.ownBlock
structure NRow (W : World) (L : Nat) (v : Value) (ns : List Nd) : Prop where
  own : ∃ us, W.ownsRow L 51 3 v ns.length us ∧ ∃ Ks cs, Elems W (RowS L W v) us ns Ks cs
theorem lies_own3 {w : World} {base e n c : Nat} {A : Option Addr} {xs : List Value} (h : w.ownsRow base e 3 (.slice A n c) n xs) : LiesS w (fun b => base ≤ b ∧ b < w.heap.size) A xs := fun hne => by
  rcases h.2 with ⟨h1, h2⟩ | ⟨g, cap, cur, h1, h2, h3, _⟩
  · refine absurd (List.eq_nil_of_length_eq_zero ?_) hne
    rw [h.1, h2]
  · simp only [Value.slice.injEq] at h1
    obtain ⟨rfl, _, _⟩ := h1
    exact ⟨_, rfl, ⟨h2, (Array.getElem?_eq_some_iff.1 h3).1⟩, h.cells (g := g) rfl⟩
theorem own_cap3 {w : World} {base e n c : Nat} {A : Option Addr} {xs : List Value} (h : w.ownsRow base e 3 (.slice A n c) n xs) : n ≤ c ∧ c ≤ maxLen := by
  rcases h.2 with ⟨h1, h2⟩ | ⟨g, cap, cur, h1, _, _, h3, h4, _⟩
  · simp only [Value.slice.injEq] at h1
    omega
  · simp only [Value.slice.injEq] at h1
    omega
theorem own_below3 {w w' : World} {base e n : Nat} {v : Value} {xs : List Value} (h : w.ownsRow base e 3 v n xs) (hb : Below w.heap.size w w') : w'.ownsRow base e 3 v n xs := by
  refine ⟨h.1, ?_⟩
  rcases h.2 with h2 | ⟨g, cap, cur, rfl, h3, h4, h5⟩
  · exact .inl h2
  · exact .inr ⟨g, cap, cur, rfl, h3, (hb.block g (Array.getElem?_eq_some_iff.1 h4).1).trans h4, h5⟩
theorem own_slice3 {w : World} {base e n : Nat} {v : Value} {xs : List Value} (h : w.ownsRow base e 3 v n xs) : ∃ A c, v = .slice A n c := by
  rcases h.2 with ⟨rfl, h2⟩ | ⟨g, cap, cur, h1, _⟩
  · exact ⟨none, 0, by rw [h2]⟩
  · exact ⟨_, _, h1⟩
theorem NRow.nodesS {W : World} {L : Nat} {A : Option Addr} {c : Nat} {ns : List Nd} (h : NRow W L (.slice A ns.length c) ns) : NodesS W (fun b => L ≤ b ∧ b < W.heap.size) A ns ∧ ns.length ≤ c ∧ c ≤ maxLen := by
  obtain ⟨us, h1, Ks, cs, h2⟩ := h.own
  exact ⟨(h2.turn (fun _ _ => rfl) fun b hb => ⟨hb.1, hb.2.1⟩).nodesS (lies_own3 h1), own_cap3 h1⟩
theorem ndinfo : (Tryz.prog.info? 51).map (fun i => (i.zero, i.size, i.bytes)) = some (some (.agg #[.int .u16 0, .slice none 0 0, .slice none 0 0]), 3, 56) := by kernel_rfl
/-- nothing but the row's own block turned, and the row grew by a node that lies behind what was there -/
theorem NRow.grow {W W2 W3 : World} {L : Nat} {v v' : Value} {ns : List Nd} {us : List Value} {A K : Option Addr} {c k : Nat} {n : Nd} {Ks : Nat → Option Addr} {cs : Nat → Nat}
    (hrow : W.ownsRow L 51 3 v ns.length us) (hE : Elems W (RowS L W v) us ns Ks cs) (hLW : L ≤ W.heap.size) (hb : Below W.heap.size W W2) (hN : NodeS W2 (fun b => W.heap.size ≤ b ∧ b < W2.heap.size) A c K k n)
    (hg : W2.grownBy W3 v.ownBlock) (hown : W3.ownsRow L 51 3 v' (ns.length + 1) (us ++ [hv n.t, .slice A n.v.length c, .slice K n.ks.length k]))
    (hblk : (∃ q, W2.heap.size ≤ q ∧ v'.ownBlock = some q) ∨ (v'.ownBlock = v.ownBlock ∧ ∃ g, v.ownBlock = some g)) : NRow W3 L v' (ns ++ [n]) := by
  have hlt : ∀ g, v.ownBlock = some g → g < W.heap.size := fun g hg => (hrow.lt g hg).2
  have hkeep : ∀ p : Addr, p.block < W2.heap.size → some p.block ≠ v.ownBlock → W3.cell? p = W2.cell? p := fun p h1 h2 => World.cell?_of_block (hg.block p.block h1 h2)
  have hs : ∀ b, (b < W.heap.size ∧ some b ≠ v.ownBlock) ∨ (W.heap.size ≤ b ∧ b < W2.heap.size) → some b ≠ v'.ownBlock := by
    rintro b hb' e
    rcases hblk with ⟨q, h1, h2⟩ | ⟨h1, _⟩
    · rw [h2] at e
      simp only [Option.some.injEq] at e
      have := hb.size
      omega
    · rw [h1] at e
      rcases hb' with h3 | h3
      · exact h3.2 e
      · have := hlt b e.symm
        omega
  have hE3 : Elems W3 (RowS L W3 v') us ns Ks cs := hE.turn (fun p hp => by
      have h1 := hb.size
      exact (hkeep p (by have := hp.2.1; omega) hp.2.2).trans (hb.cell hp.2.1)) (fun b hb' => ⟨hb'.1, by have := hb'.2.1; have := hb.size; have := hg.size; omega, hs b (.inl hb'.2)⟩)
  have hN3 : NodeS W3 (RowS L W3 v') A c K k n := hN.turn (fun p hp => hkeep p hp.2 fun e => by have := hlt p.block e.symm; omega) (fun b hb' => ⟨by omega, by have := hg.size; omega, hs b (.inr hb')⟩)
  obtain ⟨Ks', cs', h⟩ := hE3.snoc hN3
  exact ⟨⟨_, by rw [List.length_append]; exact hown, Ks', cs', h⟩⟩
end Go.Proofs.YteknmgmdmjmnmaaGreatDoor




namespace Go.Proofs.YteknmgmdmjmnmaaGreatDoor
open Go.RowKit

/-- new blocks alone -/
def NewS (w w' : World) : Nat → Prop := fun b => w.heap.size ≤ b ∧ b < w'.heap.size
set_option maxRecDepth 100000 in
theorem bclone_any (A : Option Addr) (c : Nat) (l : List UInt8) (w : World) (h : Lies w w.heap.size A (l.map bv)) (h1 : l.length ≤ c) (_h2 : c ≤ maxLen) (hn : l.length ≤ 140737488355328) :
    Calls Tryz.prog 103 #[.slice A l.length c] w fun e w' => ∃ A' c', e = .returned (.slice A' l.length c') ∧ LiesS w' (NewS w w') A' (l.map bv) ∧ l.length ≤ c' ∧ c' ≤ maxLen ∧ Below w.heap.size w w' := by
  rcases A with _ | ad
  · have hl : l = [] := by
      cases l with
      | nil => rfl
      | cons x l => obtain ⟨ad, h3, _⟩ := h (by simp); cases h3
    subst hl
    have hq : (binOp .eql 48 (.slice none 0 c) (.slice none 0 0)).run Tryz.prog w = .ok (.bool true) w := run_eql_nil_slice (P := Tryz.prog) w 48 5 none 0 c 0 0 Tryz.underlying48
    go_enter Tryz.func103, Tryz.ntmps103
    go_wp2_with fail
    go_ret
    exact ⟨none, 0, rfl, fun hne => absurd rfl hne, Nat.le_refl _, Nat.zero_le _, Below.refl _ _⟩
  · have h3 := one_bytes l
    have H1 := Lib.hid h3
    have hE := own_empty w w.heap.size (Nat.le_refl _)
    have hq : (binOp .eql 48 (.slice (some ad) l.length c) (.slice none 0 0)).run Tryz.prog w = .ok (.bool false) w := run_eql_nil_slice (P := Tryz.prog) w 48 5 (some ad) l.length c 0 0 Tryz.underlying48
    go_enter Tryz.func103, Tryz.ntmps103
    go_wp2_with (at_builtin; refine wpList_append_lies _ rfl (.tmp 5) (.tmp 6) 48 rfl w.heap.size 5 _ 1 Tryz.underlying48 u8info rfl _ _ _ rfl hE _ _ l.length c (l.map bv) rfl (by simp) ((h.alloc (Nat.le_refl _) _).more (B' := w.heap.size + 1) (by omega)) H1.out (by omega) (by unfold maxLen; omega) (by simp) ?_; intro A' c' w1 hown hgrow _)
    simp only [Nat.zero_add, List.nil_append] at hown
    have hcap := own_cap hown
    have hB := ((Below.refl _ w).alloc (Nat.le_refl _) (.cells #[] 5)).grown hgrow (by simp) (fun k e => by cases e; exact Nat.le_refl _)
    have HO := Lib.hid hown
    clear hown hgrow
    go_wp2_with fail
    go_ret
    refine ⟨A', c', rfl, fun hne => ?_, hcap.2.1, hcap.2.2, hB⟩
    rcases HO.out.2 with ⟨q1, q2⟩ | ⟨g, cap, cur, q1, q2, q3, _⟩
    · refine absurd (List.eq_nil_of_length_eq_zero ?_) hne
      rw [HO.out.1, q2]
    · simp only [Value.slice.injEq] at q1
      obtain ⟨rfl, _, _⟩ := q1
      exact ⟨_, rfl, ⟨q2, (Array.getElem?_eq_some_iff.1 q3).1⟩, HO.out.cells (g := g) rfl⟩

def CloneOK (ns : List Nd) : Prop := ∀ (A : Option Addr) (c : Nat) (w : World), Nodes w w.heap.size A ns → ns.length ≤ 100000000 →
  Calls Tryz.prog 106 #[.slice A ns.length c] w fun e w' => ∃ A' c', e = .returned (.slice A' ns.length c') ∧ NodesS w' (NewS w w') A' ns ∧ ns.length ≤ c' ∧ c' ≤ maxLen ∧ Below w.heap.size w w'
theorem results_row1 {P : Program} {fn : Func} {p : Tmp} {ty : TypeId} (h : fn.results = #[.cell p ty]) (tmps : Array Value) (w : World) (g : Nat) (t : TypeId) (cs : Array Value) (d : TypeDesc)
    (hp : tmps.getD p undef = .pointer (some ⟨g, 0, none⟩)) (hg : Whole w g t cs)
    (hu : P.underlying ty = some d) (hd : (match d with | .struct _ | .array _ _ => true | _ => false) = true) (hi : (P.info? ty).map (·.size) = some cs.size) :
    (results fn tmps).run P w = .ok (.agg cs) w := by
  have hp' : tmps[p]?.getD undef = .pointer (some ⟨g, 0, none⟩) := by simpa using hp
  simp only [results, h]
  simp [hp', asAddr, run_loadVar_row w g t ty cs (0, 0) d hg hu hd hi]
set_option maxRecDepth 100000 in
set_option maxHeartbeats 1000000 in
theorem clone_node (n : Nd) (ih : CloneOK n.ks) (A : Option Addr) (c : Nat) (K : Option Addr) (k : Nat) (w : World) (h : Node w w.heap.size A c K k n) (hl : n.ks.length ≤ 100000000) (hv' : n.v.length ≤ 140737488355328) :
    Calls Tryz.prog 68 #[ndV n A c K k] w fun e w' => ∃ A' c' K' k', e = .returned (ndV n A' c' K' k') ∧ NodeS w' (NewS w w') A' c' K' k' n ∧ Below w.heap.size w w' := by
  unfold ndV
  have hB := fun W (hW : Below w.heap.size w W) => bclone_any A c n.v W (h.on hW).data h.dc h.dm hv'
  have hC := fun W (hW : Below w.heap.size w W) => ih K k W (h.on hW).kids hl
  have b0 : Below w.heap.size w ((w.alloc (.cells #[hv n.t, .slice A n.v.length c, .slice K n.ks.length k] 51)).alloc (.cells #[.int .u16 0, .slice none 0 0, .slice none 0 0] 51)) := ((Below.refl _ _).alloc (Nat.le_refl _) _).alloc (by simp) _
  have hW0 := (Whole.new w 51 #[hv n.t, .slice A n.v.length c, .slice K n.ks.length k]).alloc (.cells #[.int .u16 0, .slice none 0 0, .slice none 0 0] 51)
  have hW1 := Whole.new (w.alloc (.cells #[hv n.t, .slice A n.v.length c, .slice K n.ks.length k] 51)) 51 #[.int .u16 0, .slice none 0 0, .slice none 0 0]
  simp only [World.size_alloc] at hW1
  go_enter Tryz.func68, Tryz.ntmps68
  go_wp2_with fail
  go_region_held3 (fun W => W.cell? ⟨w.heap.size, 0, none⟩ = some (hv n.t) ∧ W.cell? ⟨w.heap.size, 1, none⟩ = some (.slice A n.v.length c) ∧ W.cell? ⟨w.heap.size, 2, none⟩ = some (.slice K n.ks.length k)) (go_keep) (first
    | (go_at_call 103; refine (hB _ (by first | exact b0 | exact below_drew b0)).mono ?_; rintro e w2 ⟨A2, c2, rfl, l2, m2, m3, b2⟩; have b2' : Below w.heap.size w w2 := (by first | exact b0.trans (b2.mono (by simp <;> omega)) | exact (below_drew b0).trans (b2.mono (by simp <;> omega))); have hX0 : Whole w2 w.heap.size 51 #[hv n.t, .slice A n.v.length c, .slice K n.ks.length k] := (by first | exact hW0.below b2 (by simp <;> omega) | exact hW0.drew.below b2 (by simp <;> omega)); have hX1 : Whole w2 (w.heap.size + 1) 51 #[.int .u16 0, .slice none 0 0, .slice none 0 0] := (by first | exact hW1.below b2 (by simp) | exact hW1.drew.below b2 (by simp)); have g0 : w2.cell? ⟨w.heap.size, 0, none⟩ = some (hv n.t) := (by rw [hX0.cell]; rfl); have g1 : w2.cell? ⟨w.heap.size, 1, none⟩ = some (.slice A n.v.length c) := (by rw [hX0.cell]; rfl); have g2 : w2.cell? ⟨w.heap.size, 2, none⟩ = some (.slice K n.ks.length k) := (by rw [hX0.cell]; rfl); have hsz2 : w.heap.size + 1 + 1 ≤ w2.heap.size := (by have h9 := b2.size; simpa using h9))
    | (go_at_call 106; refine (hC _ b2').mono ?_; rintro e w3 ⟨A3, c3, rfl, l3, m4, m5, b3⟩; have b3' : Below w.heap.size w w3 := b2'.trans (b3.mono b2'.size); have hY0 := hX0.below b3 hX0.lt; have hY1 := hX1.below b3 hX1.lt; have k0 : w3.cell? ⟨w.heap.size, 0, none⟩ = some (hv n.t) := (by rw [hY0.cell]; rfl); have k1 : w3.cell? ⟨w.heap.size, 1, none⟩ = some (.slice A n.v.length c) := (by rw [hY0.cell]; rfl); have k2 : w3.cell? ⟨w.heap.size, 2, none⟩ = some (.slice K n.ks.length k) := (by rw [hY0.cell]; rfl); have r0 : w3.cell? ⟨w.heap.size + 1, 0, none⟩ = some (.int .u16 0) := (by rw [hY1.cell]; rfl); have r1 : w3.cell? ⟨w.heap.size + 1, 1, none⟩ = some (.slice none 0 0) := (by rw [hY1.cell]; rfl); have r2 : w3.cell? ⟨w.heap.size + 1, 2, none⟩ = some (.slice none 0 0) := (by rw [hY1.cell]; rfl); have f0 := hY1.frozen 0; have f1 := hY1.frozen 1; have f2 := hY1.frozen 2))
  have hF : Whole (((w3.setCell ⟨w.heap.size + 1, 0, none⟩ (.int .u16 n.t.toNat)).setCell ⟨w.heap.size + 1, 1, none⟩ (.slice A2 n.v.length c2)).setCell ⟨w.heap.size + 1, 2, none⟩ (.slice A3 n.ks.length c3)) (w.heap.size + 1) 51 #[hv n.t, .slice A2 n.v.length c2, .slice A3 n.ks.length c3] :=
    ((hY1.set_ 0 _).set_ 1 _).set_ 2 _
  have hfar : ∀ p : Addr, p.block ≠ w.heap.size + 1 → (((w3.setCell ⟨w.heap.size + 1, 0, none⟩ (.int .u16 n.t.toNat)).setCell ⟨w.heap.size + 1, 1, none⟩ (.slice A2 n.v.length c2)).setCell ⟨w.heap.size + 1, 2, none⟩ (.slice A3 n.ks.length c3)).cell? p = w3.cell? p := fun p hp => by
    rw [World.cell?_setCell_other _ _ _ _ (fun e => hp (by rw [← e])), World.cell?_setCell_other _ _ _ _ (fun e => hp (by rw [← e])), World.cell?_setCell_other _ _ _ _ (fun e => hp (by rw [← e]))]
  have hBf : Below w.heap.size w (((w3.setCell ⟨w.heap.size + 1, 0, none⟩ (.int .u16 n.t.toNat)).setCell ⟨w.heap.size + 1, 1, none⟩ (.slice A2 n.v.length c2)).setCell ⟨w.heap.size + 1, 2, none⟩ (.slice A3 n.ks.length c3)) :=
    ((b3'.setCell (by simp) _).setCell (by simp) _).setCell (by simp) _
  have hsz3 : w2.heap.size ≤ w3.heap.size := b3.size
  have hszf : (((w3.setCell ⟨w.heap.size + 1, 0, none⟩ (.int .u16 n.t.toNat)).setCell ⟨w.heap.size + 1, 1, none⟩ (.slice A2 n.v.length c2)).setCell ⟨w.heap.size + 1, 2, none⟩ (.slice A3 n.ks.length c3)).heap.size = w3.heap.size := by simp [World.setCell]
  generalize ((w3.setCell ⟨w.heap.size + 1, 0, none⟩ (.int .u16 n.t.toNat)).setCell ⟨w.heap.size + 1, 1, none⟩ (.slice A2 n.v.length c2)).setCell ⟨w.heap.size + 1, 2, none⟩ (.slice A3 n.ks.length c3) = W at *
  go_wp2_with fail
  (try simp only [Exit.then])
  refine bodyPost_ret (results_row1 rfl _ _ (w.heap.size + 1) 51 _ _ rfl hF Tryz.underlying51 rfl (by kernel_rfl)) rfl ?_
  refine ⟨A2, c2, A3, c3, rfl, ⟨l2.turn (fun p hp => ?_) (fun b hb => ?_), m2, m3, l3.turn (fun p hp => ?_) (fun b hb => ?_), m4, m5⟩, hBf⟩
  · have h1 := hp.1
    simp at h1
    exact (hfar p (by omega)).trans (b3.cell hp.2)
  · have h1 := hb.1
    simp at h1
    exact ⟨by omega, by have := hb.2; omega⟩
  · exact hfar p (by have := hp.1; omega)
  · exact ⟨by have := hb.1; omega, by have := hb.2; omega⟩
set_option maxRecDepth 100000 in
set_option maxHeartbeats 1000000 in
theorem clones_step (ns : List Nd) (ih : ∀ n ∈ ns, CloneOK n.ks) (hf : ∀ n ∈ ns, n.ks.length ≤ 100000000 ∧ n.v.length ≤ 140737488355328) : CloneOK ns := by
  intro A c w h hl
  have HI := Lib.hid ih
  have HF := Lib.hid hf
  clear ih hf
  go_enter Tryz.func106, Tryz.ntmps106
  go_wp2_with fail
  go_loopw [3, 8] (fun v i wr => ∃ (k : Nat), k ≤ ns.length ∧ i = .int .i64 k ∧ Hid (NRow wr w.heap.size v (ns.take k)) ∧ Below w.heap.size w wr) (fun _ i _ => ns.length - (intOf i).toNat)
  case atStart => exact ⟨0, Nat.zero_le _, rfl, ⟨[], World.ownsRow_nil _ _ _ _, _, _, Elems.nil _ _⟩, Below.refl _ _⟩
  case round =>
    obtain ⟨k, hk, rfl, hrow, hbel⟩ := hrel
    by_cases hlt : k < ns.length
    · obtain ⟨ad, A', c', K', k', n, rfl, hb, hn', hc0, hc1, hc2, hN⟩ := (h.bel hbel).at_ hlt
      obtain ⟨us, hown, Ks, cs, hE⟩ := hrow.out.own
      have hlen : (ns.take k).length = k := by rw [List.length_take]; omega
      rw [hlen] at hown
      have hmem := List.mem_of_getElem? hn'.out
      have b0 : Below wr.heap.size wr (wr.alloc (.cells #[hv n.t, .slice A' n.v.length c', .slice K' n.ks.length k'] 51)) := (Below.refl _ _).alloc (Nat.le_refl _) _
      have hS := clone_node n (HI.out n hmem) A' c' K' k' _ ((hN.more hbel.size).on b0) (HF.out n hmem).1 (HF.out n hmem).2
      unfold ndV at hS
      have HE := Lib.hid hE
      have HO := Lib.hid hown
      have HL := Lib.hid hlen
      clear hE hown hlen
      obtain ⟨A1, c1, rfl⟩ := own_slice3 HO.out
      go_wp2_with fail
      refine hS.mono ?_
      rintro e w2 ⟨A2, c2, K2, k2, rfl, hN2, b2⟩
      have b2' := b0.trans (b2.mono (by simp))
      have hal := (Below.refl w2.heap.size w2).alloc (Nat.le_refl _) (.cells #[hv n.t, .slice A2 n.v.length c2, .slice K2 n.ks.length k2] 51)
      have hown2 := (own_below3 HO.out b2').alloc (.cells #[hv n.t, .slice A2 n.v.length c2, .slice K2 n.ks.length k2] 51)
      have HO2 := Lib.hid hown2
      have hnew : ∀ j u, [hv n.t, Value.slice A2 n.v.length c2, .slice K2 n.ks.length k2][j]? = some u → (w2.alloc (.cells #[hv n.t, .slice A2 n.v.length c2, .slice K2 n.ks.length k2] 51)).cell? ((⟨w2.heap.size, 0, none⟩ : Addr).add j) = some u := fun j u hu => by
        rw [add_row, (Whole.new w2 51 #[hv n.t, .slice A2 n.v.length c2, .slice K2 n.ks.length k2]).cell]
        simpa using hu
      have HNW := Lib.hid hnew
      have hwsz := hbel.size
      have hwsz2 := b2'.size
      clear hown2 hnew
      go_wp2_with (at_builtin; refine wpList_append_told _ rfl (.tmp 12) (.tmp 15) 49 rfl w.heap.size 51 _ 3 56 Tryz.underlying49 ndinfo rfl (by omega) _ _ _ rfl HO2.out _ 1 1 (by omega) [hv n.t, .slice A2 n.v.length c2, .slice K2 n.ks.length k2] rfl rfl HNW.out (by intro u hu; simp at hu; rcases hu with rfl | rfl | rfl <;> rfl) (by unfold maxLen; omega) (by omega) (by simp; omega) ?_; intro v' w4 hown4 hgrow4 hblk4)
      have hR4 := NRow.grow (W := wr) (W2 := w2.alloc (.cells #[hv n.t, .slice A2 n.v.length c2, .slice K2 n.ks.length k2] 51)) (W3 := w4) (L := w.heap.size) (v := .slice A1 k c1) (v' := v') (ns := ns.take k) (us := us) (A := A2) (K := K2) (c := c2) (k := k2) (n := n) (by rw [HL.out]; exact HO.out) HE.out hwsz (b2'.trans (hal.mono hwsz2))
        (hN2.turn (fun p hp => World.cell?_alloc_lt w2 _ p hp.2) (fun b hb => ⟨by have := hb.1; simp at this; omega, by have := hb.2; simp; omega⟩)) hgrow4 (by rw [HL.out]; exact hown4)
        (by rcases hblk4 with h1 | h1; · exact .inl ⟨_, Nat.le_refl _, h1⟩
            · exact .inr h1)
      rw [← take_some hn'.out] at hR4
      have hb4 : Below w.heap.size w w4 := (hbel.trans ((b2'.trans (hal.mono hwsz2)).mono hwsz)).grown hgrow4 (by simp; omega) (fun q e => (HO.out.lt q e).1)
      exact ⟨⟨k + 1, by omega, rfl, hR4, hb4⟩, by simp [intOf]; omega⟩
    · obtain rfl : k = ns.length := by omega
      rw [List.take_length] at hrow
      obtain ⟨us, hown, Ks, cs, hE⟩ := hrow.out.own
      obtain ⟨A1, c1, rfl⟩ := own_slice3 hown
      have HR := Lib.hid (NRow.nodesS hrow.out)
      clear hown hE hrow
      go_wp2_with fail
      go_ret
      exact ⟨A1, c1, rfl, HR.out.1, HR.out.2.1, HR.out.2.2, hbel⟩
/-- at whatever depth: not so many inside, and not so many bytes -/
inductive Few2 : Nd → Prop
  | mk {n : Nd} : n.ks.length ≤ 100000000 → n.v.length ≤ 140737488355328 → (∀ k ∈ n.ks, Few2 k) → Few2 n
theorem Few2.kl {n : Nd} (h : Few2 n) : n.ks.length ≤ 100000000 ∧ n.v.length ≤ 140737488355328 := by cases h; constructor <;> assumption
theorem Few2.kid {n : Nd} (h : Few2 n) : ∀ k ∈ n.ks, Few2 k := by cases h; assumption
theorem clones_any (ns : List Nd) : (∀ n ∈ ns, Few2 n) → CloneOK ns :=
  Nds.ind (P := fun ns => (∀ n ∈ ns, Few2 n) → CloneOK ns) (fun ns ih h => clones_step ns (fun n hn => ih n hn (h n hn).kid) fun n hn => (h n hn).kl) ns
/-- Clone of whatever node -/
theorem nclone_any (n : Nd) (hf : Few2 n) (A : Option Addr) (c : Nat) (K : Option Addr) (k : Nat) (w : World) (h : Node w w.heap.size A c K k n) :
    Calls Tryz.prog 68 #[ndV n A c K k] w fun e w' => ∃ A' c' K' k', e = .returned (ndV n A' c' K' k') ∧ NodeS w' (NewS w w') A' c' K' k' n ∧ Below w.heap.size w w' :=
  clone_node n (clones_any n.ks hf.kid) A c K k w h hf.kl.1 hf.kl.2

end Go.Proofs.YteknmgmdmjmnmaaGreatDoor



namespace Go.Proofs.YteknmgmdmjmnmaaGreatDoor
open Go.RowKit

theorem fst0_zero {l : List Nat} (h : fst0 l = 0) : ∀ x ∈ l, x = 0 := by
  unfold fst0 at h
  intro x hx
  cases hf : l.find? (· ≠ 0) with
  | none =>
    rw [List.find?_eq_none] at hf
    simpa using hf x hx
  | some y =>
    rw [hf] at h
    have := List.find?_some hf
    simp at this h
    exact absurd h this
theorem chk_succ (f : Nat) (c : Int) (n : Nd) : chk (f + 1) c n = if fitK c n.t n.v.length = false ∨ insB (formOf c n.t).ki n.ks = false then 7
    else if cntB c n.t n.v = false then 8
    else if fst0 (n.ks.map (chk f (ins (formOf c n.t).ki).1)) ≠ 0 then fst0 (n.ks.map (chk f (ins (formOf c n.t).ki).1))
    else if 65531 < n.vlen then 4 else 0 := rfl
theorem chk_zero {f : Nat} {c : Int} {n : Nd} (h : chk (f + 1) c n = 0) : fitK c n.t n.v.length = true ∧ insB (formOf c n.t).ki n.ks = true ∧ cntB c n.t n.v = true ∧ (∀ k ∈ n.ks, chk f (ins (formOf c n.t).ki).1 k = 0) ∧ n.vlen ≤ 65531 := by
  rw [chk_succ] at h
  split at h
  · cases h
  · rename_i h1
    split at h
    · cases h
    · rename_i h2
      split at h
      · rename_i h3; exact absurd h h3
      · rename_i h3
        split at h
        · cases h
        · rename_i h4
          have h3' : fst0 (n.ks.map (chk f (ins (formOf c n.t).ki).1)) = 0 := by simpa using h3
          refine ⟨?_, ?_, by simpa using h2, fun k hk => fst0_zero h3' _ (List.mem_map.2 ⟨k, hk, rfl⟩), by omega⟩
          · cases hq : fitK c n.t n.v.length with
            | true => rfl
            | false => exact absurd (.inl hq) h1
          · cases hq : insB (formOf c n.t).ki n.ks with
            | true => rfl
            | false => exact absurd (.inr hq) h1
theorem ncheck_any (c : Int) (n : Nd) (A : Option Addr) (cc : Nat) (K : Option Addr) (kk : Nat) (w : World) (hN : Node w w.heap.size A cc K kk n) (hf : Fine n) :
    Calls Tryz.prog 67 #[.int .i64 c, ndV n A cc K kk] w fun e w' => e = .returned (codeE (chk 4 c n)) ∧ Below w.heap.size w w' := by
  have b0 : Below w.heap.size w (w.alloc (.cells #[hv n.t, .slice A n.v.length cc, .slice K n.ks.length kk] 51)) := (Below.refl _ _).alloc (Nat.le_refl _) _
  have h := check_all 4 c n 1 A cc K kk _ rfl (hN.on b0) hf
  simp only [Int.cast_ofNat_Int] at h
  generalize chk 4 c n = x at *
  unfold ndV at h ⊢
  go_enter Tryz.func67, Tryz.ntmps67
  go_wp2_with fail
  refine h.mono ?_
  rintro e w1 ⟨rfl, b1⟩
  go_wp2_with fail
  go_ret
  exact ⟨rfl, b0.trans (b1.mono (by simp))⟩

/-- the code of the first node that is not right, 0 if all are -/
def chkL (c : Int) (ns : List Nd) : Nat := fst0 (ns.map (chk 4 c))
end Go.Proofs.YteknmgmdmjmnmaaGreatDoor



namespace Go.Proofs.YteknmgmdmjmnmaaGreatDoor
open Go.RowKit

mutual
def Nd.beq : Nd → Nd → Bool
  | .mk t v ks, .mk t' v' ks' => decide (t = t') && decide (v = v') && beqL ks ks'
def beqL : List Nd → List Nd → Bool
  | [], [] => true
  | a :: xs, b :: ys => a.beq b && beqL xs ys
  | [], _ :: _ => false
  | _ :: _, [] => false
end
theorem Nd.beq_eq (a : Nd) : ∀ b, a.beq b = true ↔ a = b :=
  Nd.ind (P := fun a => ∀ b, a.beq b = true ↔ a = b) (fun t v ks ih b => by
    have hl : ∀ (l m : List Nd), (∀ k ∈ l, ∀ b, k.beq b = true ↔ k = b) → (beqL l m = true ↔ l = m) := by
      intro l
      induction l with
      | nil => intro m _; cases m <;> simp [beqL]
      | cons x l ihl =>
        intro m hx
        cases m with
        | nil => simp [beqL]
        | cons y m =>
          simp only [beqL, Bool.and_eq_true, List.cons.injEq]
          rw [hx x List.mem_cons_self y, ihl m fun k hk => hx k (List.mem_cons_of_mem _ hk)]
    cases b with
    | mk t' v' ks' =>
      simp only [Nd.beq, Bool.and_eq_true, decide_eq_true_eq, Nd.mk.injEq, hl ks ks' ih]
      exact and_assoc) a
theorem beqL_eq (l : List Nd) : ∀ m, beqL l m = true ↔ l = m := by
  induction l with
  | nil => intro m; cases m <;> simp [beqL]
  | cons x l ih =>
    intro m
    cases m with
    | nil => simp [beqL]
    | cons y m =>
      simp only [beqL, Bool.and_eq_true, List.cons.injEq]
      rw [Nd.beq_eq x y, ih m]
theorem beqL_true {l m : List Nd} (h : l = m) : beqL l m = true := (beqL_eq l m).2 h
theorem beqL_false {l m : List Nd} (h : l ≠ m) : beqL l m = false := by
  cases hb : beqL l m with
  | false => rfl
  | true => exact absurd ((beqL_eq l m).1 hb) h
/-- so many inside, at whatever depth -/
inductive Few1 : Nd → Prop
  | mk {n : Nd} : n.ks.length ≤ 100000000 → (∀ k ∈ n.ks, Few1 k) → Few1 n
theorem Few1.kl {n : Nd} (h : Few1 n) : n.ks.length ≤ 100000000 := by cases h; assumption
theorem Few1.kid {n : Nd} (h : Few1 n) : ∀ k ∈ n.ks, Few1 k := by cases h; assumption
end Go.Proofs.YteknmgmdmjmnmaaGreatDoor




namespace Go.Proofs.YteknmgmdmjmnmaaGreatDoor
theorem take_at {P : Program} {ops : Array Oper} {Q : Exit → Act → World → Prop} {md : Region.Mode} {S : World → Prop} {i : Nat} {oi : Oper} {v : Value} {fuel : Nat} {listed : Array Bool} {a : Act} {w : World} (d : Option Tmp) (hi : ops[i]? = some oi)
    (hs : Region.noSelect ops = true) (hf : Region.free md ops listed i = true) (hr : (Region.ready md ops listed).contains i = true)
    (hQ : ∀ c a w, Q (.panic c) (a.put d v) w → Q (.panic c) a w) (hd : oi.dst = d) (hy : YieldsIf P ops S oi v a) (hS : S w)
    (h : wpAnyH P md ops Q S fuel (listed.setIfInBounds i true) (a.put d v) w) : wpAnyH P md ops Q S (fuel + 1) listed a w := by
  subst hd
  exact wpAnyH_take hi hs hf hr hQ hy hS h
end Go.Proofs.YteknmgmdmjmnmaaGreatDoor






namespace Go.Proofs.YteknmgmdmjmnmaaGreatDoor
open Go.RowKit

def RSameOK (ns : List Nd) : Prop := ∀ (ms : List Nd) (A A' : Option Addr) (c c' : Nat) (w : World), Nodes w w.heap.size A ns → Nodes w w.heap.size A' ms → ns.length ≤ 9223372036854775807 → ms.length ≤ 9223372036854775807 →
  Calls Tryz.prog 70 #[.slice A ns.length c, .slice A' ms.length c'] w fun e w' => e = .returned (.bool (beqL ns ms)) ∧ Below w.heap.size w w'
theorem take_eq_of {α : Type} {l m : List α} (h : l.length = m.length) (hk : ∀ k, k < l.length → l[k]? = m[k]?) : l = m := by
  apply List.ext_getElem?
  intro i
  by_cases hi : i < l.length
  · exact hk i hi
  · rw [List.getElem?_eq_none (by omega), List.getElem?_eq_none (by omega)]
theorem toNat_ne {a b : UInt16} (h : a ≠ b) : ((a.toNat : Int) != (b.toNat : Int)) = true := by
  rw [bne_iff_ne]
  intro e
  exact h (UInt16.toNat_inj.1 (by omega))
set_option maxRecDepth 100000 in
set_option maxHeartbeats 16000000 in
theorem rsame_step (ns : List Nd) (ih : ∀ n ∈ ns, RSameOK n.ks) : RSameOK ns := by
  intro ms A A' c c' w h h' hl hl'
  have HI := Lib.hid ih
  clear ih
  by_cases hlen : ns.length = ms.length
  · have hneq : ((ns.length : Int) != (ms.length : Int)) = false := by rw [hlen]; simp
    have HL := Lib.hid hlen
    have HT : Hid (ns = ms → beqL ns ms = true) := fun e => beqL_true e
    have HF : Hid (ns ≠ ms → beqL ns ms = false) := fun e => beqL_false e
    generalize beqL ns ms = r at *
    clear hlen
    go_enter Tryz.func70, Tryz.ntmps70
    go_wp2_with fail
    go_loopw [5] (fun i wr => ∃ k : Nat, k ≤ ns.length ∧ i = .int .i64 k ∧ Hid (∀ j, j < k → ns[j]? = ms[j]?) ∧ Below w.heap.size w wr) (fun i _ => ns.length - (intOf i).toNat)
    case atStart => exact ⟨0, Nat.zero_le _, rfl, fun j hj => absurd hj (by omega), Below.refl _ _⟩
    case round =>
      obtain ⟨k, hk, rfl, heq, hbel⟩ := hrel
      by_cases hlt : k < ns.length
      · have hlt' : k < ms.length := by have := HL.out; omega
        obtain ⟨ad, A2, c2, K2, q2, x, rfl, hb, hx, e0, e1, e2, hN⟩ := (h.bel hbel).at_ hlt
        obtain ⟨ad', A3, c3, K3, q3, y, rfl, hb', hy, d0, d1, d2, hM⟩ := (h'.bel hbel).at_ hlt'
        have hI1 : (k : Int) < (ns.length : Int) := by omega
        have hI2 : (k : Int) < (ms.length : Int) := by omega
        have hws := hbel.size
        have KS : Hid (∀ W, Below wr.heap.size wr W → W.cell? (ad.add (k * 3)) = some (hv x.t) ∧ W.cell? ⟨(ad.add (k * 3)).block, (ad.add (k * 3)).off + 1, none⟩ = some (.slice A2 x.v.length c2) ∧ W.cell? ⟨(ad.add (k * 3)).block, (ad.add (k * 3)).off + 2, none⟩ = some (.slice K2 x.ks.length q2) ∧
            W.cell? (ad'.add (k * 3)) = some (hv y.t) ∧ W.cell? ⟨(ad'.add (k * 3)).block, (ad'.add (k * 3)).off + 1, none⟩ = some (.slice A3 y.v.length c3) ∧ W.cell? ⟨(ad'.add (k * 3)).block, (ad'.add (k * 3)).off + 2, none⟩ = some (.slice K3 y.ks.length q3)) := fun W hW =>
          ⟨(hW.cell (p := ad.add (k * 3)) (by rw [blk_add]; omega)).trans e0, (hW.cell (p := ⟨(ad.add (k * 3)).block, (ad.add (k * 3)).off + 1, none⟩) (by show (ad.add (k * 3)).block < _; rw [blk_add]; omega)).trans e1, (hW.cell (p := ⟨(ad.add (k * 3)).block, (ad.add (k * 3)).off + 2, none⟩) (by show (ad.add (k * 3)).block < _; rw [blk_add]; omega)).trans e2,
            (hW.cell (p := ad'.add (k * 3)) (by rw [blk_add]; omega)).trans d0, (hW.cell (p := ⟨(ad'.add (k * 3)).block, (ad'.add (k * 3)).off + 1, none⟩) (by show (ad'.add (k * 3)).block < _; rw [blk_add]; omega)).trans d1, (hW.cell (p := ⟨(ad'.add (k * 3)).block, (ad'.add (k * 3)).off + 2, none⟩) (by show (ad'.add (k * 3)).block < _; rw [blk_add]; omega)).trans d2⟩
        have HB : Hid (∀ W, Below wr.heap.size wr W → Calls Tryz.prog 79 #[.slice A2 x.v.length c2, .slice A3 y.v.length c3] W fun e w' => e = .returned (.bool (decide (x.v = y.v))) ∧ Below W.heap.size W w') := fun W hW => by
          refine (same_any A2 A3 c2 c3 W.heap.size x.v y.v W ((hN.data.below (hW.mono hws)).more (Nat.le_trans hws hW.size)) ((hM.data.below (hW.mono hws)).more (Nat.le_trans hws hW.size)) (Nat.le_trans hN.dc hN.dm)).mono ?_
          rintro e w1 ⟨rfl, q, rfl⟩
          exact ⟨rfl, below_drewN (Below.refl _ _) q⟩
        have HR : Hid (∀ W, Below wr.heap.size wr W → Calls Tryz.prog 70 #[.slice K2 x.ks.length q2, .slice K3 y.ks.length q3] W fun e w' => e = .returned (.bool (beqL x.ks y.ks)) ∧ Below W.heap.size W w') := fun W hW =>
          HI.out x (List.mem_of_getElem? hx.out) y.ks K2 K3 q2 q3 W ((hN.kids.bel (hW.mono hws)).more (Nat.le_trans hws hW.size)) ((hM.kids.bel (hW.mono hws)).more (Nat.le_trans hws hW.size))
            (by have h1 := hN.kc; have h2 := hN.km; unfold maxLen at h2; omega) (by have h1 := hM.kc; have h2 := hM.km; unfold maxLen at h2; omega)
        have HNE : Hid (x ≠ y → r = false) := fun hxy => HF.out (fun e => by
          have h1 := hx.out
          rw [e, hy.out] at h1
          exact hxy (Option.some.inj h1).symm)
        have HNX : Hid (x = y → ∀ j, j < k + 1 → ns[j]? = ms[j]?) := fun hxy j hj => by
          rcases Nat.lt_or_ge j k with h1 | h1
          · exact heq.out j h1
          · obtain rfl : j = k := by omega
            rw [hx.out, hy.out, hxy]
        have HEX : Hid (x.t = y.t → x.v = y.v → x.ks = y.ks → x = y) := fun h1 h2 h3 => by rw [Nd.eta x, Nd.eta y, h1, h2, h3]
        clear hx hy hN hM heq hb hb' hneq hws
        by_cases ht : x.t = y.t
        · have hneq2 : ((x.t.toNat : Int) != (y.t.toNat : Int)) = false := by rw [ht]; simp
          have HTE := Lib.hid ht
          clear ht
          by_cases hv2 : x.v = y.v
          · have HVE := Lib.hid hv2
            rw [decide_eq_true hv2] at HB
            clear hv2
            by_cases hks : x.ks = y.ks
            · rw [beqL_true hks] at HR
              have HXY := Lib.hid (HEX.out HTE.out HVE.out hks)
              clear hks HEX HNE HTE HVE
              go_wp2_with fail
              go_region_held3 (fun W => W.cell? (ad.add (k * 3)) = some (hv x.t) ∧ W.cell? ⟨(ad.add (k * 3)).block, (ad.add (k * 3)).off + 1, none⟩ = some (.slice A2 x.v.length c2) ∧ W.cell? ⟨(ad.add (k * 3)).block, (ad.add (k * 3)).off + 2, none⟩ = some (.slice K2 x.ks.length q2) ∧
                  W.cell? (ad'.add (k * 3)) = some (hv y.t) ∧ W.cell? ⟨(ad'.add (k * 3)).block, (ad'.add (k * 3)).off + 1, none⟩ = some (.slice A3 y.v.length c3) ∧ W.cell? ⟨(ad'.add (k * 3)).block, (ad'.add (k * 3)).off + 2, none⟩ = some (.slice K3 y.ks.length q3)) (first | exact hS9 | exact hS8 | go_keep) (first
                | (go_at_call 79; (with_reducible refine (HB.out wr.drew (below_drew (Below.refl _ _))).mono ?_); rintro e w8 ⟨rfl, b8'⟩; have b8 : Below wr.heap.size wr w8 := below_undrew b8'; have hS8 := KS.out _ b8)
                | (go_at_call 70; (with_reducible refine (HR.out w8 b8).mono ?_); rintro e w9 ⟨rfl, b9'⟩; have b9 := b8.trans (b9'.mono b8.size); have hS9 := KS.out _ b9))
              go_wp2_with fail
              go_roundw
              case rel => exact ⟨k + 1, by omega, by go_num, HNX.out HXY.out, hbel.trans (b9.mono hbel.size)⟩
              case measure => simp [intOf]; omega
            · rw [beqL_false hks] at HR
              have HRR := Lib.hid (HNE.out (fun e => hks (by rw [e])))
              clear hks HEX HNE HTE HVE HNX
              go_wp2_with fail
              go_region_held3 (fun W => W.cell? (ad.add (k * 3)) = some (hv x.t) ∧ W.cell? ⟨(ad.add (k * 3)).block, (ad.add (k * 3)).off + 1, none⟩ = some (.slice A2 x.v.length c2) ∧ W.cell? ⟨(ad.add (k * 3)).block, (ad.add (k * 3)).off + 2, none⟩ = some (.slice K2 x.ks.length q2) ∧
                  W.cell? (ad'.add (k * 3)) = some (hv y.t) ∧ W.cell? ⟨(ad'.add (k * 3)).block, (ad'.add (k * 3)).off + 1, none⟩ = some (.slice A3 y.v.length c3) ∧ W.cell? ⟨(ad'.add (k * 3)).block, (ad'.add (k * 3)).off + 2, none⟩ = some (.slice K3 y.ks.length q3)) (first | exact hS9 | exact hS8 | go_keep) (first
                | (go_at_call 79; (with_reducible refine (HB.out wr.drew (below_drew (Below.refl _ _))).mono ?_); rintro e w8 ⟨rfl, b8'⟩; have b8 : Below wr.heap.size wr w8 := below_undrew b8'; have hS8 := KS.out _ b8)
                | (go_at_call 70; (with_reducible refine (HR.out w8 b8).mono ?_); rintro e w9 ⟨rfl, b9'⟩; have b9 := b8.trans (b9'.mono b8.size); have hS9 := KS.out _ b9))
              go_wp2_with fail
              go_ret
              rw [HRR.out]
              exact ⟨rfl, hbel.trans (b9.mono hbel.size)⟩
          · rw [decide_eq_false hv2] at HB
            have HRR := Lib.hid (HNE.out (fun e => hv2 (by rw [e])))
            clear hv2 HEX HNE HTE HNX
            go_wp2_with fail
            refine wp_region_held_drew (S := (fun W => W.cell? (ad.add (k * 3)) = some (hv x.t) ∧ W.cell? ⟨(ad.add (k * 3)).block, (ad.add (k * 3)).off + 1, none⟩ = some (.slice A2 x.v.length c2) ∧ W.cell? ⟨(ad.add (k * 3)).block, (ad.add (k * 3)).off + 2, none⟩ = some (.slice K2 x.ks.length q2) ∧ W.cell? (ad'.add (k * 3)) = some (hv y.t) ∧ W.cell? ⟨(ad'.add (k * 3)).block, (ad'.add (k * 3)).off + 1, none⟩ = some (.slice A3 y.v.length c3) ∧ W.cell? ⟨(ad'.add (k * 3)).block, (ad'.add (k * 3)).off + 2, none⟩ = some (.slice K3 y.ks.length q3))) (by kernel_rfl) (KS.out _ (below_drew (Below.refl _ _))) (fun hHeld => ?_)
            refine take_at (i := 0) (v := ?_) (some 17) rfl (by kernel_rfl) (by kernel_rfl) (by kernel_rfl) (fun _ _ _ h => h) (by kernel_rfl) (Or.inl ⟨by kernel_rfl, ?_⟩) (by assumption) ?_
            rotate_left
            · (intro w hSw; (try dsimp only at hSw); go_simp <;> with_reducible rfl)
            simp only [Act.put, List.setIfInBounds_toArray, List.set_cons_zero, List.set_cons_succ]
            refine take_at (i := 1) (v := ?_) (some 18) rfl (by kernel_rfl) (by kernel_rfl) (by kernel_rfl) (fun _ _ _ h => h) (by kernel_rfl) (Or.inl ⟨by kernel_rfl, ?_⟩) (by assumption) ?_
            rotate_left
            · (intro w hSw; (try dsimp only at hSw); go_simp <;> with_reducible rfl)
            simp only [Act.put, List.setIfInBounds_toArray, List.set_cons_zero, List.set_cons_succ]
            refine take_at (i := 2) (v := ?_) (some 19) rfl (by kernel_rfl) (by kernel_rfl) (by kernel_rfl) (fun _ _ _ h => h) (by kernel_rfl) (Or.inl ⟨by kernel_rfl, ?_⟩) (by assumption) ?_
            rotate_left
            · (intro w hSw; (try dsimp only at hSw); go_simp <;> with_reducible rfl)
            simp only [Act.put, List.setIfInBounds_toArray, List.set_cons_zero, List.set_cons_succ]
            refine take_at (i := 3) (v := ?_) (some 20) rfl (by kernel_rfl) (by kernel_rfl) (by kernel_rfl) (fun _ _ _ h => h) (by kernel_rfl) (Or.inl ⟨by kernel_rfl, ?_⟩) (by assumption) ?_
            rotate_left
            · (intro w hSw; (try dsimp only at hSw); go_simp <;> with_reducible rfl)
            simp only [Act.put, List.setIfInBounds_toArray, List.set_cons_zero, List.set_cons_succ]
            refine take_at (i := 4) (v := ?_) (some 21) rfl (by kernel_rfl) (by kernel_rfl) (by kernel_rfl) (fun _ _ _ h => h) (by kernel_rfl) (Or.inl ⟨by kernel_rfl, ?_⟩) (by assumption) ?_
            rotate_left
            · (intro w hSw; (try dsimp only at hSw); go_simp <;> with_reducible rfl)
            simp only [Act.put, List.setIfInBounds_toArray, List.set_cons_zero, List.set_cons_succ]
            refine take_at (i := 5) (v := ?_) (some 22) rfl (by kernel_rfl) (by kernel_rfl) (by kernel_rfl) (fun _ _ _ h => h) (by kernel_rfl) (Or.inl ⟨by kernel_rfl, ?_⟩) (by assumption) ?_
            rotate_left
            · (intro w hSw; (try dsimp only at hSw); go_simp <;> with_reducible rfl)
            simp only [Act.put, List.setIfInBounds_toArray, List.set_cons_zero, List.set_cons_succ]
            refine take_at (i := 6) (v := ?_) (some 23) rfl (by kernel_rfl) (by kernel_rfl) (by kernel_rfl) (fun _ _ _ h => h) (by kernel_rfl) (Or.inl ⟨by kernel_rfl, ?_⟩) (by assumption) ?_
            rotate_left
            · (intro w hSw; (try dsimp only at hSw); go_simp <;> with_reducible rfl)
            simp only [Act.put, List.setIfInBounds_toArray, List.set_cons_zero, List.set_cons_succ]
            refine take_at (i := 7) (v := ?_) (some 24) rfl (by kernel_rfl) (by kernel_rfl) (by kernel_rfl) (fun _ _ _ h => h) (by kernel_rfl) (Or.inl ⟨by kernel_rfl, ?_⟩) (by assumption) ?_
            rotate_left
            · (intro w hSw; (try dsimp only at hSw); go_simp <;> with_reducible rfl)
            simp only [Act.put, List.setIfInBounds_toArray, List.set_cons_zero, List.set_cons_succ]
            refine take_at (i := 8) (v := ?_) (some 25) rfl (by kernel_rfl) (by kernel_rfl) (by kernel_rfl) (fun _ _ _ h => h) (by kernel_rfl) (Or.inl ⟨by kernel_rfl, ?_⟩) (by assumption) ?_
            rotate_left
            · (intro w hSw; (try dsimp only at hSw); go_simp <;> with_reducible rfl)
            simp only [Act.put, List.setIfInBounds_toArray, List.set_cons_zero, List.set_cons_succ]
            refine take_at (i := 9) (v := ?_) (some 26) rfl (by kernel_rfl) (by kernel_rfl) (by kernel_rfl) (fun _ _ _ h => h) (by kernel_rfl) (Or.inl ⟨by kernel_rfl, ?_⟩) (by assumption) ?_
            rotate_left
            · (intro w hSw; (try dsimp only at hSw); go_simp <;> with_reducible rfl)
            simp only [Act.put, List.setIfInBounds_toArray, List.set_cons_zero, List.set_cons_succ]
            refine take_at (i := 10) (v := ?_) (some 27) rfl (by kernel_rfl) (by kernel_rfl) (by kernel_rfl) (fun _ _ _ h => h) (by kernel_rfl) (Or.inl ⟨by kernel_rfl, ?_⟩) (by assumption) ?_
            rotate_left
            · (intro w hSw; (try dsimp only at hSw); go_simp <;> with_reducible rfl)
            simp only [Act.put, List.setIfInBounds_toArray, List.set_cons_zero, List.set_cons_succ]
            refine take_at (i := 11) (v := ?_) (some 28) rfl (by kernel_rfl) (by kernel_rfl) (by kernel_rfl) (fun _ _ _ h => h) (by kernel_rfl) (Or.inl ⟨by kernel_rfl, ?_⟩) (by assumption) ?_
            rotate_left
            · (intro w hSw; (try dsimp only at hSw); go_simp <;> with_reducible rfl)
            simp only [Act.put, List.setIfInBounds_toArray, List.set_cons_zero, List.set_cons_succ]
            refine take_at (i := 12) (v := ?_) (some 29) rfl (by kernel_rfl) (by kernel_rfl) (by kernel_rfl) (fun _ _ _ h => h) (by kernel_rfl) (Or.inl ⟨by kernel_rfl, ?_⟩) (by assumption) ?_
            rotate_left
            · (intro w hSw; (try dsimp only at hSw); go_simp <;> with_reducible rfl)
            simp only [Act.put, List.setIfInBounds_toArray, List.set_cons_zero, List.set_cons_succ]
            refine take_at (i := 13) (v := ?_) (some 30) rfl (by kernel_rfl) (by kernel_rfl) (by kernel_rfl) (fun _ _ _ h => h) (by kernel_rfl) (Or.inl ⟨by kernel_rfl, ?_⟩) (by assumption) ?_
            rotate_left
            · (intro w hSw; (try dsimp only at hSw); go_simp <;> with_reducible rfl)
            simp only [Act.put, List.setIfInBounds_toArray, List.set_cons_zero, List.set_cons_succ]
            refine take_at (i := 14) (v := ?_) (some 31) rfl (by kernel_rfl) (by kernel_rfl) (by kernel_rfl) (fun _ _ _ h => h) (by kernel_rfl) (Or.inl ⟨by kernel_rfl, ?_⟩) (by assumption) ?_
            rotate_left
            · (intro w hSw; (try dsimp only at hSw); go_simp <;> with_reducible rfl)
            simp only [Act.put, List.setIfInBounds_toArray, List.set_cons_zero, List.set_cons_succ]
            refine take_at (i := 15) (v := ?_) (some 32) rfl (by kernel_rfl) (by kernel_rfl) (by kernel_rfl) (fun _ _ _ h => h) (by kernel_rfl) (Or.inl ⟨by kernel_rfl, ?_⟩) (by assumption) ?_
            rotate_left
            · (intro w hSw; (try dsimp only at hSw); go_simp <;> with_reducible rfl)
            simp only [Act.put, List.setIfInBounds_toArray, List.set_cons_zero, List.set_cons_succ]
            refine take_at (i := 16) (v := ?_) (some 33) rfl (by kernel_rfl) (by kernel_rfl) (by kernel_rfl) (fun _ _ _ h => h) (by kernel_rfl) (Or.inl ⟨by kernel_rfl, ?_⟩) (by assumption) ?_
            rotate_left
            · (intro w hSw; (try dsimp only at hSw); go_simp <;> with_reducible rfl)
            simp only [Act.put, List.setIfInBounds_toArray, List.set_cons_zero, List.set_cons_succ]
            refine take_at (i := 17) (v := ?_) (some 34) rfl (by kernel_rfl) (by kernel_rfl) (by kernel_rfl) (fun _ _ _ h => h) (by kernel_rfl) (Or.inl ⟨by kernel_rfl, ?_⟩) (by assumption) ?_
            rotate_left
            · (intro w hSw; (try dsimp only at hSw); go_simp <;> with_reducible rfl)
            simp only [Act.put, List.setIfInBounds_toArray, List.set_cons_zero, List.set_cons_succ]
            refine take_at (i := 18) (v := ?_) (some 35) rfl (by kernel_rfl) (by kernel_rfl) (by kernel_rfl) (fun _ _ _ h => h) (by kernel_rfl) (Or.inl ⟨by kernel_rfl, ?_⟩) (by assumption) ?_
            rotate_left
            · (intro w hSw; (try dsimp only at hSw); go_simp <;> with_reducible rfl)
            simp only [Act.put, List.setIfInBounds_toArray, List.set_cons_zero, List.set_cons_succ]
            refine take_at (i := 19) (v := ?_) (some 36) rfl (by kernel_rfl) (by kernel_rfl) (by kernel_rfl) (fun _ _ _ h => h) (by kernel_rfl) (Or.inl ⟨by kernel_rfl, ?_⟩) (by assumption) ?_
            rotate_left
            · (intro w hSw; (try dsimp only at hSw); go_simp <;> with_reducible rfl)
            simp only [Act.put, List.setIfInBounds_toArray, List.set_cons_zero, List.set_cons_succ]
            refine take_at (i := 20) (v := ?_) (some 37) rfl (by kernel_rfl) (by kernel_rfl) (by kernel_rfl) (fun _ _ _ h => h) (by kernel_rfl) (Or.inl ⟨by kernel_rfl, ?_⟩) (by assumption) ?_
            rotate_left
            · (intro w hSw; (try dsimp only at hSw); go_simp <;> with_reducible rfl)
            simp only [Act.put, List.setIfInBounds_toArray, List.set_cons_zero, List.set_cons_succ]
            refine take_at (i := 21) (v := ?_) (some 38) rfl (by kernel_rfl) (by kernel_rfl) (by kernel_rfl) (fun _ _ _ h => h) (by kernel_rfl) (Or.inl ⟨by kernel_rfl, ?_⟩) (by assumption) ?_
            rotate_left
            · (intro w hSw; (try dsimp only at hSw); go_simp <;> with_reducible rfl)
            simp only [Act.put, List.setIfInBounds_toArray, List.set_cons_zero, List.set_cons_succ]
            refine wpAnyH_ready (rs := [22]) (by kernel_rfl) (by simp) ?_
            refine AllReadyH.cons rfl (fun K hK => ?_) AllReadyH.nil
            go_simp
            go_at_call 79; (with_reducible refine (HB.out wr.drew (below_drew (Below.refl _ _))).mono ?_); rintro e w8 ⟨rfl, b8'⟩; have b8 : Below wr.heap.size wr w8 := below_undrew b8'; have hS8 := KS.out _ b8
            go_wp2_with fail
            clear hHeld
            refine hK.out _ _ hS8 (fun hHeld => ?_)
            clear hK K
            try simp only [Act.put, List.setIfInBounds_toArray, List.set_cons_zero, List.set_cons_succ]
            refine take_at (i := 23) (v := ?_) (some 40) rfl (by kernel_rfl) (by kernel_rfl) (by kernel_rfl) (fun _ _ _ h => h) (by kernel_rfl) (Or.inl ⟨by kernel_rfl, ?_⟩) (by assumption) ?_
            rotate_left
            · (intro w hSw; (try dsimp only at hSw); go_simp <;> with_reducible rfl)
            simp only [Act.put, List.setIfInBounds_toArray, List.set_cons_zero, List.set_cons_succ]
            refine take_at (i := 24) (v := ?_) (some 41) rfl (by kernel_rfl) (by kernel_rfl) (by kernel_rfl) (fun _ _ _ h => h) (by kernel_rfl) (Or.inl ⟨by kernel_rfl, ?_⟩) (by assumption) ?_
            rotate_left
            · (intro w hSw; (try dsimp only at hSw); go_simp <;> with_reducible rfl)
            simp only [Act.put, List.setIfInBounds_toArray, List.set_cons_zero, List.set_cons_succ]
            refine take_at (i := 25) (v := ?_) (some 42) rfl (by kernel_rfl) (by kernel_rfl) (by kernel_rfl) (fun _ _ _ h => h) (by kernel_rfl) (Or.inl ⟨by kernel_rfl, ?_⟩) (by assumption) ?_
            rotate_left
            · (intro w hSw; (try dsimp only at hSw); go_simp <;> with_reducible rfl)
            simp only [Act.put, List.setIfInBounds_toArray, List.set_cons_zero, List.set_cons_succ]
            refine take_at (i := 26) (v := undef) (some 43) rfl (by kernel_rfl) (by kernel_rfl) (by kernel_rfl) (fun _ _ _ h => h) (by kernel_rfl) (Or.inr ⟨by kernel_rfl, rfl⟩) (by assumption) ?_
            simp only [Act.put, List.setIfInBounds_toArray, List.set_cons_zero, List.set_cons_succ]
            refine take_at (i := 27) (v := undef) (some 44) rfl (by kernel_rfl) (by kernel_rfl) (by kernel_rfl) (fun _ _ _ h => h) (by kernel_rfl) (Or.inr ⟨by kernel_rfl, rfl⟩) (by assumption) ?_
            simp only [Act.put, List.setIfInBounds_toArray, List.set_cons_zero, List.set_cons_succ]
            refine take_at (i := 28) (v := undef) (some 45) rfl (by kernel_rfl) (by kernel_rfl) (by kernel_rfl) (fun _ _ _ h => h) (by kernel_rfl) (Or.inr ⟨by kernel_rfl, rfl⟩) (by assumption) ?_
            simp only [Act.put, List.setIfInBounds_toArray, List.set_cons_zero, List.set_cons_succ]
            refine take_at (i := 29) (v := undef) (some 46) rfl (by kernel_rfl) (by kernel_rfl) (by kernel_rfl) (fun _ _ _ h => h) (by kernel_rfl) (Or.inr ⟨by kernel_rfl, rfl⟩) (by assumption) ?_
            simp only [Act.put, List.setIfInBounds_toArray, List.set_cons_zero, List.set_cons_succ]
            refine take_at (i := 30) (v := undef) (some 47) rfl (by kernel_rfl) (by kernel_rfl) (by kernel_rfl) (fun _ _ _ h => h) (by kernel_rfl) (Or.inr ⟨by kernel_rfl, rfl⟩) (by assumption) ?_
            simp only [Act.put, List.setIfInBounds_toArray, List.set_cons_zero, List.set_cons_succ]
            refine take_at (i := 31) (v := undef) (some 48) rfl (by kernel_rfl) (by kernel_rfl) (by kernel_rfl) (fun _ _ _ h => h) (by kernel_rfl) (Or.inr ⟨by kernel_rfl, rfl⟩) (by assumption) ?_
            simp only [Act.put, List.setIfInBounds_toArray, List.set_cons_zero, List.set_cons_succ]
            refine take_at (i := 32) (v := undef) (some 49) rfl (by kernel_rfl) (by kernel_rfl) (by kernel_rfl) (fun _ _ _ h => h) (by kernel_rfl) (Or.inr ⟨by kernel_rfl, rfl⟩) (by assumption) ?_
            simp only [Act.put, List.setIfInBounds_toArray, List.set_cons_zero, List.set_cons_succ]
            refine take_at (i := 33) (v := undef) (some 50) rfl (by kernel_rfl) (by kernel_rfl) (by kernel_rfl) (fun _ _ _ h => h) (by kernel_rfl) (Or.inr ⟨by kernel_rfl, rfl⟩) (by assumption) ?_
            simp only [Act.put, List.setIfInBounds_toArray, List.set_cons_zero, List.set_cons_succ]
            refine take_at (i := 34) (v := undef) (some 51) rfl (by kernel_rfl) (by kernel_rfl) (by kernel_rfl) (fun _ _ _ h => h) (by kernel_rfl) (Or.inr ⟨by kernel_rfl, rfl⟩) (by assumption) ?_
            simp only [Act.put, List.setIfInBounds_toArray, List.set_cons_zero, List.set_cons_succ]
            refine take_at (i := 35) (v := undef) (some 52) rfl (by kernel_rfl) (by kernel_rfl) (by kernel_rfl) (fun _ _ _ h => h) (by kernel_rfl) (Or.inr ⟨by kernel_rfl, rfl⟩) (by assumption) ?_
            simp only [Act.put, List.setIfInBounds_toArray, List.set_cons_zero, List.set_cons_succ]
            refine take_at (i := 36) (v := undef) (some 53) rfl (by kernel_rfl) (by kernel_rfl) (by kernel_rfl) (fun _ _ _ h => h) (by kernel_rfl) (Or.inr ⟨by kernel_rfl, rfl⟩) (by assumption) ?_
            simp only [Act.put, List.setIfInBounds_toArray, List.set_cons_zero, List.set_cons_succ]
            refine take_at (i := 37) (v := undef) (some 54) rfl (by kernel_rfl) (by kernel_rfl) (by kernel_rfl) (fun _ _ _ h => h) (by kernel_rfl) (Or.inr ⟨by kernel_rfl, rfl⟩) (by assumption) ?_
            simp only [Act.put, List.setIfInBounds_toArray, List.set_cons_zero, List.set_cons_succ]
            refine take_at (i := 38) (v := ?_) (some 55) rfl (by kernel_rfl) (by kernel_rfl) (by kernel_rfl) (fun _ _ _ h => h) (by kernel_rfl) (Or.inl ⟨by kernel_rfl, ?_⟩) (by assumption) ?_
            rotate_left
            · (intro w hSw; (try dsimp only at hSw); go_simp <;> with_reducible rfl)
            simp only [Act.put, List.setIfInBounds_toArray, List.set_cons_zero, List.set_cons_succ]
            refine wpAnyH_done (by kernel_rfl) ?_ _
            go_wp2_with fail
            go_ret
            rw [HRR.out]
            exact ⟨rfl, hbel.trans (b8.mono hbel.size)⟩
        · have hneq2 := toNat_ne ht
          have HRR := Lib.hid (HNE.out (fun e => ht (by rw [e])))
          clear ht HEX HNE HNX
          go_wp2_with fail
          refine wp_region_held_drew (S := (fun W => W.cell? (ad.add (k * 3)) = some (hv x.t) ∧ W.cell? ⟨(ad.add (k * 3)).block, (ad.add (k * 3)).off + 1, none⟩ = some (.slice A2 x.v.length c2) ∧ W.cell? ⟨(ad.add (k * 3)).block, (ad.add (k * 3)).off + 2, none⟩ = some (.slice K2 x.ks.length q2) ∧ W.cell? (ad'.add (k * 3)) = some (hv y.t) ∧ W.cell? ⟨(ad'.add (k * 3)).block, (ad'.add (k * 3)).off + 1, none⟩ = some (.slice A3 y.v.length c3) ∧ W.cell? ⟨(ad'.add (k * 3)).block, (ad'.add (k * 3)).off + 2, none⟩ = some (.slice K3 y.ks.length q3))) (by kernel_rfl) (KS.out _ (below_drew (Below.refl _ _))) (fun hHeld => ?_)
          refine take_at (i := 0) (v := ?_) (some 17) rfl (by kernel_rfl) (by kernel_rfl) (by kernel_rfl) (fun _ _ _ h => h) (by kernel_rfl) (Or.inl ⟨by kernel_rfl, ?_⟩) (by assumption) ?_
          rotate_left
          · (intro w hSw; (try dsimp only at hSw); go_simp <;> with_reducible rfl)
          simp only [Act.put, List.setIfInBounds_toArray, List.set_cons_zero, List.set_cons_succ]
          refine take_at (i := 1) (v := ?_) (some 18) rfl (by kernel_rfl) (by kernel_rfl) (by kernel_rfl) (fun _ _ _ h => h) (by kernel_rfl) (Or.inl ⟨by kernel_rfl, ?_⟩) (by assumption) ?_
          rotate_left
          · (intro w hSw; (try dsimp only at hSw); go_simp <;> with_reducible rfl)
          simp only [Act.put, List.setIfInBounds_toArray, List.set_cons_zero, List.set_cons_succ]
          refine take_at (i := 2) (v := ?_) (some 19) rfl (by kernel_rfl) (by kernel_rfl) (by kernel_rfl) (fun _ _ _ h => h) (by kernel_rfl) (Or.inl ⟨by kernel_rfl, ?_⟩) (by assumption) ?_
          rotate_left
          · (intro w hSw; (try dsimp only at hSw); go_simp <;> with_reducible rfl)
          simp only [Act.put, List.setIfInBounds_toArray, List.set_cons_zero, List.set_cons_succ]
          refine take_at (i := 3) (v := ?_) (some 20) rfl (by kernel_rfl) (by kernel_rfl) (by kernel_rfl) (fun _ _ _ h => h) (by kernel_rfl) (Or.inl ⟨by kernel_rfl, ?_⟩) (by assumption) ?_
          rotate_left
          · (intro w hSw; (try dsimp only at hSw); go_simp <;> with_reducible rfl)
          simp only [Act.put, List.setIfInBounds_toArray, List.set_cons_zero, List.set_cons_succ]
          refine take_at (i := 4) (v := ?_) (some 21) rfl (by kernel_rfl) (by kernel_rfl) (by kernel_rfl) (fun _ _ _ h => h) (by kernel_rfl) (Or.inl ⟨by kernel_rfl, ?_⟩) (by assumption) ?_
          rotate_left
          · (intro w hSw; (try dsimp only at hSw); go_simp <;> with_reducible rfl)
          simp only [Act.put, List.setIfInBounds_toArray, List.set_cons_zero, List.set_cons_succ]
          refine take_at (i := 5) (v := ?_) (some 22) rfl (by kernel_rfl) (by kernel_rfl) (by kernel_rfl) (fun _ _ _ h => h) (by kernel_rfl) (Or.inl ⟨by kernel_rfl, ?_⟩) (by assumption) ?_
          rotate_left
          · (intro w hSw; (try dsimp only at hSw); go_simp <;> with_reducible rfl)
          simp only [Act.put, List.setIfInBounds_toArray, List.set_cons_zero, List.set_cons_succ]
          refine take_at (i := 6) (v := ?_) (some 23) rfl (by kernel_rfl) (by kernel_rfl) (by kernel_rfl) (fun _ _ _ h => h) (by kernel_rfl) (Or.inl ⟨by kernel_rfl, ?_⟩) (by assumption) ?_
          rotate_left
          · (intro w hSw; (try dsimp only at hSw); go_simp <;> with_reducible rfl)
          simp only [Act.put, List.setIfInBounds_toArray, List.set_cons_zero, List.set_cons_succ]
          refine take_at (i := 7) (v := ?_) (some 24) rfl (by kernel_rfl) (by kernel_rfl) (by kernel_rfl) (fun _ _ _ h => h) (by kernel_rfl) (Or.inl ⟨by kernel_rfl, ?_⟩) (by assumption) ?_
          rotate_left
          · (intro w hSw; (try dsimp only at hSw); go_simp <;> with_reducible rfl)
          simp only [Act.put, List.setIfInBounds_toArray, List.set_cons_zero, List.set_cons_succ]
          refine take_at (i := 8) (v := ?_) (some 25) rfl (by kernel_rfl) (by kernel_rfl) (by kernel_rfl) (fun _ _ _ h => h) (by kernel_rfl) (Or.inl ⟨by kernel_rfl, ?_⟩) (by assumption) ?_
          rotate_left
          · (intro w hSw; (try dsimp only at hSw); go_simp <;> with_reducible rfl)
          simp only [Act.put, List.setIfInBounds_toArray, List.set_cons_zero, List.set_cons_succ]
          refine take_at (i := 9) (v := ?_) (some 26) rfl (by kernel_rfl) (by kernel_rfl) (by kernel_rfl) (fun _ _ _ h => h) (by kernel_rfl) (Or.inl ⟨by kernel_rfl, ?_⟩) (by assumption) ?_
          rotate_left
          · (intro w hSw; (try dsimp only at hSw); go_simp <;> with_reducible rfl)
          simp only [Act.put, List.setIfInBounds_toArray, List.set_cons_zero, List.set_cons_succ]
          refine take_at (i := 10) (v := ?_) (some 27) rfl (by kernel_rfl) (by kernel_rfl) (by kernel_rfl) (fun _ _ _ h => h) (by kernel_rfl) (Or.inl ⟨by kernel_rfl, ?_⟩) (by assumption) ?_
          rotate_left
          · (intro w hSw; (try dsimp only at hSw); go_simp <;> with_reducible rfl)
          simp only [Act.put, List.setIfInBounds_toArray, List.set_cons_zero, List.set_cons_succ]
          refine take_at (i := 11) (v := ?_) (some 28) rfl (by kernel_rfl) (by kernel_rfl) (by kernel_rfl) (fun _ _ _ h => h) (by kernel_rfl) (Or.inl ⟨by kernel_rfl, ?_⟩) (by assumption) ?_
          rotate_left
          · (intro w hSw; (try dsimp only at hSw); go_simp <;> with_reducible rfl)
          simp only [Act.put, List.setIfInBounds_toArray, List.set_cons_zero, List.set_cons_succ]
          refine take_at (i := 12) (v := undef) (some 29) rfl (by kernel_rfl) (by kernel_rfl) (by kernel_rfl) (fun _ _ _ h => h) (by kernel_rfl) (Or.inr ⟨by kernel_rfl, rfl⟩) (by assumption) ?_
          simp only [Act.put, List.setIfInBounds_toArray, List.set_cons_zero, List.set_cons_succ]
          refine take_at (i := 13) (v := undef) (some 30) rfl (by kernel_rfl) (by kernel_rfl) (by kernel_rfl) (fun _ _ _ h => h) (by kernel_rfl) (Or.inr ⟨by kernel_rfl, rfl⟩) (by assumption) ?_
          simp only [Act.put, List.setIfInBounds_toArray, List.set_cons_zero, List.set_cons_succ]
          refine take_at (i := 14) (v := undef) (some 31) rfl (by kernel_rfl) (by kernel_rfl) (by kernel_rfl) (fun _ _ _ h => h) (by kernel_rfl) (Or.inr ⟨by kernel_rfl, rfl⟩) (by assumption) ?_
          simp only [Act.put, List.setIfInBounds_toArray, List.set_cons_zero, List.set_cons_succ]
          refine take_at (i := 15) (v := undef) (some 32) rfl (by kernel_rfl) (by kernel_rfl) (by kernel_rfl) (fun _ _ _ h => h) (by kernel_rfl) (Or.inr ⟨by kernel_rfl, rfl⟩) (by assumption) ?_
          simp only [Act.put, List.setIfInBounds_toArray, List.set_cons_zero, List.set_cons_succ]
          refine take_at (i := 16) (v := undef) (some 33) rfl (by kernel_rfl) (by kernel_rfl) (by kernel_rfl) (fun _ _ _ h => h) (by kernel_rfl) (Or.inr ⟨by kernel_rfl, rfl⟩) (by assumption) ?_
          simp only [Act.put, List.setIfInBounds_toArray, List.set_cons_zero, List.set_cons_succ]
          refine take_at (i := 17) (v := undef) (some 34) rfl (by kernel_rfl) (by kernel_rfl) (by kernel_rfl) (fun _ _ _ h => h) (by kernel_rfl) (Or.inr ⟨by kernel_rfl, rfl⟩) (by assumption) ?_
          simp only [Act.put, List.setIfInBounds_toArray, List.set_cons_zero, List.set_cons_succ]
          refine take_at (i := 18) (v := undef) (some 35) rfl (by kernel_rfl) (by kernel_rfl) (by kernel_rfl) (fun _ _ _ h => h) (by kernel_rfl) (Or.inr ⟨by kernel_rfl, rfl⟩) (by assumption) ?_
          simp only [Act.put, List.setIfInBounds_toArray, List.set_cons_zero, List.set_cons_succ]
          refine take_at (i := 19) (v := undef) (some 36) rfl (by kernel_rfl) (by kernel_rfl) (by kernel_rfl) (fun _ _ _ h => h) (by kernel_rfl) (Or.inr ⟨by kernel_rfl, rfl⟩) (by assumption) ?_
          simp only [Act.put, List.setIfInBounds_toArray, List.set_cons_zero, List.set_cons_succ]
          refine take_at (i := 20) (v := undef) (some 37) rfl (by kernel_rfl) (by kernel_rfl) (by kernel_rfl) (fun _ _ _ h => h) (by kernel_rfl) (Or.inr ⟨by kernel_rfl, rfl⟩) (by assumption) ?_
          simp only [Act.put, List.setIfInBounds_toArray, List.set_cons_zero, List.set_cons_succ]
          refine take_at (i := 21) (v := undef) (some 38) rfl (by kernel_rfl) (by kernel_rfl) (by kernel_rfl) (fun _ _ _ h => h) (by kernel_rfl) (Or.inr ⟨by kernel_rfl, rfl⟩) (by assumption) ?_
          simp only [Act.put, List.setIfInBounds_toArray, List.set_cons_zero, List.set_cons_succ]
          refine take_at (i := 22) (v := undef) (some 39) rfl (by kernel_rfl) (by kernel_rfl) (by kernel_rfl) (fun _ _ _ h => h) (by kernel_rfl) (Or.inr ⟨by kernel_rfl, rfl⟩) (by assumption) ?_
          simp only [Act.put, List.setIfInBounds_toArray, List.set_cons_zero, List.set_cons_succ]
          refine take_at (i := 23) (v := undef) (some 40) rfl (by kernel_rfl) (by kernel_rfl) (by kernel_rfl) (fun _ _ _ h => h) (by kernel_rfl) (Or.inr ⟨by kernel_rfl, rfl⟩) (by assumption) ?_
          simp only [Act.put, List.setIfInBounds_toArray, List.set_cons_zero, List.set_cons_succ]
          refine take_at (i := 24) (v := ?_) (some 41) rfl (by kernel_rfl) (by kernel_rfl) (by kernel_rfl) (fun _ _ _ h => h) (by kernel_rfl) (Or.inl ⟨by kernel_rfl, ?_⟩) (by assumption) ?_
          rotate_left
          · (intro w hSw; (try dsimp only at hSw); go_simp <;> with_reducible rfl)
          simp only [Act.put, List.setIfInBounds_toArray, List.set_cons_zero, List.set_cons_succ]
          refine take_at (i := 25) (v := ?_) (some 42) rfl (by kernel_rfl) (by kernel_rfl) (by kernel_rfl) (fun _ _ _ h => h) (by kernel_rfl) (Or.inl ⟨by kernel_rfl, ?_⟩) (by assumption) ?_
          rotate_left
          · (intro w hSw; (try dsimp only at hSw); go_simp <;> with_reducible rfl)
          simp only [Act.put, List.setIfInBounds_toArray, List.set_cons_zero, List.set_cons_succ]
          refine take_at (i := 26) (v := undef) (some 43) rfl (by kernel_rfl) (by kernel_rfl) (by kernel_rfl) (fun _ _ _ h => h) (by kernel_rfl) (Or.inr ⟨by kernel_rfl, rfl⟩) (by assumption) ?_
          simp only [Act.put, List.setIfInBounds_toArray, List.set_cons_zero, List.set_cons_succ]
          refine take_at (i := 27) (v := undef) (some 44) rfl (by kernel_rfl) (by kernel_rfl) (by kernel_rfl) (fun _ _ _ h => h) (by kernel_rfl) (Or.inr ⟨by kernel_rfl, rfl⟩) (by assumption) ?_
          simp only [Act.put, List.setIfInBounds_toArray, List.set_cons_zero, List.set_cons_succ]
          refine take_at (i := 28) (v := undef) (some 45) rfl (by kernel_rfl) (by kernel_rfl) (by kernel_rfl) (fun _ _ _ h => h) (by kernel_rfl) (Or.inr ⟨by kernel_rfl, rfl⟩) (by assumption) ?_
          simp only [Act.put, List.setIfInBounds_toArray, List.set_cons_zero, List.set_cons_succ]
          refine take_at (i := 29) (v := undef) (some 46) rfl (by kernel_rfl) (by kernel_rfl) (by kernel_rfl) (fun _ _ _ h => h) (by kernel_rfl) (Or.inr ⟨by kernel_rfl, rfl⟩) (by assumption) ?_
          simp only [Act.put, List.setIfInBounds_toArray, List.set_cons_zero, List.set_cons_succ]
          refine take_at (i := 30) (v := undef) (some 47) rfl (by kernel_rfl) (by kernel_rfl) (by kernel_rfl) (fun _ _ _ h => h) (by kernel_rfl) (Or.inr ⟨by kernel_rfl, rfl⟩) (by assumption) ?_
          simp only [Act.put, List.setIfInBounds_toArray, List.set_cons_zero, List.set_cons_succ]
          refine take_at (i := 31) (v := undef) (some 48) rfl (by kernel_rfl) (by kernel_rfl) (by kernel_rfl) (fun _ _ _ h => h) (by kernel_rfl) (Or.inr ⟨by kernel_rfl, rfl⟩) (by assumption) ?_
          simp only [Act.put, List.setIfInBounds_toArray, List.set_cons_zero, List.set_cons_succ]
          refine take_at (i := 32) (v := undef) (some 49) rfl (by kernel_rfl) (by kernel_rfl) (by kernel_rfl) (fun _ _ _ h => h) (by kernel_rfl) (Or.inr ⟨by kernel_rfl, rfl⟩) (by assumption) ?_
          simp only [Act.put, List.setIfInBounds_toArray, List.set_cons_zero, List.set_cons_succ]
          refine take_at (i := 33) (v := undef) (some 50) rfl (by kernel_rfl) (by kernel_rfl) (by kernel_rfl) (fun _ _ _ h => h) (by kernel_rfl) (Or.inr ⟨by kernel_rfl, rfl⟩) (by assumption) ?_
          simp only [Act.put, List.setIfInBounds_toArray, List.set_cons_zero, List.set_cons_succ]
          refine take_at (i := 34) (v := undef) (some 51) rfl (by kernel_rfl) (by kernel_rfl) (by kernel_rfl) (fun _ _ _ h => h) (by kernel_rfl) (Or.inr ⟨by kernel_rfl, rfl⟩) (by assumption) ?_
          simp only [Act.put, List.setIfInBounds_toArray, List.set_cons_zero, List.set_cons_succ]
          refine take_at (i := 35) (v := undef) (some 52) rfl (by kernel_rfl) (by kernel_rfl) (by kernel_rfl) (fun _ _ _ h => h) (by kernel_rfl) (Or.inr ⟨by kernel_rfl, rfl⟩) (by assumption) ?_
          simp only [Act.put, List.setIfInBounds_toArray, List.set_cons_zero, List.set_cons_succ]
          refine take_at (i := 36) (v := undef) (some 53) rfl (by kernel_rfl) (by kernel_rfl) (by kernel_rfl) (fun _ _ _ h => h) (by kernel_rfl) (Or.inr ⟨by kernel_rfl, rfl⟩) (by assumption) ?_
          simp only [Act.put, List.setIfInBounds_toArray, List.set_cons_zero, List.set_cons_succ]
          refine take_at (i := 37) (v := undef) (some 54) rfl (by kernel_rfl) (by kernel_rfl) (by kernel_rfl) (fun _ _ _ h => h) (by kernel_rfl) (Or.inr ⟨by kernel_rfl, rfl⟩) (by assumption) ?_
          simp only [Act.put, List.setIfInBounds_toArray, List.set_cons_zero, List.set_cons_succ]
          refine take_at (i := 38) (v := ?_) (some 55) rfl (by kernel_rfl) (by kernel_rfl) (by kernel_rfl) (fun _ _ _ h => h) (by kernel_rfl) (Or.inl ⟨by kernel_rfl, ?_⟩) (by assumption) ?_
          rotate_left
          · (intro w hSw; (try dsimp only at hSw); go_simp <;> with_reducible rfl)
          simp only [Act.put, List.setIfInBounds_toArray, List.set_cons_zero, List.set_cons_succ]
          refine wpAnyH_done (by kernel_rfl) ?_ _
          go_wp2_with fail
          go_ret
          rw [HRR.out]
          exact ⟨rfl, below_drew hbel⟩
      · obtain rfl : k = ns.length := by omega
        have HRR := Lib.hid (HT.out (take_eq_of HL.out heq.out))
        go_wp2_with fail
        go_ret
        rw [HRR.out]
        exact ⟨rfl, hbel⟩
  · have hneq : ((ns.length : Int) != (ms.length : Int)) = true := by rw [bne_iff_ne]; omega
    have HRR := Lib.hid (beqL_false (l := ns) (m := ms) (fun e => hlen (by rw [e])))
    generalize beqL ns ms = r at *
    clear hlen
    go_enter Tryz.func70, Tryz.ntmps70
    go_wp2_with fail
    go_ret
    rw [HRR.out]
    exact ⟨rfl, Below.refl _ _⟩
theorem rsame_any (ns : List Nd) : RSameOK ns := Nds.ind rsame_step ns
end Go.Proofs.YteknmgmdmjmnmaaGreatDoor





namespace Go.Proofs.YteknmgmdmjmnmaaGreatDoor
open Go.RowKit

inductive NR where
  | ok (n : Nd)
  | bad (code at_ : Nat)
/-! ### the offsets lie in the bytes -/
end Go.Proofs.YteknmgmdmjmnmaaGreatDoor




namespace Go.Proofs.YteknmgmdmjmnmaaGreatDoor
open Go.RowKit

/-! ### how read and parse end -/
/-- the three variables of a reading: the frame, the result, the form -/
structure Box3 (W : World) (g0 g1 : Nat) (fr : Fr) (A : Option Addr) (cc : Nat) (F : Form) (lo : Int) : Prop where
  fb : Whole W g0 255 #[hv fr.t, .slice A fr.v.length cc]
  rs : Whole W (g0 + 1) 51 #[.int .u16 0, .slice none 0 0, .slice none 0 0]
  fo : Whole W g1 202 #[.int .i64 F.cl, hv F.ty, .string F.nm, .int .i64 lo, .int .i64 F.hi, .int .i64 F.un, .int .i64 F.ki]
section
variable {W W' : World} {g0 g1 : Nat} {fr : Fr} {A : Option Addr} {cc : Nat} {F : Form} {lo : Int}
theorem Box3.below (h : Box3 W g0 g1 fr A cc F lo) (hb : Below W.heap.size W W') : Box3 W' g0 g1 fr A cc F lo := ⟨h.fb.below hb h.fb.lt, h.rs.below hb h.rs.lt, h.fo.below hb h.fo.lt⟩
theorem Box3.c0 (h : Box3 W g0 g1 fr A cc F lo) : W.cell? ⟨g0, 0, none⟩ = some (hv fr.t) := by rw [h.fb.cell]; rfl
theorem Box3.c1 (h : Box3 W g0 g1 fr A cc F lo) : W.cell? ⟨g0, 1, none⟩ = some (.slice A fr.v.length cc) := by rw [h.fb.cell]; rfl
theorem Box3.k0 (h : Box3 W g0 g1 fr A cc F lo) : W.cell? ⟨g1, 0, none⟩ = some (.int .i64 F.cl) := by rw [h.fo.cell]; rfl
theorem Box3.k1 (h : Box3 W g0 g1 fr A cc F lo) : W.cell? ⟨g1, 1, none⟩ = some (hv F.ty) := by rw [h.fo.cell]; rfl
theorem Box3.k2 (h : Box3 W g0 g1 fr A cc F lo) : W.cell? ⟨g1, 2, none⟩ = some (.string F.nm) := by rw [h.fo.cell]; rfl
theorem Box3.k3 (h : Box3 W g0 g1 fr A cc F lo) : W.cell? ⟨g1, 3, none⟩ = some (.int .i64 lo) := by rw [h.fo.cell]; rfl
theorem Box3.k4 (h : Box3 W g0 g1 fr A cc F lo) : W.cell? ⟨g1, 4, none⟩ = some (.int .i64 F.hi) := by rw [h.fo.cell]; rfl
theorem Box3.k5 (h : Box3 W g0 g1 fr A cc F lo) : W.cell? ⟨g1, 5, none⟩ = some (.int .i64 F.un) := by rw [h.fo.cell]; rfl
theorem Box3.k6 (h : Box3 W g0 g1 fr A cc F lo) : W.cell? ⟨g1, 6, none⟩ = some (.int .i64 F.ki) := by rw [h.fo.cell]; rfl
theorem Box3.set (h : Box3 W g0 g1 fr A cc F lo) (u v x : Value) : Whole (((W.setCell ⟨g0 + 1, 0, none⟩ u).setCell ⟨g0 + 1, 1, none⟩ v).setCell ⟨g0 + 1, 2, none⟩ x) (g0 + 1) 51 #[u, v, x] := ((h.rs.set_ 0 _).set_ 1 _).set_ 2 _
end
end Go.Proofs.YteknmgmdmjmnmaaGreatDoor


