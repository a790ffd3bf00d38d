/- NodeF + NodeG -/
/- NodeH + EachSt + NodeJ + NodeI -/
/- NodeK + NodeL -/
/- TakeAt + NodeV -/
import Derived.Test.YtmohbkniekeafaaGreatDoorRNA
import Derived.Test.YtmohbkniekeafaaGreatDoorRA
import Derived.Laws.BytesArg
import Derived.Test.YtmohbkniekeafaaGreatDoorRTC
import Derived.Deep.RegionHeld3
import Derived.Test.YtmohbkniekeafaaGreatDoorRTA

namespace Go.Proofs.YtmohbkniekeafaaGreatDoor
open Go.RowKit

theorem ncheck_any (c : Int) (n : Nd) (A : Option Addr) (cc : Nat) (K : Option Addr) (kk : Nat) (w : World) (hN : Node w w.heap.size A cc K kk n) (hf : Fine n) :
    Calls Tryz.prog 107 #[.int .i64 c, ndV n A cc K kk] w fun e w' => e = .returned (codeE (chk 4 c n)) ∧ Below w.heap.size w w' := by
  have b0 : Below w.heap.size w (w.alloc (.cells #[hv n.t, .slice A n.v.length cc, .slice K n.ks.length kk] 76)) := (Below.refl _ _).alloc (Nat.le_refl _) _
  have h := check_all 4 c n 1 A cc K kk _ rfl (hN.on b0) hf
  simp only [Int.cast_ofNat_Int] at h
  generalize chk 4 c n = x at *
  unfold ndV at h ⊢
  go_enter Tryz.func107, Tryz.ntmps107
  go_wp2_with fail
  refine h.mono ?_
  rintro e w1 ⟨rfl, b1⟩
  go_wp2_with fail
  go_ret
  exact ⟨rfl, b0.trans (b1.mono (by simp))⟩

/-- the code of the first node that is not right, 0 if all are -/
def chkL (c : Int) (ns : List Nd) : Nat := fst0 (ns.map (chk 4 c))
end Go.Proofs.YtmohbkniekeafaaGreatDoor



namespace Go.Proofs.YtmohbkniekeafaaGreatDoor
open Go.RowKit

/-- so many inside, at whatever depth -/
inductive Few1 : Nd → Prop
  | mk {n : Nd} : n.ks.length ≤ 100000000 → (∀ k ∈ n.ks, Few1 k) → Few1 n
theorem Few1.kl {n : Nd} (h : Few1 n) : n.ks.length ≤ 100000000 := by cases h; assumption
theorem Few1.kid {n : Nd} (h : Few1 n) : ∀ k ∈ n.ks, Few1 k := by cases h; assumption
end Go.Proofs.YtmohbkniekeafaaGreatDoor





namespace Go.Proofs.YtmohbkniekeafaaGreatDoor
open Go.RowKit

def LiesS (w : World) (S : Nat → Prop) (A : Option Addr) (xs : List Value) : Prop :=
  xs ≠ [] → ∃ ad, A = some ad ∧ S ad.block ∧ ∀ j u, xs[j]? = some u → w.cell? (ad.add j) = some u
def IsBS (w : World) (S : Nat → Prop) (v : Value) (l : List UInt8) : Prop := ∃ A c, v = .slice A l.length c ∧ LiesS w S A (l.map bv) ∧ l.length ≤ c ∧ c ≤ maxLen
inductive NodesS (w : World) (S : Nat → Prop) : Option Addr → List Nd → Prop
  | mk {A : Option Addr} {ns : List Nd} (vs : List Value) (K : Nat → Option Addr) (c : Nat → Nat) (lies : LiesS w S A vs) (len : vs.length = ns.length * 3)
      (each : ∀ (i : Nat) (n : Nd), ns[i]? = some n → vs[i * 3]? = some (hv n.t) ∧ (∃ d, vs[i * 3 + 1]? = some d ∧ IsBS w S d n.v) ∧ vs[i * 3 + 2]? = some (.slice (K i) n.ks.length (c i)) ∧ n.ks.length ≤ c i ∧ c i ≤ maxLen)
      (kids : ∀ (i : Nat) (n : Nd), ns[i]? = some n → NodesS w S (K i) n.ks) : NodesS w S A ns
structure NodeS (w : World) (S : Nat → Prop) (A : Option Addr) (c : Nat) (K : Option Addr) (k : Nat) (n : Nd) : Prop where
  data : LiesS w S A (n.v.map bv)
  dc : n.v.length ≤ c
  dm : c ≤ maxLen
  kids : NodesS w S K n.ks
  kc : n.ks.length ≤ k
  km : k ≤ maxLen
/-- the cells of a row of nodes -/
structure Elems (w : World) (S : Nat → Prop) (us : List Value) (ns : List Nd) (K : Nat → Option Addr) (c : Nat → Nat) : Prop where
  len : us.length = ns.length * 3
  each : ∀ (i : Nat) (n : Nd), ns[i]? = some n → us[i * 3]? = some (hv n.t) ∧ (∃ d, us[i * 3 + 1]? = some d ∧ IsBS w S d n.v) ∧ us[i * 3 + 2]? = some (.slice (K i) n.ks.length (c i)) ∧ n.ks.length ≤ c i ∧ c i ≤ maxLen
  kids : ∀ (i : Nat) (n : Nd), ns[i]? = some n → NodesS w S (K i) n.ks
section
variable {w w' : World} {S S' : Nat → Prop} {A K : Option Addr} {c k B : Nat} {n : Nd} {ns : List Nd} {xs us : List Value} {v : Value} {l : List UInt8}
theorem LiesS.turn (h : LiesS w S A xs) (hk : ∀ p : Addr, S p.block → w'.cell? p = w.cell? p) (hs : ∀ b, S b → S' b) : LiesS w' S' A xs := fun hne => by
  obtain ⟨ad, h1, h2, h3⟩ := h hne
  exact ⟨ad, h1, hs _ h2, fun j u hu => (hk _ (by rw [blk_add]; exact h2)).trans (h3 j u hu)⟩
theorem LiesS.lies (h : LiesS w S A xs) (hs : ∀ b, S b → b < B) : Lies w B A xs := fun hne => by
  obtain ⟨ad, h1, h2, h3⟩ := h hne
  exact ⟨ad, h1, hs _ h2, h3⟩
theorem IsBS.turn (h : IsBS w S v l) (hk : ∀ p : Addr, S p.block → w'.cell? p = w.cell? p) (hs : ∀ b, S b → S' b) : IsBS w' S' v l := by
  obtain ⟨A, c, h1, h2, h3⟩ := h
  exact ⟨A, c, h1, h2.turn hk hs, h3⟩
theorem NodesS.turn (h : NodesS w S A ns) (hk : ∀ p : Addr, S p.block → w'.cell? p = w.cell? p) (hs : ∀ b, S b → S' b) : NodesS w' S' A ns := by
  induction h with
  | mk vs K c lies len each kids ih =>
    refine .mk vs K c (lies.turn hk hs) len (fun i n hn => ?_) ih
    obtain ⟨h1, ⟨d, h2, h3⟩, h6⟩ := each i n hn
    exact ⟨h1, ⟨d, h2, h3.turn hk hs⟩, h6⟩
theorem NodesS.nil (w : World) (S : Nat → Prop) (A : Option Addr) : NodesS w S A [] := .mk [] (fun _ => none) (fun _ => 0) (fun h => absurd rfl h) rfl (fun i n h => by simp at h) (fun i n h => by simp at h)
theorem NodeS.turn (h : NodeS w S A c K k n) (hk : ∀ p : Addr, S p.block → w'.cell? p = w.cell? p) (hs : ∀ b, S b → S' b) : NodeS w' S' A c K k n :=
  ⟨h.data.turn hk hs, h.dc, h.dm, h.kids.turn hk hs, h.kc, h.km⟩
variable {Ks : Nat → Option Addr} {cs : Nat → Nat}
theorem Elems.turn (h : Elems w S us ns Ks cs) (hk : ∀ p : Addr, S p.block → w'.cell? p = w.cell? p) (hs : ∀ b, S b → S' b) : Elems w' S' us ns Ks cs :=
  ⟨h.len, fun i n hn => by obtain ⟨h1, ⟨d, h2, h3⟩, h6⟩ := h.each i n hn; exact ⟨h1, ⟨d, h2, h3.turn hk hs⟩, h6⟩, fun i n hn => (h.kids i n hn).turn hk hs⟩
theorem Elems.nil (w : World) (S : Nat → Prop) : Elems w S [] [] (fun _ => none) (fun _ => 0) := ⟨rfl, fun i n h => by simp at h, fun i n h => by simp at h⟩
theorem Elems.snoc (h : Elems w S us ns Ks cs) (hN : NodeS w S A c K k n) :
    ∃ Ks' cs', Elems w S (us ++ [hv n.t, .slice A n.v.length c, .slice K n.ks.length k]) (ns ++ [n]) Ks' cs' := by
  have hl := h.len
  refine ⟨fun i => if i = ns.length then K else Ks i, fun i => if i = ns.length then k else cs i, by simp [hl]; omega, fun i m hm => ?_, fun i m hm => ?_⟩
  · rcases Nat.lt_or_ge i ns.length with hlt | hge
    · rw [List.getElem?_append_left hlt] at hm
      obtain ⟨h1, ⟨d, h2, h3⟩, h4, h5⟩ := h.each i m hm
      rw [List.getElem?_append_left (by omega), List.getElem?_append_left (by omega), List.getElem?_append_left (by omega)]
      simp only [show ¬ i = ns.length by omega, if_false]
      exact ⟨h1, ⟨d, h2, h3⟩, h4, h5⟩
    · rw [List.getElem?_append_right hge] at hm
      have hi : i = ns.length := by
        have := (List.getElem?_eq_some_iff.1 hm).1
        simp at this
        omega
      subst hi
      simp only [Nat.sub_self, List.getElem?_cons_zero, Option.some.injEq] at hm
      subst hm
      rw [List.getElem?_append_right (by omega), List.getElem?_append_right (by omega), List.getElem?_append_right (by omega), hl, Nat.sub_self, show ns.length * 3 + 1 - ns.length * 3 = 1 by omega, show ns.length * 3 + 2 - ns.length * 3 = 2 by omega]
      simp only [if_true]
      exact ⟨rfl, ⟨_, rfl, A, c, rfl, hN.data, hN.dc, hN.dm⟩, rfl, hN.kc, hN.km⟩
  · rcases Nat.lt_or_ge i ns.length with hlt | hge
    · rw [List.getElem?_append_left hlt] at hm
      simp only [show ¬ i = ns.length by omega, if_false]
      exact h.kids i m hm
    · rw [List.getElem?_append_right hge] at hm
      have hi : i = ns.length := by
        have := (List.getElem?_eq_some_iff.1 hm).1
        simp at this
        omega
      subst hi
      simp only [Nat.sub_self, List.getElem?_cons_zero, Option.some.injEq] at hm
      subst hm
      simp only [if_true]
      exact hN.kids
end

/-! ### a row of whatever elements that grows by one -/
/-- what a row of nodes of a call's own owns, with what lies behind its elements: no element lies in the row's own block -/
def RowS (L : Nat) (W : World) (v : Value) : Nat → Prop := fun b => L ≤ b ∧ b < W.heap.size ∧ some b ≠ v.ownBlock
structure NRow (W : World) (L : Nat) (v : Value) (ns : List Nd) : Prop where
  own : ∃ us, W.ownsRow L 76 3 v ns.length us ∧ ∃ Ks cs, Elems W (RowS L W v) us ns Ks cs
theorem own_below3 {w w' : World} {base e n : Nat} {v : Value} {xs : List Value} (h : w.ownsRow base e 3 v n xs) (hb : Below w.heap.size w w') : w'.ownsRow base e 3 v n xs := by
  refine ⟨h.1, ?_⟩
  rcases h.2 with h2 | ⟨g, cap, cur, rfl, h3, h4, h5⟩
  · exact .inl h2
  · exact .inr ⟨g, cap, cur, rfl, h3, (hb.block g (Array.getElem?_eq_some_iff.1 h4).1).trans h4, h5⟩
/-- nothing but the row's own block turned, and the row grew by a node that lies behind what was there -/
theorem NRow.grow {W W2 W3 : World} {L : Nat} {v v' : Value} {ns : List Nd} {us : List Value} {A K : Option Addr} {c k : Nat} {n : Nd} {Ks : Nat → Option Addr} {cs : Nat → Nat}
    (hrow : W.ownsRow L 76 3 v ns.length us) (hE : Elems W (RowS L W v) us ns Ks cs) (hLW : L ≤ W.heap.size) (hb : Below W.heap.size W W2) (hN : NodeS W2 (fun b => W.heap.size ≤ b ∧ b < W2.heap.size) A c K k n)
    (hg : W2.grownBy W3 v.ownBlock) (hown : W3.ownsRow L 76 3 v' (ns.length + 1) (us ++ [hv n.t, .slice A n.v.length c, .slice K n.ks.length k]))
    (hblk : (∃ q, W2.heap.size ≤ q ∧ v'.ownBlock = some q) ∨ (v'.ownBlock = v.ownBlock ∧ ∃ g, v.ownBlock = some g)) : NRow W3 L v' (ns ++ [n]) := by
  have hlt : ∀ g, v.ownBlock = some g → g < W.heap.size := fun g hg => (hrow.lt g hg).2
  have hkeep : ∀ p : Addr, p.block < W2.heap.size → some p.block ≠ v.ownBlock → W3.cell? p = W2.cell? p := fun p h1 h2 => World.cell?_of_block (hg.block p.block h1 h2)
  have hs : ∀ b, (b < W.heap.size ∧ some b ≠ v.ownBlock) ∨ (W.heap.size ≤ b ∧ b < W2.heap.size) → some b ≠ v'.ownBlock := by
    rintro b hb' e
    rcases hblk with ⟨q, h1, h2⟩ | ⟨h1, _⟩
    · rw [h2] at e
      simp only [Option.some.injEq] at e
      have := hb.size
      omega
    · rw [h1] at e
      rcases hb' with h3 | h3
      · exact h3.2 e
      · have := hlt b e.symm
        omega
  have hE3 : Elems W3 (RowS L W3 v') us ns Ks cs := hE.turn (fun p hp => by
      have h1 := hb.size
      exact (hkeep p (by have := hp.2.1; omega) hp.2.2).trans (hb.cell hp.2.1)) (fun b hb' => ⟨hb'.1, by have := hb'.2.1; have := hb.size; have := hg.size; omega, hs b (.inl hb'.2)⟩)
  have hN3 : NodeS W3 (RowS L W3 v') A c K k n := hN.turn (fun p hp => hkeep p hp.2 fun e => by have := hlt p.block e.symm; omega) (fun b hb' => ⟨by omega, by have := hg.size; omega, hs b (.inr hb')⟩)
  obtain ⟨Ks', cs', h⟩ := hE3.snoc hN3
  exact ⟨⟨_, by rw [List.length_append]; exact hown, Ks', cs', h⟩⟩
end Go.Proofs.YtmohbkniekeafaaGreatDoor




namespace Go.Proofs.YtmohbkniekeafaaGreatDoor
open Go.RowKit

/-- at whatever depth: not so many inside, and not so many bytes -/
inductive Few2 : Nd → Prop
  | mk {n : Nd} : n.ks.length ≤ 100000000 → n.v.length ≤ 140737488355328 → (∀ k ∈ n.ks, Few2 k) → Few2 n
theorem Few2.kl {n : Nd} (h : Few2 n) : n.ks.length ≤ 100000000 ∧ n.v.length ≤ 140737488355328 := by cases h; constructor <;> assumption
theorem Few2.kid {n : Nd} (h : Few2 n) : ∀ k ∈ n.ks, Few2 k := by cases h; assumption
end Go.Proofs.YtmohbkniekeafaaGreatDoor





namespace Go.Proofs.YtmohbkniekeafaaGreatDoor
open Go.RowKit

inductive PR where
  | ok (ns : List Nd)
  | bad (code at_ : Nat)
inductive NR where
  | ok (n : Nd)
  | bad (code at_ : Nat)
/-- how many bytes of a value are in front of the kids -/
def frontOf (c : Int) (t : UInt16) (n : Nat) : Nat := if (formOf c t).ki = 0 then n else (formOf c t).lo.toNat
/-- a node is read, where P reads lists -/
def rdStep (P : Int → List UInt8 → PR) (c : Int) (fr : Fr) : NR :=
  if fr.v.length < frontOf c fr.t fr.v.length ∨ fitK c fr.t (frontOf c fr.t fr.v.length) = false then .bad 7 0
  else if cntB c fr.t (fr.v.take (frontOf c fr.t fr.v.length)) = false then .bad 8 4
  else match P (ins (formOf c fr.t).ki).1 (fr.v.drop (frontOf c fr.t fr.v.length)) with
    | .bad code at_ => .bad code (at_ + (4 + frontOf c fr.t fr.v.length))
    | .ok kids => if insB (formOf c fr.t).ki kids = false then .bad 7 0 else .ok (.mk fr.t (fr.v.take (frontOf c fr.t fr.v.length)) kids)
/-- a list is read, where R reads nodes -/
def stepL (R : Fr → NR) : List (Nat × Fr) → PR
  | [] => .ok []
  | (k, f) :: rest => match R f with
    | .bad c a => .bad c (a + k)
    | .ok n => match stepL R rest with
      | .bad c a => .bad c a
      | .ok ns => .ok (n :: ns)
def pal (R : Fr → NR) (b : List UInt8) : PR := match spl b with
  | .bad c k => .bad c k
  | .ok _ => stepL R (yla b 0)
/-- a node is read (f: how much deeper the depth may be) -/
def rd : Nat → Int → Fr → NR
  | 0, _, _ => .bad 9 0
  | f + 1, c, fr => rdStep (fun c' b => pal (rd f c') b) c fr
def pa (f : Nat) (c : Int) (b : List UInt8) : PR := pal (rd f c) b
/-! ### the offsets lie in the bytes -/
end Go.Proofs.YtmohbkniekeafaaGreatDoor




namespace Go.Proofs.YtmohbkniekeafaaGreatDoor
open Go.RowKit

/-! ### how read and parse end -/
/-- the three variables of a reading: the frame, the result, the form -/
structure Box3 (W : World) (g0 g1 : Nat) (fr : Fr) (A : Option Addr) (cc : Nat) (F : Form) (lo : Int) : Prop where
  fb : Whole W g0 204 #[hv fr.t, .slice A fr.v.length cc]
  rs : Whole W (g0 + 1) 76 #[.int .u16 0, .slice none 0 0, .slice none 0 0]
  fo : Whole W g1 235 #[.int .i64 F.cl, hv F.ty, .string F.nm, .int .i64 lo, .int .i64 F.hi, .int .i64 F.un, .int .i64 F.ki]
section
variable {W W' : World} {g0 g1 : Nat} {fr : Fr} {A : Option Addr} {cc : Nat} {F : Form} {lo : Int}
theorem Box3.below (h : Box3 W g0 g1 fr A cc F lo) (hb : Below W.heap.size W W') : Box3 W' g0 g1 fr A cc F lo := ⟨h.fb.below hb h.fb.lt, h.rs.below hb h.rs.lt, h.fo.below hb h.fo.lt⟩
theorem Box3.c0 (h : Box3 W g0 g1 fr A cc F lo) : W.cell? ⟨g0, 0, none⟩ = some (hv fr.t) := by rw [h.fb.cell]; rfl
theorem Box3.c1 (h : Box3 W g0 g1 fr A cc F lo) : W.cell? ⟨g0, 1, none⟩ = some (.slice A fr.v.length cc) := by rw [h.fb.cell]; rfl
theorem Box3.k0 (h : Box3 W g0 g1 fr A cc F lo) : W.cell? ⟨g1, 0, none⟩ = some (.int .i64 F.cl) := by rw [h.fo.cell]; rfl
theorem Box3.k1 (h : Box3 W g0 g1 fr A cc F lo) : W.cell? ⟨g1, 1, none⟩ = some (hv F.ty) := by rw [h.fo.cell]; rfl
theorem Box3.k2 (h : Box3 W g0 g1 fr A cc F lo) : W.cell? ⟨g1, 2, none⟩ = some (.string F.nm) := by rw [h.fo.cell]; rfl
theorem Box3.k3 (h : Box3 W g0 g1 fr A cc F lo) : W.cell? ⟨g1, 3, none⟩ = some (.int .i64 lo) := by rw [h.fo.cell]; rfl
theorem Box3.k4 (h : Box3 W g0 g1 fr A cc F lo) : W.cell? ⟨g1, 4, none⟩ = some (.int .i64 F.hi) := by rw [h.fo.cell]; rfl
theorem Box3.k5 (h : Box3 W g0 g1 fr A cc F lo) : W.cell? ⟨g1, 5, none⟩ = some (.int .i64 F.un) := by rw [h.fo.cell]; rfl
theorem Box3.k6 (h : Box3 W g0 g1 fr A cc F lo) : W.cell? ⟨g1, 6, none⟩ = some (.int .i64 F.ki) := by rw [h.fo.cell]; rfl
theorem Box3.set (h : Box3 W g0 g1 fr A cc F lo) (u v x : Value) : Whole (((W.setCell ⟨g0 + 1, 0, none⟩ u).setCell ⟨g0 + 1, 1, none⟩ v).setCell ⟨g0 + 1, 2, none⟩ x) (g0 + 1) 76 #[u, v, x] := ((h.rs.set_ 0 _).set_ 1 _).set_ 2 _
end
end Go.Proofs.YtmohbkniekeafaaGreatDoor




namespace Go.Proofs.YtmohbkniekeafaaGreatDoor
theorem take_at {P : Program} {ops : Array Oper} {Q : Exit → Act → World → Prop} {md : Region.Mode} {S : World → Prop} {i : Nat} {oi : Oper} {v : Value} {fuel : Nat} {listed : Array Bool} {a : Act} {w : World} (d : Option Tmp) (hi : ops[i]? = some oi)
    (hs : Region.noSelect ops = true) (hf : Region.free md ops listed i = true) (hr : (Region.ready md ops listed).contains i = true)
    (hQ : ∀ c a w, Q (.panic c) (a.put d v) w → Q (.panic c) a w) (hd : oi.dst = d) (hy : YieldsIf P ops S oi v a) (hS : S w)
    (h : wpAnyH P md ops Q S fuel (listed.setIfInBounds i true) (a.put d v) w) : wpAnyH P md ops Q S (fuel + 1) listed a w := by
  subst hd
  exact wpAnyH_take hi hs hf hr hQ hy hS h
end Go.Proofs.YtmohbkniekeafaaGreatDoor


