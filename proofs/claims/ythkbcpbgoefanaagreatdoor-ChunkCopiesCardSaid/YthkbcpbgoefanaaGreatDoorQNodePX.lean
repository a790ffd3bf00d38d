/- NodePB + NodePC + NodePD -/
import Derived.Test.YthkbcpbgoefanaaGreatDoorQNodePQ
import Derived.Test.YthkbcpbgoefanaaGreatDoorQNodeRAC
import Derived.Test.YthkbcpbgoefanaaGreatDoorQNodeTV
import Derived.Test.YthkbcpbgoefanaaGreatDoorQSplitR
import Derived.Deep.Cut

namespace Go.Proofs.YthkbcpbgoefanaaGreatDoor
open Go.RowKit

inductive All2 {α β : Type} (Q : α → β → Prop) : List α → List β → Prop
  | nil : All2 Q [] []
  | cons {a : α} {b : β} {l : List α} {m : List β} : Q a b → All2 Q l m → All2 Q (a :: l) (b :: m)
theorem stepL_back {R : Fr → NR} {Q : Fr → Nd → Prop} : ∀ (l : List (Nat × Fr)) (ns : List Nd), stepL R l = .ok ns → (∀ p ∈ l, ∀ n, R p.2 = .ok n → Q p.2 n) → All2 (fun p n => Q (Prod.snd p) n) l ns
  | [], ns, h, _ => by
    simp only [stepL, PR.ok.injEq] at h
    subst h
    exact .nil
  | (k, f) :: l, ns, h, hq => by
    simp only [stepL] at h
    cases hr : R f with
    | bad c a => rw [hr] at h; cases h
    | ok n =>
      rw [hr] at h
      simp only at h
      cases hs : stepL R l with
      | bad c a => rw [hs] at h; cases h
      | ok ms =>
        rw [hs] at h
        simp only [PR.ok.injEq] at h
        subst h
        exact .cons (hq (k, f) (by simp) n hr) (stepL_back l ms hs fun p hp => hq p (by simp [hp]))
theorem frs_of {l : List (Nat × Fr)} {ns : List Nd} {P : Nd → Prop} (h : All2 (fun p n => n.fr = Prod.snd p ∧ P n) l ns) : frs ns = l.map Prod.snd ∧ ∀ n ∈ ns, P n := by
  induction h with
  | nil => exact ⟨rfl, by simp⟩
  | cons h1 _ ih =>
    refine ⟨?_, fun n hn => ?_⟩
    · rw [frs, List.map_cons, ih.1]
      congr 1
      exact h1.1
    · rcases List.mem_cons.1 hn with rfl | hn
      · exact h1.2
      · exact ih.2 n hn
theorem pal_back {R : Fr → NR} {P : Nd → Prop} {b : List UInt8} {ns : List Nd} (h : pal R b = .ok ns) (hR : ∀ fr n, Fit fr → R fr = .ok n → n.fr = fr ∧ P n) : jn (frs ns) = b ∧ ∀ n ∈ ns, P n := by
  unfold pal at h
  cases hs : spl b with
  | bad c k => rw [hs] at h; cases h
  | ok fs =>
    rw [hs] at h
    simp only at h
    obtain ⟨h1, h2⟩ := spl_back hs
    have h3 : (yla b 0).map Prod.snd = fs := by
      unfold spl at hs
      split at hs
      · simpa using hs
      · split at hs <;> cases hs
    have h4 := stepL_back (Q := fun fr n => n.fr = fr ∧ P n) _ _ h fun p hp n hn => hR p.2 n (h2 p.2 (by rw [← h3]; exact List.mem_map.2 ⟨p, hp, rfl⟩)) hn
    obtain ⟨h5, h6⟩ := frs_of h4
    exact ⟨by rw [h5, h3, h1], h6⟩
theorem rd_back : ∀ (f : Nat) (c : Int) (fr : Fr) (n : Nd), Fit fr → rd f c fr = .ok n → n.fr = fr ∧ chk f c n = 0 := by
  intro f
  induction f with
  | zero => intro c fr n _ h; cases h
  | succ f ih =>
    intro c fr n hf h
    rw [rd_succ] at h
    unfold rdStep at h
    split at h
    · cases h
    rename_i h1
    split at h
    · cases h
    rename_i h2
    cases hp : pa f (ins (formOf c fr.t).ki).1 (fr.v.drop (frontOf c fr.t fr.v.length)) with
    | bad code a => rw [hp] at h; cases h
    | ok kids =>
      rw [hp] at h
      simp only at h
      split at h
      · cases h
      rename_i h3
      simp only [NR.ok.injEq] at h
      subst h
      have hq := pal_back (P := fun n => chk f (ins (formOf c fr.t).ki).1 n = 0) hp fun fr' n' hf' hr => ih _ fr' n' hf' hr
      have hle : frontOf c fr.t fr.v.length ≤ fr.v.length := Nat.not_lt.1 fun h9 => h1 (.inl h9)
      have hfr : (Nd.mk fr.t (fr.v.take (frontOf c fr.t fr.v.length)) kids).fr = fr := by
        cases fr with
        | mk t v =>
          show Fr.mk t (Nd.val _) = _
          rw [Nd.val_eq]
          show Fr.mk t (v.take _ ++ jn (frs kids)) = _
          rw [hq.1, List.take_append_drop]
      refine ⟨hfr, ?_⟩
      have hv : (Nd.mk fr.t (fr.v.take (frontOf c fr.t fr.v.length)) kids).vlen = fr.v.length := by
        rw [← val_len]
        have := congrArg Fr.v hfr
        exact congrArg List.length this
      have hfit : fitK c fr.t (frontOf c fr.t fr.v.length) = true := by
        cases hq2 : fitK c fr.t (frontOf c fr.t fr.v.length) with
        | true => rfl
        | false => exact absurd (.inr hq2) h1
      have htl : (fr.v.take (frontOf c fr.t fr.v.length)).length = frontOf c fr.t fr.v.length := by rw [List.length_take]; omega
      have hz : fst0 (kids.map (chk f (ins (formOf c fr.t).ki).1)) = 0 := fst0_none fun j y hj hy => by
        rw [List.getElem?_map] at hy
        obtain ⟨m, hm, rfl⟩ := Option.map_eq_some_iff.1 hy
        exact hq.2 m (List.mem_of_getElem? hm)
      unfold Fit at hf
      generalize hN : Nd.mk fr.t (fr.v.take (frontOf c fr.t fr.v.length)) kids = N at *
      have e1 : N.t = fr.t := by rw [← hN]; rfl
      have e2 : N.v = fr.v.take (frontOf c fr.t fr.v.length) := by rw [← hN]; rfl
      have e3 : N.ks = kids := by rw [← hN]; rfl
      rw [chk_succ, hv, e1, e2, e3, htl, hfit, if_neg (by simpa using h3), if_neg h2, hz, if_neg (by simp), if_neg (by omega)]
theorem pa_back {f : Nat} {c : Int} {b : List UInt8} {ns : List Nd} (h : pa f c b = .ok ns) : jn (frs ns) = b ∧ ∀ n ∈ ns, chk f c n = 0 :=
  pal_back h fun fr n hf hr => rd_back f c fr n hf hr
end Go.Proofs.YthkbcpbgoefanaaGreatDoor






namespace Go.Proofs.YthkbcpbgoefanaaGreatDoor
open Go.RowKit

/-! ### a row of nodes whose data lie below B, what is inside from X on -/
def RowF (B X : Nat) (W : World) (v : Value) : Nat → Prop := fun b => (b < B ∨ X ≤ b) ∧ b < W.heap.size ∧ some b ≠ v.ownBlock
structure NRowF (B X : Nat) (W : World) (v : Value) (ns : List Nd) : Prop where
  own : ∃ us, W.ownsRow X 50 3 v ns.length us ∧ ∃ Ks cs, Elems W (RowF B X W v) us ns Ks cs
theorem NRowF.nil (B X : Nat) (W : World) : NRowF B X W (.slice none 0 0) [] := ⟨[], World.ownsRow_nil _ _ _ _, _, _, Elems.nil _ _⟩
theorem NRowF.below {B X : Nat} {W W2 : World} {v : Value} {ns : List Nd} (h : NRowF B X W v ns) (hb : Below W.heap.size W W2) : NRowF B X W2 v ns := by
  obtain ⟨us, h1, Ks, cs, h2⟩ := h.own
  exact ⟨us, own_below3 h1 hb, Ks, cs, h2.turn (fun p hp => hb.cell hp.2.1) fun b hb' => ⟨hb'.1, Nat.lt_of_lt_of_le hb'.2.1 hb.size, hb'.2.2⟩⟩
/-- a store into a block between B and X -/
theorem NRowF.setCell {B X : Nat} {W : World} {v : Value} {ns : List Nd} (h : NRowF B X W v ns) {g : Nat} (h1 : B ≤ g) (h2 : g < X) (i : Nat) (u : Value) : NRowF B X (W.setCell ⟨g, i, none⟩ u) v ns := by
  obtain ⟨us, h3, Ks, cs, h4⟩ := h.own
  refine ⟨us, h3.kept (grownBy_setCell1 _ _ _ _) (.inr fun e => ?_), Ks, cs, h4.turn (fun p hp => ?_) fun b hb' => ⟨hb'.1, by simpa [World.setCell] using hb'.2.1, hb'.2.2⟩⟩
  · have := (h3.lt g e).1
    omega
  · refine World.cell?_setCell_other _ _ _ _ (fun e => ?_)
    rw [← e] at hp
    have := hp.1
    simp only at this
    omega
theorem NRowF.nodesS {B X : Nat} {W : World} {A : Option Addr} {c : Nat} {ns : List Nd} (h : NRowF B X W (.slice A ns.length c) ns) : NodesS W (fun b => b < B ∨ (X ≤ b ∧ b < W.heap.size)) A ns ∧ ns.length ≤ c ∧ c ≤ maxLen := by
  obtain ⟨us, h1, Ks, cs, h2⟩ := h.own
  exact ⟨(h2.turn (fun _ _ => rfl) fun b hb => by rcases hb.1 with h3 | h3; (exact .inl h3); (exact .inr ⟨h3, hb.2.1⟩)).nodesS ((lies_own3 h1).turn (fun _ _ => rfl) fun b hb => .inr hb), own_cap3 h1⟩
theorem NRowF.grow {B X : Nat} {W W3 : World} {v v' : Value} {ns : List Nd} {us : List Value} {A K : Option Addr} {c k : Nat} {n : Nd} {Ks : Nat → Option Addr} {cs : Nat → Nat}
    (_hrow : W.ownsRow X 50 3 v ns.length us) (hE : Elems W (RowF B X W v) us ns Ks cs) (hN : NodeS W (RowF B X W v) A c K k n)
    (hg : W.grownBy W3 v.ownBlock) (hown : W3.ownsRow X 50 3 v' (ns.length + 1) (us ++ [hv n.t, .slice A n.v.length c, .slice K n.ks.length k]))
    (hblk : v'.ownBlock = some W.heap.size ∨ (v'.ownBlock = v.ownBlock ∧ ∃ g, v.ownBlock = some g)) : NRowF B X W3 v' (ns ++ [n]) := by
  have hkeep : ∀ p : Addr, p.block < W.heap.size → some p.block ≠ v.ownBlock → W3.cell? p = W.cell? p := fun p h1 h2 => World.cell?_of_block (hg.block p.block h1 h2)
  have hs : ∀ b, RowF B X W v b → RowF B X W3 v' b := fun b hb => ⟨hb.1, Nat.lt_of_lt_of_le hb.2.1 hg.size, by
    rcases hblk with h1 | ⟨h1, _⟩
    · rw [h1]
      intro e
      simp only [Option.some.injEq] at e
      have := hb.2.1
      omega
    · rw [h1]; exact hb.2.2⟩
  obtain ⟨Ks', cs', h⟩ := (hE.turn (fun p hp => hkeep p hp.2.1 hp.2.2) hs).snoc (hN.turn (fun p hp => hkeep p hp.2.1 hp.2.2) hs)
  exact ⟨_, by rw [List.length_append]; exact hown, Ks', cs', h⟩

theorem split_at {α : Type} {l : List α} {k : Nat} {x : α} (h : l[k]? = some x) : l = l.take k ++ x :: l.drop (k + 1) := by
  obtain ⟨hk, rfl⟩ := List.getElem?_eq_some_iff.1 h
  rw [← List.drop_eq_getElem_cons hk, List.take_append_drop]
/-- how Parse ends -/
def RP (w : World) (B : Nat) (r : PR) (at_ : Nat) (e : Ending) (w' : World) : Prop := Below w.heap.size w w' ∧
  (match r with
   | .ok ns => ∃ A' c', e = .returned (.agg #[.slice A' ns.length c', .int .i64 0, .int .i64 0]) ∧ NodesS w' (fun x => x < B ∨ (w.heap.size ≤ x ∧ x < w'.heap.size)) A' ns ∧ ns.length ≤ c' ∧ c' ≤ maxLen
   | .bad code k => e = .returned (.agg #[.slice none 0 0, .int .i64 (code : Int), .int .i64 ((at_ + k : Nat) : Int)]))
def RParseOK (f : Nat) : Prop := ∀ (c : Int) (b : List UInt8) (at_ d B : Nat) (A : Option Addr) (cc : Nat) (w : World), d + f = 5 → (c = 1 ∨ c = 2) → B ≤ w.heap.size → Lies w B A (b.map bv) → b.length ≤ cc → cc ≤ maxLen → b.length ≤ 100000 → at_ + b.length ≤ 1000000 →
  Calls Tryz.prog 76 #[.int .i64 c, .slice A b.length cc, .int .i64 (at_ : Int), .int .i64 (d : Int)] w (RP w B (pa f c b) at_)
theorem spl_code {b : List UInt8} {code k : Nat} (h : spl b = .bad code k) : code ≠ 0 := by
  unfold spl at h
  split at h
  · cases h
  · split at h <;> cases h <;> simp
theorem stepL_code {R : Fr → NR} (hR : ∀ fr code a, R fr = .bad code a → code ≠ 0) {code : Nat} : ∀ (l : List (Nat × Fr)) (a : Nat), stepL R l = .bad code a → code ≠ 0
  | [], a, h => by cases h
  | (k, fr) :: l, a, h => by
    simp only [stepL] at h
    cases hr : R fr with
    | bad c2 a2 =>
      rw [hr] at h
      simp only [PR.bad.injEq] at h
      rw [← h.1]
      exact hR fr c2 a2 hr
    | ok n =>
      rw [hr] at h
      simp only at h
      cases hs2 : stepL R l with
      | bad c2 a2 =>
        rw [hs2] at h
        simp only [PR.bad.injEq] at h
        obtain ⟨rfl, _⟩ := h
        exact stepL_code hR l a2 hs2
      | ok ms => rw [hs2] at h; cases h
theorem pal_code {R : Fr → NR} (hR : ∀ fr code a, R fr = .bad code a → code ≠ 0) {b : List UInt8} {code a : Nat} (h : pal R b = .bad code a) : code ≠ 0 := by
  unfold pal at h
  cases hs : spl b with
  | bad c2 k => rw [hs] at h; cases h; exact spl_code hs
  | ok fs =>
    rw [hs] at h
    exact stepL_code hR _ a h
theorem rd_code : ∀ (f : Nat) (c : Int) (fr : Fr) (code a : Nat), rd f c fr = .bad code a → code ≠ 0 := by
  intro f
  induction f with
  | zero => intro c fr code a h; cases h; simp
  | succ f ih =>
    intro c fr code a h
    rw [rd_succ] at h
    unfold rdStep at h
    split at h
    · cases h; simp
    · split at h
      · cases h; simp
      · split at h
        · rename_i hp
          cases h
          exact pal_code (fun fr code a hr => ih _ fr code a hr) hp
        · split at h
          · cases h; simp
          · cases h
theorem pa_code {f : Nat} {c : Int} {b : List UInt8} {code a : Nat} (h : pa f c b = .bad code a) : code ≠ 0 := pal_code (rd_code f c) h
theorem stepL_len {R : Fr → NR} : ∀ (l : List (Nat × Fr)) (ns : List Nd), stepL R l = .ok ns → ns.length = l.length
  | [], ns, h => by simp only [stepL, PR.ok.injEq] at h; subst h; rfl
  | (k, fr) :: l, ns, h => by
    simp only [stepL] at h
    cases hr : R fr with
    | bad c a => rw [hr] at h; cases h
    | ok n =>
      rw [hr] at h
      simp only at h
      cases hs : stepL R l with
      | bad c a => rw [hs] at h; cases h
      | ok ms =>
        rw [hs] at h
        simp only [PR.ok.injEq] at h
        subst h
        simp [stepL_len l ms hs]
theorem pa_len {f : Nat} {c : Int} {b : List UInt8} {ns : List Nd} (h : pa f c b = .ok ns) : ns.length ≤ b.length := by
  unfold pa pal at h
  cases hs : spl b with
  | bad c2 k => rw [hs] at h; cases h
  | ok fs =>
    rw [hs] at h
    rw [stepL_len _ _ h]
    exact yla_len b b.length 0 (by omega)
theorem pa_nil (f : Nat) (c : Int) : pa f c [] = .ok [] := pa_good f c [] (by simp)
section
variable {g : Nat} {c : Int} {fr : Fr} {l0 : Nat} {F : Form}
theorem rd_leaf (hF : formOf c fr.t = F) (hk : F.ki = 0) (hfit : fitK c fr.t fr.v.length = true) (hcn : cntB c fr.t fr.v = true) : rdStep (pa g) c fr = .ok (.mk fr.t fr.v []) := by
  have hfro : frontOf c fr.t fr.v.length = fr.v.length := by unfold frontOf; rw [hF, if_pos hk]
  unfold rdStep
  rw [hfro, List.take_length, List.drop_length, hF, hk, pa_nil, if_neg (by rw [hfit]; simp), if_neg (by rw [hcn]; simp)]
  simp [show insB 0 [] = true by decide]
theorem rd_leaf7 (hF : formOf c fr.t = F) (hk : F.ki = 0) (hfit : fitK c fr.t fr.v.length = false) : rdStep (pa g) c fr = .bad 7 0 := by
  have hfro : frontOf c fr.t fr.v.length = fr.v.length := by unfold frontOf; rw [hF, if_pos hk]
  unfold rdStep
  rw [hfro, if_pos (.inr hfit)]
theorem rd_leaf8 (hF : formOf c fr.t = F) (hk : F.ki = 0) (hfit : fitK c fr.t fr.v.length = true) (hcn : cntB c fr.t fr.v = false) : rdStep (pa g) c fr = .bad 8 4 := by
  have hfro : frontOf c fr.t fr.v.length = fr.v.length := by unfold frontOf; rw [hF, if_pos hk]
  unfold rdStep
  rw [hfro, List.take_length, if_neg (by rw [hfit]; simp), if_pos hcn]
theorem front_kid (hF : formOf c fr.t = F) (hk : F.ki ≠ 0) (hlo : F.lo = (l0 : Int)) (n : Nat) : frontOf c fr.t n = l0 := by
  unfold frontOf
  rw [hF, if_neg hk, hlo]
  rfl
theorem rd_kid7 (hF : formOf c fr.t = F) (hk : F.ki ≠ 0) (hlo : F.lo = (l0 : Int)) (h : fr.v.length < l0) : rdStep (pa g) c fr = .bad 7 0 := by
  unfold rdStep
  rw [front_kid hF hk hlo, if_pos (.inl h)]
theorem rd_kidbad (hF : formOf c fr.t = F) (hk : F.ki ≠ 0) (hlo : F.lo = (l0 : Int)) (h : l0 ≤ fr.v.length) (hfit : fitK c fr.t l0 = true) (hcn : cntB c fr.t (fr.v.take l0) = true) {code a : Nat} (hp : pa g (ins F.ki).1 (fr.v.drop l0) = .bad code a) :
    rdStep (pa g) c fr = .bad code (a + (4 + l0)) := by
  unfold rdStep
  rw [front_kid hF hk hlo, if_neg (by rw [hfit]; simp; omega), if_neg (by rw [hcn]; simp), hF, hp]
theorem rd_kid7b (hF : formOf c fr.t = F) (hk : F.ki ≠ 0) (hlo : F.lo = (l0 : Int)) (h : l0 ≤ fr.v.length) (hfit : fitK c fr.t l0 = true) (hcn : cntB c fr.t (fr.v.take l0) = true) {kids : List Nd} (hp : pa g (ins F.ki).1 (fr.v.drop l0) = .ok kids) (hi : insB F.ki kids = false) :
    rdStep (pa g) c fr = .bad 7 0 := by
  unfold rdStep
  rw [front_kid hF hk hlo, if_neg (by rw [hfit]; simp; omega), if_neg (by rw [hcn]; simp), hF, hp]
  simp [hi]
theorem rd_kidok (hF : formOf c fr.t = F) (hk : F.ki ≠ 0) (hlo : F.lo = (l0 : Int)) (h : l0 ≤ fr.v.length) (hfit : fitK c fr.t l0 = true) (hcn : cntB c fr.t (fr.v.take l0) = true) {kids : List Nd} (hp : pa g (ins F.ki).1 (fr.v.drop l0) = .ok kids) (hi : insB F.ki kids = true) :
    rdStep (pa g) c fr = .ok (.mk fr.t (fr.v.take l0) kids) := by
  unfold rdStep
  rw [front_kid hF hk hlo, if_neg (by rw [hfit]; simp; omega), if_neg (by rw [hcn]; simp), hF, hp]
  simp [hi]
end
theorem fits_lo {c : Int} {F : Form} {l0 : Nat} (h : F ∈ tab c) (hk : F.ki ≠ 0) (hlo : F.lo = (l0 : Int)) : fitsB F (l0 : Int) = true ∧ ∀ n : Nat, n < l0 → fitsB F (n : Int) = false := by
  have h1 := fixB h hk
  refine ⟨?_, fun n hn => ?_⟩
  · unfold fitsB
    rw [← hlo]
    simp [h1]
  · unfold fitsB
    rw [decide_eq_false (show ¬ F.lo ≤ (n : Int) by omega)]
    rfl
/-- the new element of the list -/
theorem nodeS_of {B X Y : Nat} {W : World} {v : Value} {ns : List Nd} {Ad Kd : Option Addr} {cd kc : Nat} {t : UInt16} {V : List UInt8} {KS : List Nd} (hrow : NRowF B X W v ns) (hBX : B ≤ X) (hXW : X ≤ W.heap.size) (hd : Lies W B Ad (V.map bv)) (dc : V.length ≤ cd) (dm : cd ≤ maxLen)
    (hk : NodesS W (fun x => x < B ∨ (Y ≤ x ∧ x < W.heap.size)) Kd KS) (hY : ∀ g, v.ownBlock = some g → g < Y) (hXY : X ≤ Y) (kc' : KS.length ≤ kc) (km : kc ≤ maxLen) : NodeS W (RowF B X W v) Ad cd Kd kc (.mk t V KS) := by
  obtain ⟨us, hown, _⟩ := hrow.own
  have hge : ∀ g, v.ownBlock = some g → X ≤ g := fun g hg => (hown.lt g hg).1
  have hs : ∀ x, x < B → RowF B X W v x := fun x hx => ⟨.inl hx, by omega, fun e => by have := hge x e.symm; omega⟩
  refine ⟨fun hne => ?_, dc, dm, hk.turn (fun _ _ => rfl) (fun x hx => ?_), kc', km⟩
  · obtain ⟨ad, h1, h2, h3⟩ := hd hne
    exact ⟨ad, h1, hs _ h2, h3⟩
  · rcases hx with hx | hx
    · exact hs x hx
    · exact ⟨.inr (by omega), hx.2, fun e => by have := hY x e.symm; omega⟩
theorem NRowF.push {B X : Nat} {W W3 : World} {v v' : Value} {ns : List Nd} {us : List Value} {A K : Option Addr} {c k : Nat} {n : Nd} {Ks : Nat → Option Addr} {cs : Nat → Nat} (o : Obj)
    (hrow : W.ownsRow X 50 3 v ns.length us) (hE : Elems W (RowF B X W v) us ns Ks cs) (hN : NodeS W (RowF B X W v) A c K k n)
    (hg : (W.alloc o).grownBy W3 v.ownBlock) (hown : W3.ownsRow X 50 3 v' (ns.length + 1) (us ++ [hv n.t, .slice A n.v.length c, .slice K n.ks.length k]))
    (hblk : v'.ownBlock = some (W.alloc o).heap.size ∨ (v'.ownBlock = v.ownBlock ∧ ∃ g, v.ownBlock = some g)) : NRowF B X W3 v' (ns ++ [n]) := by
  have hs : ∀ b, RowF B X W v b → RowF B X (W.alloc o) v b := fun b hb => ⟨hb.1, by rw [World.size_alloc]; have := hb.2.1; omega, hb.2.2⟩
  exact NRowF.grow (hrow.alloc o) (hE.turn (fun p hp => World.cell?_alloc_lt _ _ _ hp.2.1) hs) (hN.turn (fun p hp => World.cell?_alloc_lt _ _ _ hp.2.1) hs) hg hown hblk
theorem kids_set {W9 : World} {B g : Nat} {A : Option Addr} {ks : List Nd} {Z : Nat} (h : NodesS W9 (fun x => x < B ∨ (Z ≤ x ∧ x < W9.heap.size)) A ks) (hB : B < g) {u v x : Value} (hZ : Z = g + 1 := by simp) :
    NodesS (((W9.setCell ⟨g, 0, none⟩ u).setCell ⟨g, 1, none⟩ v).setCell ⟨g, 2, none⟩ x) (fun y => y < B ∨ (g ≤ y ∧ y < (((W9.setCell ⟨g, 0, none⟩ u).setCell ⟨g, 1, none⟩ v).setCell ⟨g, 2, none⟩ x).heap.size)) A ks := by
  refine h.turn (fun p hp => ?_) (fun y hy => ?_)
  · have hne : ∀ i, (⟨g, i, none⟩ : Addr) ≠ p := fun i e => by rw [← e] at hp; rcases hp with hp | hp <;> simp only at hp <;> omega
    rw [World.cell?_setCell_other _ _ _ _ (hne 2), World.cell?_setCell_other _ _ _ _ (hne 1), World.cell?_setCell_other _ _ _ _ (hne 0)]
  · rcases hy with hy | hy
    · exact .inl hy
    · refine .inr ⟨by omega, ?_⟩
      simp [World.setCell]
      omega
theorem kids_alloc {W9 : World} {B G : Nat} {A : Option Addr} {ks : List Nd} {Z : Nat} (h : NodesS W9 (fun x => x < B ∨ (Z ≤ x ∧ x < W9.heap.size)) A ks) (hB : B ≤ W9.heap.size) (o : Obj) (hZ : Z = G := by simp) :
    NodesS (W9.alloc o) (fun y => y < B ∨ (G ≤ y ∧ y < (W9.alloc o).heap.size)) A ks := by
  refine h.turn (fun p hp => World.cell?_alloc_lt _ _ _ (by rcases hp with hp | hp <;> omega)) (fun y hy => ?_)
  rw [World.size_alloc]
  rcases hy with hy | hy
  · exact .inl hy
  · exact .inr ⟨by omega, by omega⟩
theorem kids_far {W9 : World} {B G g : Nat} {A : Option Addr} {ks : List Nd} (h : NodesS W9 (fun x => x < B ∨ (G ≤ x ∧ x < W9.heap.size)) A ks) (hB : B ≤ g) (hg : g < G) (i : Nat) (u : Value) :
    NodesS (W9.setCell ⟨g, i, none⟩ u) (fun y => y < B ∨ (G ≤ y ∧ y < (W9.setCell ⟨g, i, none⟩ u).heap.size)) A ks := by
  refine h.turn (fun p hp => ?_) (fun y hy => ?_)
  · refine World.cell?_setCell_other _ _ _ _ (fun e => ?_)
    rw [← e] at hp
    rcases hp with hp | hp <;> simp only at hp <;> omega
  · rcases hy with hy | hy
    · exact .inl hy
    · refine .inr ⟨hy.1, ?_⟩
      simp [World.setCell]
      omega
/-- the variables of a round: the result, the frames, the list so far, the node, its form -/
structure PBx (W : World) (g8 g9 g10 g14 g15 : Nat) (v9 v10 : Array Value) (t : UInt16) (Ad : Option Addr) (m cd : Nat) (Kd : Option Addr) (kn kc : Nat) (F : Form) (l0 : Nat) : Prop where
  b8 : Whole W g8 111 #[.slice none 0 0, .int .i64 0, .int .i64 0]
  b9 : Whole W g9 166 v9
  b10 : Whole W g10 111 v10
  b14 : Whole W g14 50 #[hv t, .slice Ad m cd, .slice Kd kn kc]
  b15 : Whole W g15 170 #[.int .i64 F.cl, hv F.ty, .string F.nm, .int .i64 (l0 : Int), .int .i64 F.hi, .int .i64 F.un, .int .i64 F.ki]
section
variable {W W2 : World} {g8 g9 g10 g14 g15 : Nat} {v9 v10 : Array Value} {t : UInt16} {Ad : Option Addr} {m cd : Nat} {Kd : Option Addr} {kn kc : Nat} {F : Form} {l0 : Nat}
theorem PBx.below (h : PBx W g8 g9 g10 g14 g15 v9 v10 t Ad m cd Kd kn kc F l0) (hb : Below W.heap.size W W2) : PBx W2 g8 g9 g10 g14 g15 v9 v10 t Ad m cd Kd kn kc F l0 :=
  ⟨h.b8.below hb h.b8.lt, h.b9.below hb h.b9.lt, h.b10.below hb h.b10.lt, h.b14.below hb h.b14.lt, h.b15.below hb h.b15.lt⟩
theorem PBx.n0 (h : PBx W g8 g9 g10 g14 g15 v9 v10 t Ad m cd Kd kn kc F l0) : W.cell? ⟨g14, 0, none⟩ = some (hv t) := by rw [h.b14.cell]; rfl
theorem PBx.n1 (h : PBx W g8 g9 g10 g14 g15 v9 v10 t Ad m cd Kd kn kc F l0) : W.cell? ⟨g14, 1, none⟩ = some (.slice Ad m cd) := by rw [h.b14.cell]; rfl
theorem PBx.n2 (h : PBx W g8 g9 g10 g14 g15 v9 v10 t Ad m cd Kd kn kc F l0) : W.cell? ⟨g14, 2, none⟩ = some (.slice Kd kn kc) := by rw [h.b14.cell]; rfl
theorem PBx.f0 (h : PBx W g8 g9 g10 g14 g15 v9 v10 t Ad m cd Kd kn kc F l0) : W.cell? ⟨g15, 0, none⟩ = some (.int .i64 F.cl) := by rw [h.b15.cell]; rfl
theorem PBx.f1 (h : PBx W g8 g9 g10 g14 g15 v9 v10 t Ad m cd Kd kn kc F l0) : W.cell? ⟨g15, 1, none⟩ = some (hv F.ty) := by rw [h.b15.cell]; rfl
theorem PBx.f2 (h : PBx W g8 g9 g10 g14 g15 v9 v10 t Ad m cd Kd kn kc F l0) : W.cell? ⟨g15, 2, none⟩ = some (.string F.nm) := by rw [h.b15.cell]; rfl
theorem PBx.f3 (h : PBx W g8 g9 g10 g14 g15 v9 v10 t Ad m cd Kd kn kc F l0) : W.cell? ⟨g15, 3, none⟩ = some (.int .i64 (l0 : Int)) := by rw [h.b15.cell]; rfl
theorem PBx.f4 (h : PBx W g8 g9 g10 g14 g15 v9 v10 t Ad m cd Kd kn kc F l0) : W.cell? ⟨g15, 4, none⟩ = some (.int .i64 F.hi) := by rw [h.b15.cell]; rfl
theorem PBx.f5 (h : PBx W g8 g9 g10 g14 g15 v9 v10 t Ad m cd Kd kn kc F l0) : W.cell? ⟨g15, 5, none⟩ = some (.int .i64 F.un) := by rw [h.b15.cell]; rfl
theorem PBx.f6 (h : PBx W g8 g9 g10 g14 g15 v9 v10 t Ad m cd Kd kn kc F l0) : W.cell? ⟨g15, 6, none⟩ = some (.int .i64 F.ki) := by rw [h.b15.cell]; rfl
theorem PBx.r0 (h : PBx W g8 g9 g10 g14 g15 v9 v10 t Ad m cd Kd kn kc F l0) : W.cell? ⟨g8, 0, none⟩ = some (.slice none 0 0) := by rw [h.b8.cell]; rfl
theorem PBx.r1 (h : PBx W g8 g9 g10 g14 g15 v9 v10 t Ad m cd Kd kn kc F l0) : W.cell? ⟨g8, 1, none⟩ = some (.int .i64 0) := by rw [h.b8.cell]; rfl
theorem PBx.r2 (h : PBx W g8 g9 g10 g14 g15 v9 v10 t Ad m cd Kd kn kc F l0) : W.cell? ⟨g8, 2, none⟩ = some (.int .i64 0) := by rw [h.b8.cell]; rfl
theorem PBx.set1 (h : PBx W g8 g9 g10 g14 g15 v9 v10 t Ad m cd Kd kn kc F l0) (h1 : g8 < g14) (h2 : g9 < g14) (h3 : g10 < g14) (h4 : g14 < g15) (A' : Option Addr) (m' c' : Nat) : PBx (W.setCell ⟨g14, 1, none⟩ (.slice A' m' c')) g8 g9 g10 g14 g15 v9 v10 t A' m' c' Kd kn kc F l0 :=
  ⟨h.b8.far (by simp; omega) _, h.b9.far (by simp; omega) _, h.b10.far (by simp; omega) _, h.b14.set_ 1 _, h.b15.far (by simp; omega) _⟩
theorem PBx.set2 (h : PBx W g8 g9 g10 g14 g15 v9 v10 t Ad m cd Kd kn kc F l0) (h1 : g8 < g14) (h2 : g9 < g14) (h3 : g10 < g14) (h4 : g14 < g15) (A' : Option Addr) (m' c' : Nat) : PBx (W.setCell ⟨g14, 2, none⟩ (.slice A' m' c')) g8 g9 g10 g14 g15 v9 v10 t Ad m cd A' m' c' F l0 :=
  ⟨h.b8.far (by simp; omega) _, h.b9.far (by simp; omega) _, h.b10.far (by simp; omega) _, h.b14.set_ 2 _, h.b15.far (by simp; omega) _⟩
end
theorem ret_agg3 {a b x y : Int} (h1 : a = b) (h2 : x = y) : Ending.returned (.agg #[.slice none 0 0, .int .i64 a, .int .i64 x]) = .returned (.agg #[.slice none 0 0, .int .i64 b, .int .i64 y]) := by rw [h1, h2]
set_option maxRecDepth 100000 in
set_option maxHeartbeats 16000000 in
theorem rparse_step (f : Nat) (ih : ∀ g, f = g + 1 → RParseOK g) : RParseOK f := by
  intro c b at_ d B A cc w hd hc hB h hcc hm hs hat
  have HIH := Lib.hid ih
  have HD := Lib.hid hd
  have HC := Lib.hid hc
  have hz0 : Below w.heap.size w (w.alloc (.cells #[.slice none 0 0, .int .i64 0, .int .i64 0] 111)) := (Below.refl _ w).alloc (Nat.le_refl _) _
  have q8 := Whole.new w 111 #[.slice none 0 0, .int .i64 0, .int .i64 0]
  have hSp := rsplit_any B A cc b (w.alloc (.cells #[.slice none 0 0, .int .i64 0, .int .i64 0] 111)) (by simp; omega) (h.alloc hB _) hcc hm hs
  clear ih hd hc
  go_enter Tryz.func76, Tryz.ntmps76
  go_wp2_with fail
  refine Calls.mono (R := SGives (w.alloc (.cells #[.slice none 0 0, .int .i64 0, .int .i64 0] 111)) B b) hSp ?_
  rintro e w1 ⟨b1, ⟨A1, c1, A2, c2, us, hsp, rfl, L1, hul, hE1, L2, hc2, hm2⟩ | ⟨code, k, A1, n1, c1, A2, n2, c2, hsp, rfl⟩⟩
  rotate_left
  · have hcode := spl_code hsp
    have hpa : pa f c b = .bad code k := by unfold pa pal; rw [hsp]
    have hq : ((code : Int) != 0) = true := by rw [bne_iff_ne]; omega
    have hkb := spl_at hsp
    have b10 := hz0.trans (b1.mono (by simp))
    have q8' := (q8.below b1 (by simp)).alloc (.cells #[.slice A1 n1 c1, .slice A2 n2 c2, .int .i64 (code : Int), .int .i64 (k : Int)] 166)
    have q9 := Whole.new w1 166 #[.slice A1 n1 c1, .slice A2 n2 c2, .int .i64 (code : Int), .int .i64 (k : Int)]
    have b20 := b10.alloc b10.size (.cells #[.slice A1 n1 c1, .slice A2 n2 c2, .int .i64 (code : Int), .int .i64 (k : Int)] 166)
    have hw1 : IntKind.i64.wrap ((at_ : Int) + (k : Int)) = (at_ : Int) + (k : Int) := by rw [IntKind.wrap_i64]; omega
    have HPA := Lib.hid hpa
    go_upto_region 2 with fail
    generalize w1.alloc (.cells #[.slice A1 n1 c1, .slice A2 n2 c2, .int .i64 (code : Int), .int .i64 (k : Int)] 166) = w2 at *
    have zr0 := q8'.cell 0
    have zr1 := q8'.cell 1
    have zr2 := q8'.cell 2
    have zs2 := q9.cell 2
    have zs3 := q9.cell 3
    have yr0 := q8'.frozen 0
    have yr1 := q8'.frozen 1
    have yr2 := q8'.frozen 2
    simp only [List.getElem?_toArray, List.getElem?_cons_zero, List.getElem?_cons_succ] at zr0 zr1 zr2 zs2 zs3
    clear hpa hsp hcode hSp b1 b10 q8 hz0
    go_wp2_with fail
    (try simp only [Exit.inBlock, Exit.then])
    refine bodyPost_ret (results_cell_row rfl _ _ w.heap.size 111 #[.slice none 0 0, .int .i64 (code : Int), .int .i64 ((at_ : Int) + (k : Int))] (0, 0) _ rfl (((q8'.set_ 0 _).set_ 1 _).set_ 2 _) Tryz.underlying111 rfl (by kernel_rfl)) rfl ?_
    rw [HPA.out]
    exact ⟨(((b20).setCell (Nat.le_refl _) _).setCell (Nat.le_refl _) _).setCell (Nat.le_refl _) _, ret_agg3 rfl (by first | omega | (have := HON.out; omega) | (have := HON.out; have := HTN.out; omega))⟩

  have hRES : pa f c b = stepL (rd f c) (yla b 0) := by unfold pa pal; rw [hsp]
  have q8' := (q8.below b1 (by simp)).alloc (.cells #[.slice A1 (yla b 0).length c1, .slice A2 (yla b 0).length c2, .int .i64 0, .int .i64 0] 166)
  have q9 := Whole.new w1 166 #[.slice A1 (yla b 0).length c1, .slice A2 (yla b 0).length c2, .int .i64 0, .int .i64 0]
  have b10 := hz0.trans (b1.mono (by simp))
  have hsz8 : w.heap.size < w1.heap.size := (q8.below b1 (by simp)).lt
  have b20 : Below w1.heap.size w1 (w1.alloc (.cells #[.slice A1 (yla b 0).length c1, .slice A2 (yla b 0).length c2, .int .i64 0, .int .i64 0] 166)) := (Below.refl _ w1).alloc (Nat.le_refl _) _
  have hs2 : w1.heap.size < (w1.alloc (.cells #[.slice A1 (yla b 0).length c1, .slice A2 (yla b 0).length c2, .int .i64 0, .int .i64 0] 166)).heap.size := by simp
  have HRES := Lib.hid hRES
  have HQ8 := Lib.hid (q8.below b1 (by simp))
  clear hRES hsp hSp q8 hz0 b1
  go_upto_region 2 with fail
  generalize w1.alloc (.cells #[.slice A1 (yla b 0).length c1, .slice A2 (yla b 0).length c2, .int .i64 0, .int .i64 0] 166) = w2 at *
  have zs2 := q9.cell 2
  simp only [List.getElem?_toArray, List.getElem?_cons_zero, List.getElem?_cons_succ] at zs2
  go_upto_region 5 with fail
  have q88 := q8'.alloc (.cells #[.slice none 0 0, .int .i64 0, .int .i64 0] 111)
  have q99 := q9.alloc (.cells #[.slice none 0 0, .int .i64 0, .int .i64 0] 111)
  have q10 := Whole.new w2 111 #[.slice none 0 0, .int .i64 0, .int .i64 0]
  have b30 := b20.alloc (by omega) (.cells #[.slice none 0 0, .int .i64 0, .int .i64 0] 111)
  have hs3 : w2.heap.size < (w2.alloc (.cells #[.slice none 0 0, .int .i64 0, .int .i64 0] 111)).heap.size := by simp
  generalize w2.alloc (.cells #[.slice none 0 0, .int .i64 0, .int .i64 0] 111) = w3 at *
  clear zs2 q8' q9 b20
  have HB10 := Lib.hid b10
  have HH := Lib.hid h
  clear b10 h
  go_wp2_with fail
  go_loopw [11] (fun i wr => ∃ (k : Nat) (Ao : Option Addr) (co : Nat), k ≤ (yla b 0).length ∧ i = .int .i64 k ∧ Hid (Below w1.heap.size w1 wr ∧ w3.heap.size ≤ wr.heap.size ∧ Whole wr w1.heap.size 166 #[.slice A1 (yla b 0).length c1, .slice A2 (yla b 0).length c2, .int .i64 0, .int .i64 0] ∧ Whole wr w2.heap.size 111 #[.slice Ao k co, .int .i64 0, .int .i64 0] ∧
      ∃ ns : List Nd, ns.length = k ∧ NRowF B w3.heap.size wr (.slice Ao k co) ns ∧ ((yla b 0).take k).map (fun p => rd f c p.2) = ns.map NR.ok)) (fun i _ => (yla b 0).length - (intOf i).toNat)
  case atStart => exact ⟨0, none, 0, Nat.zero_le _, rfl, b30, Nat.le_refl _, q99, q10, [], rfl, NRowF.nil _ _ _, by simp⟩
  case round =>
    obtain ⟨k, Ao, co, hk, rfl, hinv⟩ := hrel
    obtain ⟨hbel, hX, x9, x10, ns, hnl, hrow, hres⟩ := hinv.out
    clear hinv
    have x8 : Whole wr w.heap.size 111 #[.slice none 0 0, .int .i64 0, .int .i64 0] := Whole.below HQ8.out hbel hsz8
    by_cases hlt : k < (yla b 0).length
    · obtain ⟨q, fr, hp⟩ : ∃ q fr, (yla b 0)[k]? = some (q, fr) := ⟨_, _, List.getElem?_eq_getElem hlt⟩
      have hpm : (q, fr) ∈ yla b 0 := List.mem_of_getElem? hp
      have hqb : q + frL fr ≤ b.length := yla_in hpm
      have hfl : frL fr = 4 + fr.v.length := rfl
      obtain ⟨v, hu0, hu1, hIs, adv, nv, cv, rfl⟩ := hE1 k (q, fr) hp
      obtain ⟨Av, c', hv2, hLv, hvc, hvm⟩ := hIs
      simp only [Value.slice.injEq] at hv2
      obtain ⟨rfl, rfl, rfl⟩ := hv2
      have hune : us ≠ [] := fun e => by rw [e] at hul; simp at hul; omega
      obtain ⟨ad1, rfl, hab1, hac1⟩ := L1 hune
      obtain ⟨ad2, rfl, hab2, hac2⟩ := L2 (fun e => by have := congrArg List.length e; simp at this; rw [this] at hlt; simp at hlt)
      have e0 := (hbel.cell (p := ad1.add (k * 2)) (by rw [blk_add]; exact hab1)).trans (hac1 _ _ hu0)
      have e1 := (hbel.cell (p := ad1.add (k * 2 + 1)) (by rw [blk_add]; exact hab1)).trans (hac1 _ _ hu1)
      rw [← add_add'] at e1
      have e2 := (hbel.cell (p := ad2.add k) (by rw [blk_add]; exact hab2)).trans (hac2 k (.int .i64 (q : Int)) (by rw [List.getElem?_map, hp]; rfl))
      have e1' : wr.cell? ⟨(ad1.add (k * 2)).block, (ad1.add (k * 2)).off + 1, none⟩ = some (.slice (some adv) fr.v.length cv) := e1
      obtain ⟨O, hO⟩ : ∃ O, at_ + q = O := ⟨_, rfl⟩
      have HON := Lib.hid hO
      have HO := Lib.hid (show (at_ : Int) + (q : Int) = (O : Int) by omega)
      have hO9 : O ≤ 1000000 := by omega
      have hwO : IntKind.i64.wrap ((at_ : Int) + (q : Int)) = (at_ : Int) + (q : Int) := by rw [IntKind.wrap_i64]; omega
      have hbad : Hid (∀ code a, rd f c fr = .bad code a → pa f c b = .bad code (a + q)) := fun code a hr => by
        rw [HRES.out, split_at hp]
        exact stepL_bad hres hr
      have hok : Hid (∀ n, rd f c fr = .ok n → ((yla b 0).take (k + 1)).map (fun p => rd f c p.2) = (ns ++ [n]).map NR.ok) := fun n hr => by
        rw [take_some hp, List.map_append, hres, List.map_append]
        simp [hr]
      have y90 := x9.cell 0
      have y91 := x9.cell 1
      simp only [List.getElem?_toArray, List.getElem?_cons_zero, List.getElem?_cons_succ] at y90 y91
      have hki : (k : Int) < ((yla b 0).length : Int) := by omega
      have hLb : (yla b 0).length ≤ b.length := yla_len b b.length 0 (by omega)
      have hkc2 : ((yla b 0).length : Int) ≤ (c2 : Int) := by omega
      have HRES2 := Lib.hid hres
      have HLv := Lib.hid (Lies.below hLv (hbel.mono (by omega)))
      have HPF := Lib.hid (show fr.v.length ≤ b.length ∧ at_ + q + frL fr ≤ at_ + b.length from ⟨by omega, by omega⟩)
      clear hres hp hpm e1 hu0 hu1 hune hac1 hac2 hLv hO
      go_upto_region 9 with fail
      rw [HO.out]
      clear hwO e2 y91
      go_upto_region 11 with fail
      have w8 := x8.alloc (.cells #[hv fr.t, .slice (some adv) fr.v.length cv, .slice none 0 0] 50)
      have w9 := x9.alloc (.cells #[hv fr.t, .slice (some adv) fr.v.length cv, .slice none 0 0] 50)
      have w10 := x10.alloc (.cells #[hv fr.t, .slice (some adv) fr.v.length cv, .slice none 0 0] 50)
      have w14 := Whole.new wr 50 #[hv fr.t, .slice (some adv) fr.v.length cv, .slice none 0 0]
      have hb4 : Below wr.heap.size wr (wr.alloc (.cells #[hv fr.t, .slice (some adv) fr.v.length cv, .slice none 0 0] 50)) := (Below.refl _ _).alloc (Nat.le_refl _) _
      have hs4 : wr.heap.size < (wr.alloc (.cells #[hv fr.t, .slice (some adv) fr.v.length cv, .slice none 0 0] 50)).heap.size := by simp
      generalize wr.alloc (.cells #[hv fr.t, .slice (some adv) fr.v.length cv, .slice none 0 0] 50) = w4 at *
      clear e0 e1' y90 x8 x9
      have n0 := w14.cell 0
      simp only [List.getElem?_toArray, List.getElem?_cons_zero] at n0
      have hOf := rof_any c fr.t
      simp only [rV_eq] at hOf
      rw [show (look (tab c) fr.t).getD zeroF = formOf c fr.t from rfl] at hOf
      -- what the form is
      have HKN : Hid ((look (tab c) fr.t = none ∧ formOf c fr.t = zeroF) ∨ (look (tab c) fr.t = some (formOf c fr.t) ∧ formOf c fr.t ∈ tab c)) := by
        cases hl : look (tab c) fr.t with
        | none => exact .inl ⟨rfl, by unfold formOf; rw [hl]; rfl⟩
        | some G => exact .inr ⟨by rw [formOf_some hl], by rw [formOf_some hl]; exact look_mem hl⟩
      have HFE : Hid (formOf c fr.t = formOf c fr.t) := rfl
      obtain ⟨l0, hl0⟩ : ∃ l0 : Nat, (formOf c fr.t).lo = (l0 : Int) ∧ l0 ≤ 16 := by
        rcases HKN.out with ⟨_, h1⟩ | ⟨_, h1⟩
        · rw [h1]; exact ⟨0, rfl, by omega⟩
        · have := (tame_tab h1).lo; exact ⟨(formOf c fr.t).lo.toNat, by omega, by omega⟩
      generalize hFe : formOf c fr.t = F at *
      have HFe := Lib.hid hFe
      unfold Form.val at hOf
      rw [hl0.1] at hOf
      have HL0 := Lib.hid hl0
      have hl016 := hl0.2
      clear hFe hl0 HFE
      go_wp2_with fail
      refine (hOf _).mono ?_
      rintro e w5 ⟨rfl, b5⟩
      go_upto_region 12 with (refine wpList_new_form rfl 170 _ _ rfl w5 _ _ rfl rfl rfl (by kernel_rfl) rfl ?_)
      have hP : PBx (w5.alloc (.cells #[.int .i64 F.cl, hv F.ty, .string F.nm, .int .i64 (l0 : Int), .int .i64 F.hi, .int .i64 F.un, .int .i64 F.ki] 170)) w.heap.size w1.heap.size w2.heap.size wr.heap.size w5.heap.size #[.slice (some ad1) (yla b 0).length c1, .slice (some ad2) (yla b 0).length c2, .int .i64 0, .int .i64 0] #[.slice Ao k co, .int .i64 0, .int .i64 0] fr.t (some adv) fr.v.length cv none 0 0 F l0 :=
        ⟨(w8.below b5 (by omega)).alloc _, (w9.below b5 (by omega)).alloc _, (w10.below b5 (by omega)).alloc _, (w14.below b5 (by omega)).alloc _, Whole.new _ _ _⟩
      have hl5 := hb4.trans (b5.mono (by omega))
      have hl6 : Below wr.heap.size wr (w5.alloc (.cells #[.int .i64 F.cl, hv F.ty, .string F.nm, .int .i64 (l0 : Int), .int .i64 F.hi, .int .i64 F.un, .int .i64 F.ki] 170)) := hl5.alloc hl5.size _
      have hg15 : wr.heap.size < w5.heap.size := by have := b5.size; omega
      generalize w5.alloc (.cells #[.int .i64 F.cl, hv F.ty, .string F.nm, .int .i64 (l0 : Int), .int .i64 F.hi, .int .i64 F.un, .int .i64 F.ki] 170) = w6 at *
      generalize w5.heap.size = g15 at *
      clear b5 hl5 w8 w9 w10 w14 hb4 n0 hOf
      have hlow6 : Hid (∀ W, Below wr.heap.size wr W → Below w.heap.size w W) := fun W hW => HB10.out.trans ((hbel.trans (hW.mono hbel.size)).mono HB10.out.size)
      have zn0 := hP.n0
      have zn1 := hP.n1
      have zn2 := hP.n2
      have zf0 := hP.f0
      have zf1 := hP.f1
      have zf2 := hP.f2
      have zf3 := hP.f3
      have zf4 := hP.f4
      have zf5 := hP.f5
      have zf6 := hP.f6
      have zr0 := hP.r0
      have yr0 := hP.b8.frozen 0
      have zr1 := hP.r1
      have yr1 := hP.b8.frozen 1
      have zr2 := hP.r2
      have yr2 := hP.b8.frozen 2
      have yn1 := hP.b14.frozen 1
      have yn2 := hP.b14.frozen 2
      by_cases hf0 : f = 0
      · have hd5 : (4 : Int) < (d : Int) := by have := HD.out; omega
        have hpa := Lib.hid (hbad.out 9 0 (by rw [hf0]; rfl))
        go_wp2_with fail
        (try simp only [Exit.inBlock, Exit.then])
        refine bodyPost_ret (results_cell_row rfl _ _ w.heap.size 111 #[.slice none 0 0, .int .i64 9, .int .i64 (O : Int)] (0, 0) _ rfl (((hP.b8.set_ 0 _).set_ 1 _).set_ 2 _) Tryz.underlying111 rfl (by kernel_rfl)) rfl ?_
        rw [hpa.out]
        exact ⟨((((hlow6.out w6 hl6)).setCell (Nat.le_refl _) _).setCell (Nat.le_refl _) _).setCell (Nat.le_refl _) _, ret_agg3 rfl (by first | omega | (have := HON.out; omega) | (have := HON.out; have := HTN.out; omega))⟩
      · obtain ⟨g, hg⟩ : ∃ g, f = g + 1 := ⟨f - 1, by omega⟩
        have hd4 : ¬ (4 : Int) < (d : Int) := by have := HD.out; omega
        have HG := Lib.hid hg
        clear hf0 hg
        have hrs : Hid (rd f c fr = rdStep (pa g) c fr) := by rw [Hid, HG.out, rd_succ]
        have hBX : B ≤ w3.heap.size := by omega
        rcases HKN.out with ⟨hlk, hF0⟩ | ⟨hlk, hFm⟩
        · have hk0 : F.ki = 0 := by rw [hF0]; rfl
          have hq0 : ¬ (0 : Int) < F.ki := by omega
          have hq1 : ¬ (0 : Int) < F.cl := by rw [hF0]; decide
          have hn2 : ¬ (c = 2 ∧ fr.t = 2) := by
            rintro ⟨rfl, ht⟩
            obtain ⟨G, hG, _⟩ := look_two
            rw [ht, hG] at hlk
            cases hlk
          have h8 : (c == 2) = false ∨ ((c == 2) = true ∧ ((fr.t.toNat : Int) == 2) = false) := by
            by_cases h2 : c = 2
            · exact .inr ⟨by rw [h2]; rfl, eqb_f fun ht => hn2 ⟨h2, ht⟩⟩
            · exact .inl (by simpa using h2)
          have hrd : rd f c fr = .ok (.mk fr.t fr.v []) := by rw [hrs.out]; exact rd_leaf HFe.out hk0 (by unfold fitK; rw [hlk]) (cnt_true fr.v hn2)
          have HRD := Lib.hid hrd
          clear hrd hlk hF0 hn2 hk0
          rcases h8 with h82 | ⟨h82, h83⟩
          all_goals
            have hrW := hrow.below hl6
            have hlz := (hl6).size
            have hNn : NodeS w6 (RowF B w3.heap.size w6 (.slice Ao k co)) (some adv) cv none 0 (.mk fr.t fr.v []) := nodeS_of hrW hBX (by omega) (HLv.out.below ((hl6).mono (by omega))) hvc hvm (NodesS.nil _ _ _) (Y := w6.heap.size) (fun g hg => Nat.lt_of_lt_of_le (by obtain ⟨u3, ho3, _⟩ := hrow.own; exact (ho3.lt g hg).2) hlz) (by omega) (Nat.le_refl _) (by simp [maxLen])
            obtain ⟨us3, hown3, Ks3, cs3, hE3⟩ := hrW.own
            have HPU := Lib.hid (fun W3 v' (hg : (w6.alloc (.cells #[hv fr.t, .slice (some adv) fr.v.length cv, .slice none 0 0] 50)).grownBy W3 (Value.slice Ao k co).ownBlock) (hown : W3.ownsRow w3.heap.size 50 3 v' (ns.length + 1) (us3 ++ [hv fr.t, .slice (some adv) fr.v.length cv, .slice none 0 0])) hblk => NRowF.push (.cells #[hv fr.t, .slice (some adv) fr.v.length cv, .slice none 0 0] 50) hown3 hE3 hNn hg (id hown) hblk)
            have HOK := Lib.hid (hok.out _ HRD.out)
            rw [hnl] at hown3
            have HO3 := Lib.hid (hown3.alloc (.cells #[hv fr.t, .slice (some adv) fr.v.length cv, .slice none 0 0] 50))
            have hXg : ∀ g, (Value.slice Ao k co).ownBlock = some g → w3.heap.size ≤ g := fun g hg => (hown3.lt g hg).1
            have z10 := hP.b10.cell 0
            have y10 := hP.b10.frozen 0
            simp only [List.getElem?_toArray, List.getElem?_cons_zero] at z10
            have hNW : ∀ j u, [hv fr.t, .slice (some adv) fr.v.length cv, .slice none 0 0][j]? = some u → (w6.alloc (.cells #[hv fr.t, .slice (some adv) fr.v.length cv, .slice none 0 0] 50)).cell? ((⟨w6.heap.size, 0, none⟩ : Addr).add j) = some u := fun j u hu => by
              rw [add_row, (Whole.new w6 50 #[hv fr.t, .slice (some adv) fr.v.length cv, .slice none 0 0]).cell]
              simpa using hu
            have HNW := Lib.hid hNW
            have HP10 := Lib.hid (hP.b10.alloc (.cells #[hv fr.t, .slice (some adv) fr.v.length cv, .slice none 0 0] 50))
            have HP9 := Lib.hid (hP.b9.alloc (.cells #[hv fr.t, .slice (some adv) fr.v.length cv, .slice none 0 0] 50))
            have HLW := Lib.hid (hl6)
            have hlt10 := hP.b10.lt
            clear hNW hown3 hE3 hNn hrW
            go_wp2_with (at_builtin; refine wpList_append_told _ rfl (.tmp 139) (.tmp 141) 23 rfl w3.heap.size 50 _ 3 56 Tryz.underlying23 ndinfo rfl (by omega) (.slice Ao k co) k us3 rfl HO3.out _ 1 1 (by omega) [hv fr.t, .slice (some adv) fr.v.length cv, .slice none 0 0] rfl rfl HNW.out (by intro u hu; simp at hu; rcases hu with rfl | rfl | rfl <;> rfl) (by unfold maxLen; omega) (by omega) (by simp; omega) ?_; intro v' wz hownz hgrowz hblkz; obtain ⟨Az, cz, rfl⟩ := own_slice3 hownz; have hb10z := HP10.out.grown hgrowz (fun e => by have := hXg _ e.symm; omega); have z10z := hb10z.cell 0; have y10z := hb10z.frozen 0; simp only [List.getElem?_toArray, List.getElem?_cons_zero] at z10z)
            have hb9z := HP9.out.grown hgrowz (fun e => by have := hXg _ e.symm; omega)
            have hpush := HPU.out wz _ hgrowz (by rw [hnl]; exact hownz) (by simpa using hblkz)
            have hlowz : Below wr.heap.size wr (w6.alloc (.cells #[hv fr.t, .slice (some adv) fr.v.length cv, .slice none 0 0] 50)) := HLW.out.alloc HLW.out.size _
            have hszz := hgrowz.size
            have hbz : Below w1.heap.size w1 wz := (hbel.trans (hlowz.mono hbel.size)).grown hgrowz (Nat.le_trans hbel.size hlowz.size) (fun g hg => by have := hXg g hg; omega)
            have HREL : Hid (Below w1.heap.size w1 (wz.setCell ⟨w2.heap.size, 0, none⟩ (.slice Az (k + 1) cz)) ∧ w3.heap.size ≤ (wz.setCell ⟨w2.heap.size, 0, none⟩ (.slice Az (k + 1) cz)).heap.size ∧ Whole (wz.setCell ⟨w2.heap.size, 0, none⟩ (.slice Az (k + 1) cz)) w1.heap.size 166 #[.slice (some ad1) (yla b 0).length c1, .slice (some ad2) (yla b 0).length c2, .int .i64 0, .int .i64 0] ∧
                Whole (wz.setCell ⟨w2.heap.size, 0, none⟩ (.slice Az (k + 1) cz)) w2.heap.size 111 #[.slice Az (k + 1) cz, .int .i64 0, .int .i64 0] ∧
                ∃ ns : List Nd, ns.length = k + 1 ∧ NRowF B w3.heap.size (wz.setCell ⟨w2.heap.size, 0, none⟩ (.slice Az (k + 1) cz)) (.slice Az (k + 1) cz) ns ∧ ((yla b 0).take (k + 1)).map (fun p => rd f c p.2) = ns.map NR.ok) :=
              ⟨hbz.setCell (by simp; omega) _, by simp [World.setCell]; have := hlowz.size; omega, hb9z.far (by simp; omega) _, hb10z.set_ 0 _, ns ++ [(.mk fr.t fr.v [])], by simp [hnl], hpush.setCell (by omega) (by omega) 0 _, HOK.out⟩
            clear hpush hb9z hb10z hownz hgrowz hblkz hbz HPU
            go_wp2_with fail
            go_roundw
            case rel => exact ⟨k + 1, Az, cz, by omega, by go_num, HREL.out⟩
            case measure => simp [intOf]; omega
        · have hcl := cl_tab hFm
          have hcl0 : (0 : Int) < F.cl := by have := HC.out; omega
          have hkr := ki_tab hFm
          have HCL := Lib.hid hcl
          clear hcl
          have hfk : Hid (∀ n : Nat, fitK c fr.t n = fitsB F (n : Int)) := fun n => by unfold fitK; rw [hlk]
          have hFt : ∀ (n : Nat) W, Calls Tryz.prog 120 #[.agg #[.int .i64 F.cl, hv F.ty, .string F.nm, .int .i64 (l0 : Int), .int .i64 F.hi, .int .i64 F.un, .int .i64 F.ki], .int .i64 (n : Int)] W fun e w' => e = .returned (.bool (fitsB F (n : Int))) ∧ Below W.heap.size W w' := fun n W => by
            have h1 := rfits_any F (tame_tab hFm) (n : Int) W
            unfold Form.val at h1
            rw [HL0.out.1] at h1
            exact h1
          by_cases hk0 : F.ki = 0
          · have hq0 : ¬ (0 : Int) < F.ki := by omega
            have hFt1 := hFt fr.v.length
            have hfk1 := hfk.out fr.v.length
            cases hfb : fitsB F (fr.v.length : Int) with
            | false =>
              rw [hfb] at hFt1 hfk1
              have hpa := Lib.hid (hbad.out 7 0 (by rw [hrs.out]; exact rd_leaf7 HFe.out hk0 hfk1))
              clear hfb hk0 hFt hfk1 hlk
              go_wp2_with fail
              refine (hFt1 _).mono ?_
              rintro e w7 ⟨rfl, b7⟩
              have hP7 := hP.below b7
              have hl7 := hl6.trans (b7.mono hl6.size)
              clear zn0 zn1 zn2 zf0 zf1 zf2 zf3 zf4 zf5 zf6 zr0 zr1 zr2 yr0 yr1 yr2 yn1 yn2
              have zn0 := hP7.n0
              have zn1 := hP7.n1
              have zn2 := hP7.n2
              have zf0 := hP7.f0
              have zf1 := hP7.f1
              have zf2 := hP7.f2
              have zf3 := hP7.f3
              have zf4 := hP7.f4
              have zf5 := hP7.f5
              have zf6 := hP7.f6
              have zr0 := hP7.r0
              have yr0 := hP7.b8.frozen 0
              have zr1 := hP7.r1
              have yr1 := hP7.b8.frozen 1
              have zr2 := hP7.r2
              have yr2 := hP7.b8.frozen 2
              have yn1 := hP7.b14.frozen 1
              have yn2 := hP7.b14.frozen 2
              go_wp2_with fail
              (try simp only [Exit.inBlock, Exit.then])
              refine bodyPost_ret (results_cell_row rfl _ _ w.heap.size 111 #[.slice none 0 0, .int .i64 7, .int .i64 (O : Int)] (0, 0) _ rfl (((hP7.b8.set_ 0 _).set_ 1 _).set_ 2 _) Tryz.underlying111 rfl (by kernel_rfl)) rfl ?_
              rw [hpa.out]
              exact ⟨((((hlow6.out w7 hl7)).setCell (Nat.le_refl _) _).setCell (Nat.le_refl _) _).setCell (Nat.le_refl _) _, ret_agg3 rfl (by first | omega | (have := HON.out; omega) | (have := HON.out; have := HTN.out; omega))⟩
            | true =>
              rw [hfb] at hFt1 hfk1
              by_cases hct : c = 2 ∧ fr.t = 2
              · have hq2 : (c == 2) = true := by rw [hct.1]; rfl
                have hq3 := eqb_t hct.2
                have hpar : fr.v.length % 2 = 0 := by
                  obtain ⟨G', hG', hlo, hun, _⟩ := look_two
                  rw [hct.1, hct.2, hG'] at hlk
                  cases hlk
                  simp only [fitsB, Bool.and_eq_true, decide_eq_true_eq, beq_iff_eq] at hfb
                  rw [hlo, hun] at hfb
                  omega
                have hrc : rcB fr.v = cntB c fr.t fr.v := by rw [hct.1, hct.2]; exact rcB_eq hpar
                have hCt := fun W (hW : Below wr.heap.size wr W) => rcounted_any (some adv) cv B fr.v W (HLv.out.below (hW.mono (by omega))) (by have := HPF.out; omega)
                simp only [hrc] at hCt
                have hwO4 : IntKind.i64.wrap ((O : Int) + 4) = (O : Int) + 4 := by rw [IntKind.wrap_i64]; omega
                cases hcb : cntB c fr.t fr.v with
                | false =>
                  simp only [hcb] at hCt
                  have hpa := Lib.hid (hbad.out 8 4 (by rw [hrs.out]; exact rd_leaf8 HFe.out hk0 hfk1 hcb))
                  clear hfb hk0 hFt hfk1 hlk hct hrc hpar hcb
                  go_wp2_with fail
                  refine (hFt1 _).mono ?_
                  rintro e w7 ⟨rfl, b7⟩
                  have hP7 := hP.below b7
                  have hl7 := hl6.trans (b7.mono hl6.size)
                  have hCt7 := hCt w7 hl7
                  clear hCt
                  clear zn0 zn1 zn2 zf0 zf1 zf2 zf3 zf4 zf5 zf6 zr0 zr1 zr2 yr0 yr1 yr2 yn1 yn2
                  have zn0 := hP7.n0
                  have zn1 := hP7.n1
                  have zn2 := hP7.n2
                  have zf0 := hP7.f0
                  have zf1 := hP7.f1
                  have zf2 := hP7.f2
                  have zf3 := hP7.f3
                  have zf4 := hP7.f4
                  have zf5 := hP7.f5
                  have zf6 := hP7.f6
                  have zr0 := hP7.r0
                  have yr0 := hP7.b8.frozen 0
                  have zr1 := hP7.r1
                  have yr1 := hP7.b8.frozen 1
                  have zr2 := hP7.r2
                  have yr2 := hP7.b8.frozen 2
                  have yn1 := hP7.b14.frozen 1
                  have yn2 := hP7.b14.frozen 2
                  go_wp2_with fail
                  refine hCt7.mono ?_
                  rintro e w8 ⟨rfl, rfl⟩
                  go_wp2_with fail
                  (try simp only [Exit.inBlock, Exit.then])
                  refine bodyPost_ret (results_cell_row rfl _ _ w.heap.size 111 #[.slice none 0 0, .int .i64 8, .int .i64 ((O : Int) + 4)] (0, 0) _ rfl (((hP7.b8.set_ 0 _).set_ 1 _).set_ 2 _) Tryz.underlying111 rfl (by kernel_rfl)) rfl ?_
                  rw [hpa.out]
                  exact ⟨((((hlow6.out w7 hl7)).setCell (Nat.le_refl _) _).setCell (Nat.le_refl _) _).setCell (Nat.le_refl _) _, ret_agg3 rfl (by first | omega | (have := HON.out; omega) | (have := HON.out; have := HTN.out; omega))⟩
                | true =>
                  simp only [hcb] at hCt
                  have hrd : rd f c fr = .ok (.mk fr.t fr.v []) := by rw [hrs.out]; exact rd_leaf HFe.out hk0 hfk1 hcb
                  have HRD := Lib.hid hrd
                  clear hrd hlk hct hfb hk0 hFt hfk1 hrc hpar hcb
                  go_wp2_with fail
                  refine (hFt1 _).mono ?_
                  rintro e w7 ⟨rfl, b7⟩
                  have hP7 := hP.below b7
                  have hl7 := hl6.trans (b7.mono hl6.size)
                  have hCt7 := hCt w7 hl7
                  clear hCt
                  clear zn0 zn1 zn2 zf0 zf1 zf2 zf3 zf4 zf5 zf6 zr0 zr1 zr2 yr0 yr1 yr2 yn1 yn2
                  have zn0 := hP7.n0
                  have zn1 := hP7.n1
                  have zn2 := hP7.n2
                  have zf0 := hP7.f0
                  have zf1 := hP7.f1
                  have zf2 := hP7.f2
                  have zf3 := hP7.f3
                  have zf4 := hP7.f4
                  have zf5 := hP7.f5
                  have zf6 := hP7.f6
                  have zr0 := hP7.r0
                  have yr0 := hP7.b8.frozen 0
                  have zr1 := hP7.r1
                  have yr1 := hP7.b8.frozen 1
                  have zr2 := hP7.r2
                  have yr2 := hP7.b8.frozen 2
                  have yn1 := hP7.b14.frozen 1
                  have yn2 := hP7.b14.frozen 2
                  go_wp2_with fail
                  refine hCt7.mono ?_
                  rintro e w8 ⟨rfl, rfl⟩
                  have hrW := hrow.below hl7
                  have hlz := (hl7).size
                  have hNn : NodeS w7 (RowF B w3.heap.size w7 (.slice Ao k co)) (some adv) cv none 0 (.mk fr.t fr.v []) := nodeS_of hrW hBX (by omega) (HLv.out.below ((hl7).mono (by omega))) hvc hvm (NodesS.nil _ _ _) (Y := w7.heap.size) (fun g hg => Nat.lt_of_lt_of_le (by obtain ⟨u3, ho3, _⟩ := hrow.own; exact (ho3.lt g hg).2) hlz) (by omega) (Nat.le_refl _) (by simp [maxLen])
                  obtain ⟨us3, hown3, Ks3, cs3, hE3⟩ := hrW.own
                  have HPU := Lib.hid (fun W3 v' (hg : (w7.alloc (.cells #[hv fr.t, .slice (some adv) fr.v.length cv, .slice none 0 0] 50)).grownBy W3 (Value.slice Ao k co).ownBlock) (hown : W3.ownsRow w3.heap.size 50 3 v' (ns.length + 1) (us3 ++ [hv fr.t, .slice (some adv) fr.v.length cv, .slice none 0 0])) hblk => NRowF.push (.cells #[hv fr.t, .slice (some adv) fr.v.length cv, .slice none 0 0] 50) hown3 hE3 hNn hg (id hown) hblk)
                  have HOK := Lib.hid (hok.out _ HRD.out)
                  rw [hnl] at hown3
                  have HO3 := Lib.hid (hown3.alloc (.cells #[hv fr.t, .slice (some adv) fr.v.length cv, .slice none 0 0] 50))
                  have hXg : ∀ g, (Value.slice Ao k co).ownBlock = some g → w3.heap.size ≤ g := fun g hg => (hown3.lt g hg).1
                  have z10 := hP7.b10.cell 0
                  have y10 := hP7.b10.frozen 0
                  simp only [List.getElem?_toArray, List.getElem?_cons_zero] at z10
                  have hNW : ∀ j u, [hv fr.t, .slice (some adv) fr.v.length cv, .slice none 0 0][j]? = some u → (w7.alloc (.cells #[hv fr.t, .slice (some adv) fr.v.length cv, .slice none 0 0] 50)).cell? ((⟨w7.heap.size, 0, none⟩ : Addr).add j) = some u := fun j u hu => by
                    rw [add_row, (Whole.new w7 50 #[hv fr.t, .slice (some adv) fr.v.length cv, .slice none 0 0]).cell]
                    simpa using hu
                  have HNW := Lib.hid hNW
                  have HP10 := Lib.hid (hP7.b10.alloc (.cells #[hv fr.t, .slice (some adv) fr.v.length cv, .slice none 0 0] 50))
                  have HP9 := Lib.hid (hP7.b9.alloc (.cells #[hv fr.t, .slice (some adv) fr.v.length cv, .slice none 0 0] 50))
                  have HLW := Lib.hid (hl7)
                  have hlt10 := hP7.b10.lt
                  clear hNW hown3 hE3 hNn hrW
                  go_wp2_with (at_builtin; refine wpList_append_told _ rfl (.tmp 139) (.tmp 141) 23 rfl w3.heap.size 50 _ 3 56 Tryz.underlying23 ndinfo rfl (by omega) (.slice Ao k co) k us3 rfl HO3.out _ 1 1 (by omega) [hv fr.t, .slice (some adv) fr.v.length cv, .slice none 0 0] rfl rfl HNW.out (by intro u hu; simp at hu; rcases hu with rfl | rfl | rfl <;> rfl) (by unfold maxLen; omega) (by omega) (by simp; omega) ?_; intro v' wz hownz hgrowz hblkz; obtain ⟨Az, cz, rfl⟩ := own_slice3 hownz; have hb10z := HP10.out.grown hgrowz (fun e => by have := hXg _ e.symm; omega); have z10z := hb10z.cell 0; have y10z := hb10z.frozen 0; simp only [List.getElem?_toArray, List.getElem?_cons_zero] at z10z)
                  have hb9z := HP9.out.grown hgrowz (fun e => by have := hXg _ e.symm; omega)
                  have hpush := HPU.out wz _ hgrowz (by rw [hnl]; exact hownz) (by simpa using hblkz)
                  have hlowz : Below wr.heap.size wr (w7.alloc (.cells #[hv fr.t, .slice (some adv) fr.v.length cv, .slice none 0 0] 50)) := HLW.out.alloc HLW.out.size _
                  have hszz := hgrowz.size
                  have hbz : Below w1.heap.size w1 wz := (hbel.trans (hlowz.mono hbel.size)).grown hgrowz (Nat.le_trans hbel.size hlowz.size) (fun g hg => by have := hXg g hg; omega)
                  have HREL : Hid (Below w1.heap.size w1 (wz.setCell ⟨w2.heap.size, 0, none⟩ (.slice Az (k + 1) cz)) ∧ w3.heap.size ≤ (wz.setCell ⟨w2.heap.size, 0, none⟩ (.slice Az (k + 1) cz)).heap.size ∧ Whole (wz.setCell ⟨w2.heap.size, 0, none⟩ (.slice Az (k + 1) cz)) w1.heap.size 166 #[.slice (some ad1) (yla b 0).length c1, .slice (some ad2) (yla b 0).length c2, .int .i64 0, .int .i64 0] ∧
                      Whole (wz.setCell ⟨w2.heap.size, 0, none⟩ (.slice Az (k + 1) cz)) w2.heap.size 111 #[.slice Az (k + 1) cz, .int .i64 0, .int .i64 0] ∧
                      ∃ ns : List Nd, ns.length = k + 1 ∧ NRowF B w3.heap.size (wz.setCell ⟨w2.heap.size, 0, none⟩ (.slice Az (k + 1) cz)) (.slice Az (k + 1) cz) ns ∧ ((yla b 0).take (k + 1)).map (fun p => rd f c p.2) = ns.map NR.ok) :=
                    ⟨hbz.setCell (by simp; omega) _, by simp [World.setCell]; have := hlowz.size; omega, hb9z.far (by simp; omega) _, hb10z.set_ 0 _, ns ++ [(.mk fr.t fr.v [])], by simp [hnl], hpush.setCell (by omega) (by omega) 0 _, HOK.out⟩
                  clear hpush hb9z hb10z hownz hgrowz hblkz hbz HPU
                  go_wp2_with fail
                  go_roundw
                  case rel => exact ⟨k + 1, Az, cz, by omega, by go_num, HREL.out⟩
                  case measure => simp [intOf]; omega
              · have hn2 := hct
                have h8 : (c == 2) = false ∨ ((c == 2) = true ∧ ((fr.t.toNat : Int) == 2) = false) := by
                  by_cases h2 : c = 2
                  · exact .inr ⟨by rw [h2]; rfl, eqb_f fun ht => hn2 ⟨h2, ht⟩⟩
                  · exact .inl (by simpa using h2)
                have hrd : rd f c fr = .ok (.mk fr.t fr.v []) := by rw [hrs.out]; exact rd_leaf HFe.out hk0 hfk1 (cnt_true fr.v hn2)
                have HRD := Lib.hid hrd
                clear hrd hlk hn2 hct hfb hk0 hFt hfk1
                rcases h8 with h82 | ⟨h82, h83⟩
                all_goals
                  go_wp2_with fail
                  refine (hFt1 _).mono ?_
                  rintro e w7 ⟨rfl, b7⟩
                  have hP7 := hP.below b7
                  have hl7 := hl6.trans (b7.mono hl6.size)
                  clear zn0 zn1 zn2 zf0 zf1 zf2 zf3 zf4 zf5 zf6 zr0 zr1 zr2 yr0 yr1 yr2 yn1 yn2
                  have zn0 := hP7.n0
                  have zn1 := hP7.n1
                  have zn2 := hP7.n2
                  have zf0 := hP7.f0
                  have zf1 := hP7.f1
                  have zf2 := hP7.f2
                  have zf3 := hP7.f3
                  have zf4 := hP7.f4
                  have zf5 := hP7.f5
                  have zf6 := hP7.f6
                  have zr0 := hP7.r0
                  have yr0 := hP7.b8.frozen 0
                  have zr1 := hP7.r1
                  have yr1 := hP7.b8.frozen 1
                  have zr2 := hP7.r2
                  have yr2 := hP7.b8.frozen 2
                  have yn1 := hP7.b14.frozen 1
                  have yn2 := hP7.b14.frozen 2
                  have hrW := hrow.below hl7
                  have hlz := (hl7).size
                  have hNn : NodeS w7 (RowF B w3.heap.size w7 (.slice Ao k co)) (some adv) cv none 0 (.mk fr.t fr.v []) := nodeS_of hrW hBX (by omega) (HLv.out.below ((hl7).mono (by omega))) hvc hvm (NodesS.nil _ _ _) (Y := w7.heap.size) (fun g hg => Nat.lt_of_lt_of_le (by obtain ⟨u3, ho3, _⟩ := hrow.own; exact (ho3.lt g hg).2) hlz) (by omega) (Nat.le_refl _) (by simp [maxLen])
                  obtain ⟨us3, hown3, Ks3, cs3, hE3⟩ := hrW.own
                  have HPU := Lib.hid (fun W3 v' (hg : (w7.alloc (.cells #[hv fr.t, .slice (some adv) fr.v.length cv, .slice none 0 0] 50)).grownBy W3 (Value.slice Ao k co).ownBlock) (hown : W3.ownsRow w3.heap.size 50 3 v' (ns.length + 1) (us3 ++ [hv fr.t, .slice (some adv) fr.v.length cv, .slice none 0 0])) hblk => NRowF.push (.cells #[hv fr.t, .slice (some adv) fr.v.length cv, .slice none 0 0] 50) hown3 hE3 hNn hg (id hown) hblk)
                  have HOK := Lib.hid (hok.out _ HRD.out)
                  rw [hnl] at hown3
                  have HO3 := Lib.hid (hown3.alloc (.cells #[hv fr.t, .slice (some adv) fr.v.length cv, .slice none 0 0] 50))
                  have hXg : ∀ g, (Value.slice Ao k co).ownBlock = some g → w3.heap.size ≤ g := fun g hg => (hown3.lt g hg).1
                  have z10 := hP7.b10.cell 0
                  have y10 := hP7.b10.frozen 0
                  simp only [List.getElem?_toArray, List.getElem?_cons_zero] at z10
                  have hNW : ∀ j u, [hv fr.t, .slice (some adv) fr.v.length cv, .slice none 0 0][j]? = some u → (w7.alloc (.cells #[hv fr.t, .slice (some adv) fr.v.length cv, .slice none 0 0] 50)).cell? ((⟨w7.heap.size, 0, none⟩ : Addr).add j) = some u := fun j u hu => by
                    rw [add_row, (Whole.new w7 50 #[hv fr.t, .slice (some adv) fr.v.length cv, .slice none 0 0]).cell]
                    simpa using hu
                  have HNW := Lib.hid hNW
                  have HP10 := Lib.hid (hP7.b10.alloc (.cells #[hv fr.t, .slice (some adv) fr.v.length cv, .slice none 0 0] 50))
                  have HP9 := Lib.hid (hP7.b9.alloc (.cells #[hv fr.t, .slice (some adv) fr.v.length cv, .slice none 0 0] 50))
                  have HLW := Lib.hid (hl7)
                  have hlt10 := hP7.b10.lt
                  clear hNW hown3 hE3 hNn hrW
                  go_wp2_with (at_builtin; refine wpList_append_told _ rfl (.tmp 139) (.tmp 141) 23 rfl w3.heap.size 50 _ 3 56 Tryz.underlying23 ndinfo rfl (by omega) (.slice Ao k co) k us3 rfl HO3.out _ 1 1 (by omega) [hv fr.t, .slice (some adv) fr.v.length cv, .slice none 0 0] rfl rfl HNW.out (by intro u hu; simp at hu; rcases hu with rfl | rfl | rfl <;> rfl) (by unfold maxLen; omega) (by omega) (by simp; omega) ?_; intro v' wz hownz hgrowz hblkz; obtain ⟨Az, cz, rfl⟩ := own_slice3 hownz; have hb10z := HP10.out.grown hgrowz (fun e => by have := hXg _ e.symm; omega); have z10z := hb10z.cell 0; have y10z := hb10z.frozen 0; simp only [List.getElem?_toArray, List.getElem?_cons_zero] at z10z)
                  have hb9z := HP9.out.grown hgrowz (fun e => by have := hXg _ e.symm; omega)
                  have hpush := HPU.out wz _ hgrowz (by rw [hnl]; exact hownz) (by simpa using hblkz)
                  have hlowz : Below wr.heap.size wr (w7.alloc (.cells #[hv fr.t, .slice (some adv) fr.v.length cv, .slice none 0 0] 50)) := HLW.out.alloc HLW.out.size _
                  have hszz := hgrowz.size
                  have hbz : Below w1.heap.size w1 wz := (hbel.trans (hlowz.mono hbel.size)).grown hgrowz (Nat.le_trans hbel.size hlowz.size) (fun g hg => by have := hXg g hg; omega)
                  have HREL : Hid (Below w1.heap.size w1 (wz.setCell ⟨w2.heap.size, 0, none⟩ (.slice Az (k + 1) cz)) ∧ w3.heap.size ≤ (wz.setCell ⟨w2.heap.size, 0, none⟩ (.slice Az (k + 1) cz)).heap.size ∧ Whole (wz.setCell ⟨w2.heap.size, 0, none⟩ (.slice Az (k + 1) cz)) w1.heap.size 166 #[.slice (some ad1) (yla b 0).length c1, .slice (some ad2) (yla b 0).length c2, .int .i64 0, .int .i64 0] ∧
                      Whole (wz.setCell ⟨w2.heap.size, 0, none⟩ (.slice Az (k + 1) cz)) w2.heap.size 111 #[.slice Az (k + 1) cz, .int .i64 0, .int .i64 0] ∧
                      ∃ ns : List Nd, ns.length = k + 1 ∧ NRowF B w3.heap.size (wz.setCell ⟨w2.heap.size, 0, none⟩ (.slice Az (k + 1) cz)) (.slice Az (k + 1) cz) ns ∧ ((yla b 0).take (k + 1)).map (fun p => rd f c p.2) = ns.map NR.ok) :=
                    ⟨hbz.setCell (by simp; omega) _, by simp [World.setCell]; have := hlowz.size; omega, hb9z.far (by simp; omega) _, hb10z.set_ 0 _, ns ++ [(.mk fr.t fr.v [])], by simp [hnl], hpush.setCell (by omega) (by omega) 0 _, HOK.out⟩
                  clear hpush hb9z hb10z hownz hgrowz hblkz hbz HPU
                  go_wp2_with fail
                  go_roundw
                  case rel => exact ⟨k + 1, Az, cz, by omega, by go_num, HREL.out⟩
                  case measure => simp [intOf]; omega
          · have hq0 : (0 : Int) < F.ki := by omega
            have hfl0 := fits_lo hFm hk0 HL0.out.1
            have hn2 : ¬ (c = 2 ∧ fr.t = 2) := by
              rintro ⟨h1, h2⟩
              obtain ⟨G', hG', _, _, hG0⟩ := look_two
              rw [h1, h2, hG'] at hlk
              cases hlk
              exact hk0 hG0
            have h8 : (c == 2) = false ∨ ((c == 2) = true ∧ ((fr.t.toNat : Int) == 2) = false) := by
              by_cases h2 : c = 2
              · exact .inr ⟨by rw [h2]; rfl, eqb_f fun ht => hn2 ⟨h2, ht⟩⟩
              · exact .inl (by simpa using h2)
            have hFtl := hFt
            by_cases hle : l0 ≤ fr.v.length
            · have hLd : Lies wr B (some adv) ((fr.v.take l0).map bv) := by
                have h1 := HLv.out.take l0
                rwa [← List.map_take] at h1
              have hmin : min (l0 : Int) (fr.v.length : Int) = (l0 : Int) := by omega
              have htl : (fr.v.take l0).length = l0 := by rw [List.length_take]; omega
              have HTL := Lib.hid htl
              have hFt1 := hFt l0
              rw [hfl0.1] at hFt1
              have hfk1 := hfk.out l0
              rw [hfl0.1] at hfk1
              have hcn := cnt_true (fr.v.take l0) hn2
              have hlei : (l0 : Int) ≤ (fr.v.length : Int) := by omega
              have hvci : (fr.v.length : Int) ≤ (cv : Int) := by omega
              have hnlt : ¬ (fr.v.length : Int) < (l0 : Int) := by omega
              have hci : (ins F.ki).1 = 1 ∨ (ins F.ki).1 = 2 := by
                have h5 : F.ki = 1 ∨ F.ki = 2 ∨ F.ki = 3 ∨ F.ki = 4 := by omega
                rcases h5 with h5 | h5 | h5 | h5 <;> rw [h5] <;> decide
              have hIn := rinside_any F.ki hkr
              have HRB := Lib.hid (fun (code a : Nat) (h9 : pa g (ins F.ki).1 (fr.v.drop l0) = .bad code a) => hbad.out code (a + (4 + l0)) (by rw [hrs.out]; exact rd_kidbad HFe.out hk0 HL0.out.1 hle hfk1 hcn h9))
              have HR7 := Lib.hid (fun (kids : List Nd) (h9 : pa g (ins F.ki).1 (fr.v.drop l0) = .ok kids) (h10 : insB F.ki kids = false) => hbad.out 7 0 (by rw [hrs.out]; exact rd_kid7b HFe.out hk0 HL0.out.1 hle hfk1 hcn h9 h10))
              have HRO := Lib.hid (fun (kids : List Nd) (h9 : pa g (ins F.ki).1 (fr.v.drop l0) = .ok kids) (h10 : insB F.ki kids = true) => hok.out _ (by rw [hrs.out]; exact rd_kidok HFe.out hk0 HL0.out.1 hle hfk1 hcn h9 h10))
              obtain ⟨VA, hVA⟩ : ∃ VA, (if cv = l0 then some adv else some (adv.add l0)) = VA := ⟨_, rfl⟩
              have hLk : Lies wr B VA ((fr.v.drop l0).map bv) := by
                have h1 := HLv.out.drop (k := l0) (c := cv) (by simpa using hvc)
                rw [← List.map_drop] at h1
                rw [← hVA]
                exact h1
              have hd5 := HD.out
              have hgf := HG.out
              have hS := fun W (hW : Below wr.heap.size wr W) => HIH.out g HG.out (ins F.ki).1 (fr.v.drop l0) (O + 4 + l0) (d + 1) B VA (cv - l0) W (by omega) hci (by have := hW.size; omega) (hLk.below (hW.mono (by omega))) (by rw [List.length_drop]; omega) (by omega) (by rw [List.length_drop]; have := HPF.out; omega) (by rw [List.length_drop]; have := HPF.out; have := HON.out; omega)
              simp only [List.length_drop, Int.natCast_add, Int.cast_ofNat_Int] at hS
              have hw1 : IntKind.i64.wrap ((O : Int) + 4) = (O : Int) + 4 := by rw [IntKind.wrap_i64]; omega
              have hw2 : IntKind.i64.wrap ((O : Int) + 4 + (l0 : Int)) = (O : Int) + 4 + (l0 : Int) := by rw [IntKind.wrap_i64]; omega
              have hw3 : IntKind.i64.wrap ((d : Int) + 1) = (d : Int) + 1 := by rw [IntKind.wrap_i64]; omega
              have HS := Lib.hid hS
              have HLD := Lib.hid hLd
              clear hS hLd htl hfl0 hk0 hFt hFtl hfk1 hcn hlk hn2 hLk hci hd5 hgf
              go_upto_region 16 with fail
              have hP7 := hP.set1 (by omega) (by omega) (by omega) hg15 (some adv) l0 cv
              have hl7 : Below wr.heap.size wr (w6.setCell ⟨wr.heap.size, 1, none⟩ (.slice (some adv) l0 cv)) := hl6.setCell (Nat.le_refl _) _
              generalize w6.setCell ⟨wr.heap.size, 1, none⟩ (.slice (some adv) l0 cv) = w7 at *
              clear zn0 zn1 zn2 zf0 zf1 zf2 zf3 zf4 zf5 zf6 zr0 zr1 zr2 yr0 yr1 yr2 yn1 yn2
              have zn0 := hP7.n0
              have zn1 := hP7.n1
              have zn2 := hP7.n2
              have zf0 := hP7.f0
              have zf1 := hP7.f1
              have zf2 := hP7.f2
              have zf3 := hP7.f3
              have zf4 := hP7.f4
              have zf5 := hP7.f5
              have zf6 := hP7.f6
              have zr0 := hP7.r0
              have yr0 := hP7.b8.frozen 0
              have zr1 := hP7.r1
              have yr1 := hP7.b8.frozen 1
              have zr2 := hP7.r2
              have yr2 := hP7.b8.frozen 2
              have yn1 := hP7.b14.frozen 1
              have yn2 := hP7.b14.frozen 2
              go_wp2_with fail
              refine (hFt1 _).mono ?_
              rintro e w8 ⟨rfl, b8⟩
              have hP8 := hP7.below b8
              have hl8 := hl7.trans (b8.mono hl7.size)
              clear zn0 zn1 zn2 zf0 zf1 zf2 zf3 zf4 zf5 zf6 zr0 zr1 zr2 yr0 yr1 yr2 yn1 yn2
              have zn0 := hP8.n0
              have zn1 := hP8.n1
              have zn2 := hP8.n2
              have zf0 := hP8.f0
              have zf1 := hP8.f1
              have zf2 := hP8.f2
              have zf3 := hP8.f3
              have zf4 := hP8.f4
              have zf5 := hP8.f5
              have zf6 := hP8.f6
              have zr0 := hP8.r0
              have yr0 := hP8.b8.frozen 0
              have zr1 := hP8.r1
              have yr1 := hP8.b8.frozen 1
              have zr2 := hP8.r2
              have yr2 := hP8.b8.frozen 2
              have yn1 := hP8.b14.frozen 1
              have yn2 := hP8.b14.frozen 2
              clear hP hP7 hl6 hl7 b8
              have KS : Hid (∀ W, Below w8.heap.size w8 W → W.cell? ⟨g15, 3, none⟩ = some (.int .i64 (l0 : Int)) ∧ W.cell? ⟨g15, 6, none⟩ = some (.int .i64 F.ki)) := fun W hW => ⟨(hP8.below hW).f3, (hP8.below hW).f6⟩
              cases hr : pa g (ins F.ki).1 (fr.v.drop l0) with
              | bad code a =>
                have hpa := Lib.hid (HRB.out code a hr)
                have hcne := pa_code hr
                have hqc : ((code : Int) != 0) = true := by rw [bne_iff_ne]; omega
                obtain ⟨T, hT⟩ : ∃ T, O + 4 + l0 + a = T := ⟨_, rfl⟩
                have HTN := Lib.hid hT
                have HB2 : Hid (∀ W, Below w8.heap.size w8 W → Calls Tryz.prog 76 #[.int .i64 (ins F.ki).1, .slice VA (fr.v.length - l0) (cv - l0), .int .i64 ((O : Int) + 4 + (l0 : Int)), .int .i64 ((d : Int) + 1)] W fun e w' => e = .returned (.agg #[.slice none 0 0, .int .i64 (code : Int), .int .i64 (T : Int)]) ∧ Below W.heap.size W w') := fun W hW => by
                  have h9 := HS.out W (hl8.trans (hW.mono hl8.size))
                  rw [hr] at h9
                  refine Calls.mono (R := RP W B (.bad code a) (O + 4 + l0)) h9 ?_
                  rintro e w' ⟨h1, h2⟩
                  refine ⟨h2.trans ?_, h1⟩
                  rw [hT]
                clear hr hT hcne
                generalize (ins F.ki).1 = ci at *
                rcases h8 with h82 | ⟨h82, h83⟩
                all_goals
                  go_wp2_with fail
                  go_region_held3 (fun V => V.cell? ⟨g15, 3, none⟩ = some (.int .i64 (l0 : Int)) ∧ V.cell? ⟨g15, 6, none⟩ = some (.int .i64 F.ki))
                    (first | exact KS.out _ (below_drew (Below.refl _ _)) | exact KS.out _ (below_drew ((Below.refl _ _).alloc (Nat.le_refl _) _)) | exact KS.out _ R9 | exact KS.out _ (R9.alloc R9.size _) | exact KS.out _ (((R9.setCell (Nat.le_refl _) _).setCell (Nat.le_refl _) _).setCell (Nat.le_refl _) _) | fail)
                    (first
                    | (go_at_call 122; (with_reducible refine (hIn _).mono ?_); rintro e w9' ⟨rfl, rfl⟩)
                    | (go_at_call 76; (with_reducible refine (HB2.out _ (by first | exact below_drew (Below.refl _ _) | exact below_drew ((Below.refl _ _).alloc (Nat.le_refl _) _) | fail)).mono ?_); rintro e w9 ⟨rfl, b9⟩; have R9 : Below w8.heap.size w8 w9 := (by first | exact below_undrew b9 | exact ((Below.refl _ _).alloc (Nat.le_refl _) _).trans ((below_undrew b9).mono (by simp))); (try (have q16 := (Whole.drew (Whole.new _ _ _)).below b9 (by simp); have p160 := q16.cell 0; have p161 := q16.cell 1; have p162 := q16.cell 2; have p163 := q16.frozen 0; have p164 := q16.frozen 1; have p165 := q16.frozen 2; simp only [List.getElem?_toArray, List.getElem?_cons_zero, List.getElem?_cons_succ] at p160 p161 p162)))
                    | fail)
                all_goals
                  first
                  | (have q20 := ((q16.set_ 0 (.slice none 0 0)).set_ 1 (.int .i64 (code : Int))).set_ 2 (.int .i64 (T : Int))
                     have lo10 : Below w8.heap.size w8 (((w9.setCell ⟨w8.heap.size, 0, none⟩ (.slice none 0 0)).setCell ⟨w8.heap.size, 1, none⟩ (.int .i64 (code : Int))).setCell ⟨w8.heap.size, 2, none⟩ (.int .i64 (T : Int))) := ((R9.setCell (Nat.le_refl _) _).setCell (Nat.le_refl _) _).setCell (Nat.le_refl _) _
                     generalize ((w9.setCell ⟨w8.heap.size, 0, none⟩ (.slice none 0 0)).setCell ⟨w8.heap.size, 1, none⟩ (.int .i64 (code : Int))).setCell ⟨w8.heap.size, 2, none⟩ (.int .i64 (T : Int)) = w10 at *)
                  | (have q20 := Whole.new w9 111 #[.slice none 0 0, .int .i64 (code : Int), .int .i64 (T : Int)]
                     have lo10 : Below w8.heap.size w8 (w9.alloc (.cells #[.slice none 0 0, .int .i64 (code : Int), .int .i64 (T : Int)] 111)) := R9.alloc R9.size _
                     generalize w9.alloc (.cells #[.slice none 0 0, .int .i64 (code : Int), .int .i64 (T : Int)] 111) = w10 at *)
                  have hP10 := hP8.below lo10
                  have hl10 := hl8.trans (lo10.mono hl8.size)
                  have k160 := q20.cell 0
                  have k161 := q20.cell 1
                  have k162 := q20.cell 2
                  (try simp only [List.getElem?_setIfInBounds, List.getElem?_toArray, List.getElem?_cons_zero, List.getElem?_cons_succ] at k160 k161 k162)
                  (try clear p160 p161 p162 p163 p164 p165 q16)
                  clear hP8 lo10 R9 b9 hl8 q20
                  clear zn0 zn1 zn2 zf0 zf1 zf2 zf3 zf4 zf5 zf6 zr0 zr1 zr2 yr0 yr1 yr2 yn1 yn2
                  have zn0 := hP10.n0
                  have zn1 := hP10.n1
                  have zn2 := hP10.n2
                  have zf0 := hP10.f0
                  have zf1 := hP10.f1
                  have zf2 := hP10.f2
                  have zf3 := hP10.f3
                  have zf4 := hP10.f4
                  have zf5 := hP10.f5
                  have zf6 := hP10.f6
                  have zr0 := hP10.r0
                  have yr0 := hP10.b8.frozen 0
                  have zr1 := hP10.r1
                  have yr1 := hP10.b8.frozen 1
                  have zr2 := hP10.r2
                  have yr2 := hP10.b8.frozen 2
                  have yn1 := hP10.b14.frozen 1
                  have yn2 := hP10.b14.frozen 2
                  go_wp2_with fail
                  (try simp only [Exit.inBlock, Exit.then])
                  refine bodyPost_ret (results_cell_row rfl _ _ w.heap.size 111 #[.slice none 0 0, .int .i64 (code : Int), .int .i64 (T : Int)] (0, 0) _ rfl (((hP10.b8.set_ 0 _).set_ 1 _).set_ 2 _) Tryz.underlying111 rfl (by kernel_rfl)) rfl ?_
                  rw [hpa.out]
                  exact ⟨((((hlow6.out w10 hl10)).setCell (Nat.le_refl _) _).setCell (Nat.le_refl _) _).setCell (Nat.le_refl _) _, ret_agg3 rfl (by first | omega | (have := HON.out; omega) | (have := HON.out; have := HTN.out; omega))⟩
              | ok kids =>
                have hkl := pa_len hr
                rw [List.length_drop] at hkl
                have hkl2 : kids.length ≤ 100000 := by have := HPF.out; omega
                have HB2 : Hid (∀ W, Below w8.heap.size w8 W → Calls Tryz.prog 76 #[.int .i64 (ins F.ki).1, .slice VA (fr.v.length - l0) (cv - l0), .int .i64 ((O : Int) + 4 + (l0 : Int)), .int .i64 ((d : Int) + 1)] W fun e w' => ∃ A' c', e = .returned (.agg #[.slice A' kids.length c', .int .i64 0, .int .i64 0]) ∧ Hid (NodesS w' (fun x => x < B ∨ (W.heap.size ≤ x ∧ x < w'.heap.size)) A' kids ∧ kids.length ≤ c' ∧ c' ≤ maxLen) ∧ Below W.heap.size W w') := fun W hW => by
                  have h9 := HS.out W (hl8.trans (hW.mono hl8.size))
                  rw [hr] at h9
                  refine Calls.mono (R := RP W B (.ok kids) (O + 4 + l0)) h9 ?_
                  rintro e w' ⟨h1, A', c', h2, h3⟩
                  exact ⟨A', c', h2, h3, h1⟩
                have HWt : Hid (∀ (K : Option Addr) (kk : Nat) W, Nodes W W.heap.size K kids → Calls Tryz.prog 123 #[.agg #[.int .i64 F.cl, hv F.ty, .string F.nm, .int .i64 (l0 : Int), .int .i64 F.hi, .int .i64 F.un, .int .i64 F.ki], .slice K kids.length kk] W fun e w' => e = .returned (.bool (insB F.ki kids)) ∧ Below W.heap.size W w') := fun K kk W hW => by
                  have h1 := rwanted_any F hkr K kk kids W hW (by omega)
                  unfold Form.val at h1
                  rw [HL0.out.1] at h1
                  exact h1
                have HR7k := Lib.hid (HR7.out kids hr)
                have HROk := Lib.hid (HRO.out kids hr)
                clear hr HR7 HRO HRB
                generalize (ins F.ki).1 = ci at *
                rcases h8 with h82 | ⟨h82, h83⟩
                all_goals
                  go_wp2_with fail
                  go_region_held3 (fun V => V.cell? ⟨g15, 3, none⟩ = some (.int .i64 (l0 : Int)) ∧ V.cell? ⟨g15, 6, none⟩ = some (.int .i64 F.ki))
                    (first | exact KS.out _ (below_drew (Below.refl _ _)) | exact KS.out _ (below_drew ((Below.refl _ _).alloc (Nat.le_refl _) _)) | exact KS.out _ R9 | exact KS.out _ (R9.alloc R9.size _) | exact KS.out _ (((R9.setCell (Nat.le_refl _) _).setCell (Nat.le_refl _) _).setCell (Nat.le_refl _) _) | fail)
                    (first
                    | (go_at_call 122; (with_reducible refine (hIn _).mono ?_); rintro e w9' ⟨rfl, rfl⟩)
                    | (go_at_call 76; (with_reducible refine (HB2.out _ (by first | exact below_drew (Below.refl _ _) | exact below_drew ((Below.refl _ _).alloc (Nat.le_refl _) _) | fail)).mono ?_); rintro e w9 ⟨A9, c9, rfl, hk9, b9⟩; have R9 : Below w8.heap.size w8 w9 := (by first | exact below_undrew b9 | exact ((Below.refl _ _).alloc (Nat.le_refl _) _).trans ((below_undrew b9).mono (by simp))); (try (have q16 := (Whole.drew (Whole.new _ _ _)).below b9 (by simp); have p160 := q16.cell 0; have p161 := q16.cell 1; have p162 := q16.cell 2; have p163 := q16.frozen 0; have p164 := q16.frozen 1; have p165 := q16.frozen 2; simp only [List.getElem?_toArray, List.getElem?_cons_zero, List.getElem?_cons_succ] at p160 p161 p162)))
                    | fail)
                all_goals
                  have hB8 : B < w8.heap.size := by have := hl8.size; omega
                  first
                  | (have q20 := ((q16.set_ 0 (.slice A9 kids.length c9)).set_ 1 (.int .i64 0)).set_ 2 (.int .i64 0)
                     have lo10 : Below w8.heap.size w8 (((w9.setCell ⟨w8.heap.size, 0, none⟩ (.slice A9 kids.length c9)).setCell ⟨w8.heap.size, 1, none⟩ (.int .i64 0)).setCell ⟨w8.heap.size, 2, none⟩ (.int .i64 0)) := ((R9.setCell (Nat.le_refl _) _).setCell (Nat.le_refl _) _).setCell (Nat.le_refl _) _
                     have hk10 : Hid (NodesS (((w9.setCell ⟨w8.heap.size, 0, none⟩ (.slice A9 kids.length c9)).setCell ⟨w8.heap.size, 1, none⟩ (.int .i64 0)).setCell ⟨w8.heap.size, 2, none⟩ (.int .i64 0)) (fun x => x < B ∨ (w8.heap.size ≤ x ∧ x < (((w9.setCell ⟨w8.heap.size, 0, none⟩ (.slice A9 kids.length c9)).setCell ⟨w8.heap.size, 1, none⟩ (.int .i64 0)).setCell ⟨w8.heap.size, 2, none⟩ (.int .i64 0)).heap.size)) A9 kids) := kids_set hk9.out.1 hB8
                     generalize ((w9.setCell ⟨w8.heap.size, 0, none⟩ (.slice A9 kids.length c9)).setCell ⟨w8.heap.size, 1, none⟩ (.int .i64 0)).setCell ⟨w8.heap.size, 2, none⟩ (.int .i64 0) = w10 at *)
                  | (have q20 := Whole.new w9 111 #[.slice A9 kids.length c9, .int .i64 0, .int .i64 0]
                     have lo10 : Below w8.heap.size w8 (w9.alloc (.cells #[.slice A9 kids.length c9, .int .i64 0, .int .i64 0] 111)) := R9.alloc R9.size _
                     have hk10 : Hid (NodesS (w9.alloc (.cells #[.slice A9 kids.length c9, .int .i64 0, .int .i64 0] 111)) (fun x => x < B ∨ (w8.heap.size ≤ x ∧ x < (w9.alloc (.cells #[.slice A9 kids.length c9, .int .i64 0, .int .i64 0] 111)).heap.size)) A9 kids) := kids_alloc hk9.out.1 (by have := R9.size; omega) _
                     generalize w9.alloc (.cells #[.slice A9 kids.length c9, .int .i64 0, .int .i64 0] 111) = w10 at *)
                  have hP10 := hP8.below lo10
                  have hl10 := hl8.trans (lo10.mono hl8.size)
                  have hsz10 := lo10.size
                  have k160 := q20.cell 0
                  have k161 := q20.cell 1
                  have k162 := q20.cell 2
                  (try simp only [List.getElem?_setIfInBounds, List.getElem?_toArray, List.getElem?_cons_zero, List.getElem?_cons_succ] at k160 k161 k162)
                  have hwr8 : wr.heap.size < w8.heap.size := hP8.b14.lt
                  have hkc9 := hk9.out.2
                  (try clear p160 p161 p162 p163 p164 p165 q16)
                  clear hP8 lo10 R9 b9 q20 hk9
                  clear zn0 zn1 zn2 zf0 zf1 zf2 zf3 zf4 zf5 zf6 zr0 zr1 zr2 yr0 yr1 yr2 yn1 yn2
                  have zn0 := hP10.n0
                  have zn1 := hP10.n1
                  have zn2 := hP10.n2
                  have zf0 := hP10.f0
                  have zf1 := hP10.f1
                  have zf2 := hP10.f2
                  have zf3 := hP10.f3
                  have zf4 := hP10.f4
                  have zf5 := hP10.f5
                  have zf6 := hP10.f6
                  have zr0 := hP10.r0
                  have yr0 := hP10.b8.frozen 0
                  have zr1 := hP10.r1
                  have yr1 := hP10.b8.frozen 1
                  have zr2 := hP10.r2
                  have yr2 := hP10.b8.frozen 2
                  have yn1 := hP10.b14.frozen 1
                  have yn2 := hP10.b14.frozen 2
                  go_upto_region 25 with fail
                  have hP11 := hP10.set2 (by omega) (by omega) (by omega) hg15 A9 kids.length c9
                  have hl11 : Below wr.heap.size wr (w10.setCell ⟨wr.heap.size, 2, none⟩ (.slice A9 kids.length c9)) := hl10.setCell (Nat.le_refl _) _
                  have hk11 : Hid (NodesS (w10.setCell ⟨wr.heap.size, 2, none⟩ (.slice A9 kids.length c9)) (fun x => x < B ∨ (w8.heap.size ≤ x ∧ x < (w10.setCell ⟨wr.heap.size, 2, none⟩ (.slice A9 kids.length c9)).heap.size)) A9 kids) := kids_far hk10.out (by omega) hwr8 _ _
                  generalize w10.setCell ⟨wr.heap.size, 2, none⟩ (.slice A9 kids.length c9) = w11 at *
                  clear hP10 hk10 hl10 k160 k161 k162
                  have hWt := HWt.out A9 c9 w11 (hk11.out.nodes fun x hx => by have := hl11.size; rcases hx with hx | hx <;> omega)
                  clear zn0 zn1 zn2 zf0 zf1 zf2 zf3 zf4 zf5 zf6 zr0 zr1 zr2 yr0 yr1 yr2 yn1 yn2
                  have zn0 := hP11.n0
                  have zn1 := hP11.n1
                  have zn2 := hP11.n2
                  have zf0 := hP11.f0
                  have zf1 := hP11.f1
                  have zf2 := hP11.f2
                  have zf3 := hP11.f3
                  have zf4 := hP11.f4
                  have zf5 := hP11.f5
                  have zf6 := hP11.f6
                  have zr0 := hP11.r0
                  have yr0 := hP11.b8.frozen 0
                  have zr1 := hP11.r1
                  have yr1 := hP11.b8.frozen 1
                  have zr2 := hP11.r2
                  have yr2 := hP11.b8.frozen 2
                  have yn1 := hP11.b14.frozen 1
                  have yn2 := hP11.b14.frozen 2
                  cases hib : insB F.ki kids with
                  | false =>
                    rw [hib] at hWt
                    have hpa := Lib.hid (HR7k.out hib)
                    clear hib HR7k HROk
                    go_wp2_with fail
                    refine hWt.mono ?_
                    rintro e w12 ⟨rfl, b12⟩
                    have hP12 := hP11.below b12
                    have hl12 := hl11.trans (b12.mono hl11.size)
                    clear zn0 zn1 zn2 zf0 zf1 zf2 zf3 zf4 zf5 zf6 zr0 zr1 zr2 yr0 yr1 yr2 yn1 yn2
                    have zn0 := hP12.n0
                    have zn1 := hP12.n1
                    have zn2 := hP12.n2
                    have zf0 := hP12.f0
                    have zf1 := hP12.f1
                    have zf2 := hP12.f2
                    have zf3 := hP12.f3
                    have zf4 := hP12.f4
                    have zf5 := hP12.f5
                    have zf6 := hP12.f6
                    have zr0 := hP12.r0
                    have yr0 := hP12.b8.frozen 0
                    have zr1 := hP12.r1
                    have yr1 := hP12.b8.frozen 1
                    have zr2 := hP12.r2
                    have yr2 := hP12.b8.frozen 2
                    have yn1 := hP12.b14.frozen 1
                    have yn2 := hP12.b14.frozen 2
                    go_wp2_with fail
                    (try simp only [Exit.inBlock, Exit.then])
                    refine bodyPost_ret (results_cell_row rfl _ _ w.heap.size 111 #[.slice none 0 0, .int .i64 7, .int .i64 (O : Int)] (0, 0) _ rfl (((hP12.b8.set_ 0 _).set_ 1 _).set_ 2 _) Tryz.underlying111 rfl (by kernel_rfl)) rfl ?_
                    rw [hpa.out]
                    exact ⟨((((hlow6.out w12 hl12)).setCell (Nat.le_refl _) _).setCell (Nat.le_refl _) _).setCell (Nat.le_refl _) _, ret_agg3 rfl (by first | omega | (have := HON.out; omega) | (have := HON.out; have := HTN.out; omega))⟩
                  | true =>
                    rw [hib] at hWt
                    have HRX := Lib.hid (HROk.out hib)
                    clear hib HR7k HROk
                    go_wp2_with fail
                    refine hWt.mono ?_
                    rintro e w12 ⟨rfl, b12⟩
                    have hP12 := hP11.below b12
                    have hl12 := hl11.trans (b12.mono hl11.size)
                    have hl8s := hl8.size
                    have hk12 := hk11.out.turn (w' := w12) (S' := fun x => x < B ∨ (w8.heap.size ≤ x ∧ x < w12.heap.size)) (fun p hp => b12.cell (by have := hl11.size; rcases hp with hp | hp <;> omega)) (fun x hx => by have := b12.size; rcases hx with hx | hx; (exact .inl hx); (exact .inr ⟨hx.1, by omega⟩))
                    clear zn0 zn1 zn2 zf0 zf1 zf2 zf3 zf4 zf5 zf6 zr0 zr1 zr2 yr0 yr1 yr2 yn1 yn2
                    have zn0 := hP12.n0
                    have zn1 := hP12.n1
                    have zn2 := hP12.n2
                    have zf0 := hP12.f0
                    have zf1 := hP12.f1
                    have zf2 := hP12.f2
                    have zf3 := hP12.f3
                    have zf4 := hP12.f4
                    have zf5 := hP12.f5
                    have zf6 := hP12.f6
                    have zr0 := hP12.r0
                    have yr0 := hP12.b8.frozen 0
                    have zr1 := hP12.r1
                    have yr1 := hP12.b8.frozen 1
                    have zr2 := hP12.r2
                    have yr2 := hP12.b8.frozen 2
                    have yn1 := hP12.b14.frozen 1
                    have yn2 := hP12.b14.frozen 2
                    have hrW := hrow.below hl12
                    have hlz := (hl12).size
                    have hNn : NodeS w12 (RowF B w3.heap.size w12 (.slice Ao k co)) (some adv) cv A9 c9 (.mk fr.t (fr.v.take l0) kids) := nodeS_of hrW hBX (by omega) (HLD.out.below ((hl12).mono (by omega))) (by rw [HTL.out]; omega) hvm hk12 (Y := w8.heap.size) (fun g hg => by obtain ⟨u3, ho3, _⟩ := hrow.own; have := (ho3.lt g hg).2; omega) (by omega) hkc9.1 hkc9.2
                    obtain ⟨us3, hown3, Ks3, cs3, hE3⟩ := hrW.own
                    have HPU := Lib.hid (fun W3 v' (hg : (w12.alloc (.cells #[hv fr.t, .slice (some adv) l0 cv, .slice A9 kids.length c9] 50)).grownBy W3 (Value.slice Ao k co).ownBlock) (hown : W3.ownsRow w3.heap.size 50 3 v' (ns.length + 1) (us3 ++ [hv fr.t, .slice (some adv) l0 cv, .slice A9 kids.length c9])) hblk => NRowF.push (.cells #[hv fr.t, .slice (some adv) l0 cv, .slice A9 kids.length c9] 50) hown3 hE3 hNn hg ((fun h => by rw [← HTL.out] at h; exact h) hown) hblk)
                    have HOK := Lib.hid (HRX.out)
                    rw [hnl] at hown3
                    have HO3 := Lib.hid (hown3.alloc (.cells #[hv fr.t, .slice (some adv) l0 cv, .slice A9 kids.length c9] 50))
                    have hXg : ∀ g, (Value.slice Ao k co).ownBlock = some g → w3.heap.size ≤ g := fun g hg => (hown3.lt g hg).1
                    have z10 := hP12.b10.cell 0
                    have y10 := hP12.b10.frozen 0
                    simp only [List.getElem?_toArray, List.getElem?_cons_zero] at z10
                    have hNW : ∀ j u, [hv fr.t, .slice (some adv) l0 cv, .slice A9 kids.length c9][j]? = some u → (w12.alloc (.cells #[hv fr.t, .slice (some adv) l0 cv, .slice A9 kids.length c9] 50)).cell? ((⟨w12.heap.size, 0, none⟩ : Addr).add j) = some u := fun j u hu => by
                      rw [add_row, (Whole.new w12 50 #[hv fr.t, .slice (some adv) l0 cv, .slice A9 kids.length c9]).cell]
                      simpa using hu
                    have HNW := Lib.hid hNW
                    have HP10 := Lib.hid (hP12.b10.alloc (.cells #[hv fr.t, .slice (some adv) l0 cv, .slice A9 kids.length c9] 50))
                    have HP9 := Lib.hid (hP12.b9.alloc (.cells #[hv fr.t, .slice (some adv) l0 cv, .slice A9 kids.length c9] 50))
                    have HLW := Lib.hid (hl12)
                    have hlt10 := hP12.b10.lt
                    clear hNW hown3 hE3 hNn hrW
                    go_wp2_with (at_builtin; refine wpList_append_told _ rfl (.tmp 139) (.tmp 141) 23 rfl w3.heap.size 50 _ 3 56 Tryz.underlying23 ndinfo rfl (by omega) (.slice Ao k co) k us3 rfl HO3.out _ 1 1 (by omega) [hv fr.t, .slice (some adv) l0 cv, .slice A9 kids.length c9] rfl rfl HNW.out (by intro u hu; simp at hu; rcases hu with rfl | rfl | rfl <;> rfl) (by unfold maxLen; omega) (by omega) (by simp; omega) ?_; intro v' wz hownz hgrowz hblkz; obtain ⟨Az, cz, rfl⟩ := own_slice3 hownz; have hb10z := HP10.out.grown hgrowz (fun e => by have := hXg _ e.symm; omega); have z10z := hb10z.cell 0; have y10z := hb10z.frozen 0; simp only [List.getElem?_toArray, List.getElem?_cons_zero] at z10z)
                    have hb9z := HP9.out.grown hgrowz (fun e => by have := hXg _ e.symm; omega)
                    have hpush := HPU.out wz _ hgrowz (by rw [hnl]; exact hownz) (by simpa using hblkz)
                    have hlowz : Below wr.heap.size wr (w12.alloc (.cells #[hv fr.t, .slice (some adv) l0 cv, .slice A9 kids.length c9] 50)) := HLW.out.alloc HLW.out.size _
                    have hszz := hgrowz.size
                    have hbz : Below w1.heap.size w1 wz := (hbel.trans (hlowz.mono hbel.size)).grown hgrowz (Nat.le_trans hbel.size hlowz.size) (fun g hg => by have := hXg g hg; omega)
                    have HREL : Hid (Below w1.heap.size w1 (wz.setCell ⟨w2.heap.size, 0, none⟩ (.slice Az (k + 1) cz)) ∧ w3.heap.size ≤ (wz.setCell ⟨w2.heap.size, 0, none⟩ (.slice Az (k + 1) cz)).heap.size ∧ Whole (wz.setCell ⟨w2.heap.size, 0, none⟩ (.slice Az (k + 1) cz)) w1.heap.size 166 #[.slice (some ad1) (yla b 0).length c1, .slice (some ad2) (yla b 0).length c2, .int .i64 0, .int .i64 0] ∧
                        Whole (wz.setCell ⟨w2.heap.size, 0, none⟩ (.slice Az (k + 1) cz)) w2.heap.size 111 #[.slice Az (k + 1) cz, .int .i64 0, .int .i64 0] ∧
                        ∃ ns : List Nd, ns.length = k + 1 ∧ NRowF B w3.heap.size (wz.setCell ⟨w2.heap.size, 0, none⟩ (.slice Az (k + 1) cz)) (.slice Az (k + 1) cz) ns ∧ ((yla b 0).take (k + 1)).map (fun p => rd f c p.2) = ns.map NR.ok) :=
                      ⟨hbz.setCell (by simp; omega) _, by simp [World.setCell]; have := hlowz.size; omega, hb9z.far (by simp; omega) _, hb10z.set_ 0 _, ns ++ [(.mk fr.t (fr.v.take l0) kids)], by simp [hnl], hpush.setCell (by omega) (by omega) 0 _, HOK.out⟩
                    clear hpush hb9z hb10z hownz hgrowz hblkz hbz HPU
                    go_wp2_with fail
                    go_roundw
                    case rel => exact ⟨k + 1, Az, cz, by omega, by go_num, HREL.out⟩
                    case measure => simp [intOf]; omega
            · have hlen : fr.v.length < l0 := by omega
              have hFt1 := hFt fr.v.length
              rw [hfl0.2 _ hlen] at hFt1
              have hpa := Lib.hid (hbad.out 7 0 (by rw [hrs.out]; exact rd_kid7 HFe.out hk0 HL0.out.1 hlen))
              have hmin : min (l0 : Int) (fr.v.length : Int) = (fr.v.length : Int) := by omega
              have hvci : (fr.v.length : Int) ≤ (cv : Int) := by omega
              clear hfl0 hk0 hFt hFtl hlk hn2 hle hlen
              go_upto_region 16 with fail
              have hP7 := hP.set1 (by omega) (by omega) (by omega) hg15 (some adv) fr.v.length cv
              have hl7 : Below wr.heap.size wr (w6.setCell ⟨wr.heap.size, 1, none⟩ (.slice (some adv) fr.v.length cv)) := hl6.setCell (Nat.le_refl _) _
              generalize w6.setCell ⟨wr.heap.size, 1, none⟩ (.slice (some adv) fr.v.length cv) = w7 at *
              clear zn0 zn1 zn2 zf0 zf1 zf2 zf3 zf4 zf5 zf6 zr0 zr1 zr2 yr0 yr1 yr2 yn1 yn2
              have zn0 := hP7.n0
              have zn1 := hP7.n1
              have zn2 := hP7.n2
              have zf0 := hP7.f0
              have zf1 := hP7.f1
              have zf2 := hP7.f2
              have zf3 := hP7.f3
              have zf4 := hP7.f4
              have zf5 := hP7.f5
              have zf6 := hP7.f6
              have zr0 := hP7.r0
              have yr0 := hP7.b8.frozen 0
              have zr1 := hP7.r1
              have yr1 := hP7.b8.frozen 1
              have zr2 := hP7.r2
              have yr2 := hP7.b8.frozen 2
              have yn1 := hP7.b14.frozen 1
              have yn2 := hP7.b14.frozen 2
              go_wp2_with fail
              refine (hFt1 _).mono ?_
              rintro e w8 ⟨rfl, b8⟩
              have hP8 := hP7.below b8
              have hl8 := hl7.trans (b8.mono hl7.size)
              clear zn0 zn1 zn2 zf0 zf1 zf2 zf3 zf4 zf5 zf6 zr0 zr1 zr2 yr0 yr1 yr2 yn1 yn2
              have zn0 := hP8.n0
              have zn1 := hP8.n1
              have zn2 := hP8.n2
              have zf0 := hP8.f0
              have zf1 := hP8.f1
              have zf2 := hP8.f2
              have zf3 := hP8.f3
              have zf4 := hP8.f4
              have zf5 := hP8.f5
              have zf6 := hP8.f6
              have zr0 := hP8.r0
              have yr0 := hP8.b8.frozen 0
              have zr1 := hP8.r1
              have yr1 := hP8.b8.frozen 1
              have zr2 := hP8.r2
              have yr2 := hP8.b8.frozen 2
              have yn1 := hP8.b14.frozen 1
              have yn2 := hP8.b14.frozen 2
              go_wp2_with fail
              (try simp only [Exit.inBlock, Exit.then])
              refine bodyPost_ret (results_cell_row rfl _ _ w.heap.size 111 #[.slice none 0 0, .int .i64 7, .int .i64 (O : Int)] (0, 0) _ rfl (((hP8.b8.set_ 0 _).set_ 1 _).set_ 2 _) Tryz.underlying111 rfl (by kernel_rfl)) rfl ?_
              rw [hpa.out]
              exact ⟨((((hlow6.out w8 hl8)).setCell (Nat.le_refl _) _).setCell (Nat.le_refl _) _).setCell (Nat.le_refl _) _, ret_agg3 rfl (by first | omega | (have := HON.out; omega) | (have := HON.out; have := HTN.out; omega))⟩
    · obtain rfl : k = (yla b 0).length := by omega
      have hpa : pa f c b = .ok ns := by
        rw [HRES.out]
        rw [List.take_length] at hres
        exact stepL_ok hres
      have HPA := Lib.hid hpa
      have HRW := Lib.hid hrow
      have z100 := x10.cell 0
      have z101 := x10.cell 1
      have z102 := x10.cell 2
      have zr0 := x8.cell 0
      have zr1 := x8.cell 1
      have zr2 := x8.cell 2
      have yr0 := x8.frozen 0
      have yr1 := x8.frozen 1
      have yr2 := x8.frozen 2
      have y90 := x9.cell 0
      simp only [List.getElem?_toArray, List.getElem?_cons_zero, List.getElem?_cons_succ] at z100 z101 z102 zr0 zr1 zr2 y90
      have HNL := Lib.hid hnl
      clear hpa hres hrow hnl
      go_wp2_with fail
      (try simp only [Exit.inBlock, Exit.then])
      refine bodyPost_ret (results_cell_row rfl _ _ w.heap.size 111 #[.slice Ao (yla b 0).length co, .int .i64 0, .int .i64 0] (0, 0) _ rfl (((x8.set_ 0 _).set_ 1 _).set_ 2 _) Tryz.underlying111 rfl (by kernel_rfl)) rfl ?_
      have hr3 := ((HRW.out.setCell hB (by omega) 0 (.slice Ao (yla b 0).length co)).setCell hB (by omega) 1 (.int .i64 0)).setCell hB (by omega) 2 (.int .i64 0)
      rw [← HNL.out] at hr3 ⊢
      have hfin := hr3.nodesS
      rw [HPA.out]
      have hlw : Below w.heap.size w wr := HB10.out.trans (hbel.mono HB10.out.size)
      exact ⟨((hlw.setCell (Nat.le_refl _) _).setCell (Nat.le_refl _) _).setCell (Nat.le_refl _) _, Ao, co, rfl, hfin.1.turn (fun _ _ => rfl) (fun x hx => by rcases hx with hx | hx; (exact .inl hx); (exact .inr ⟨by omega, hx.2⟩)), hfin.2.1, hfin.2.2⟩

theorem rparse_all : ∀ f, RParseOK f
  | 0 => rparse_step 0 (fun g h => by omega)
  | f + 1 => rparse_step (f + 1) (fun g h => (show g = f by omega) ▸ rparse_all f)
end Go.Proofs.YthkbcpbgoefanaaGreatDoor




namespace Go.Proofs.YthkbcpbgoefanaaGreatDoor
open Go.ChangeShapes Go.WideShapes Go.ChangeAt Go.RowKit

theorem len_le_sizes (l : List Nat) (h : ∀ n ∈ l, 1 ≤ n) : l.length ≤ sizes l := by
  have key : ∀ (l : List Nat) (s : Nat), (∀ n ∈ l, 1 ≤ n) → s + l.length ≤ l.foldl (fun s n => up s + n) s := by
    intro l
    induction l with
    | nil => intro s _; simp
    | cons x l ih =>
      intro s hx
      have h1 := ih (up s + x) fun n hn => hx n (by simp [hn])
      have h2 := up_le s
      have h3 := hx x (by simp)
      simp only [List.foldl_cons, List.length_cons]
      omega
  have := key l 0 h
  simpa [sizes] using this
theorem nds_le (ns : List Nd) : ns.length ≤ sizes (lens ns) := by
  have := len_le_sizes (lens ns) (by intro n hn; rw [lens_map] at hn; obtain ⟨m, _, rfl⟩ := List.mem_map.1 hn; omega)
  rwa [lens_len] at this
theorem fine_small (n : Nd) : n.vlen ≤ 1000 * 2 → n.ks.length ≤ 1000 → (∀ k ∈ n.ks, Fine k) → Fine n := fun h1 h2 h3 => .mk (by omega) h2 h3
theorem vlen_kid {n k : Nd} (h : k ∈ n.ks) : 4 + k.vlen ≤ n.vlen := by
  rw [n.vlen_eq]
  have h1 := sizes_mem (l := lens n.ks) (x := 4 + k.vlen) (by rw [lens_map]; exact List.mem_map.2 ⟨k, h, rfl⟩)
  omega
theorem kl4 (n : Nd) : 4 * n.ks.length ≤ n.vlen + 4 * 0 ∨ n.ks.length ≤ n.vlen := .inr (by rw [n.vlen_eq]; have := nds_le n.ks; omega)
theorem sizes4 (ns : List Nd) : 4 * ns.length ≤ sizes (lens ns) := by
  have key : ∀ (l : List Nd) (s : Nat), s + 4 * l.length ≤ (lens l).foldl (fun s n => up s + n) s := by
    intro l
    induction l with
    | nil => intro s; simp [lens]
    | cons x l ih =>
      intro s
      have h1 := ih (up s + (4 + x.vlen))
      have h2 := up_le s
      simp only [lens, List.foldl_cons, List.length_cons]
      omega
  have := key ns 0
  simpa [sizes] using this
theorem fine_of (n : Nd) : n.vlen ≤ 2000 → Fine n :=
  Nd.ind (P := fun n => n.vlen ≤ 2000 → Fine n) (fun t v ks ih h => by
    have h1 := sizes4 ks
    have h2 := (Nd.mk t v ks).vlen_eq
    simp only [Nd.ks, Nd.v] at h2
    exact .mk (by omega) (by show ks.length ≤ 1000; omega) fun k hk => ih k hk (by have := vlen_kid (n := .mk t v ks) hk; omega)) n
theorem fine_list {ns : List Nd} (h : sizes (lens ns) ≤ 2000) : ns.length ≤ 1000 ∧ ∀ n ∈ ns, Fine n := by
  refine ⟨by have := nds_le ns; have := sizes4 ns; omega, fun n hn => fine_of n ?_⟩
  have h1 := sizes_mem (l := lens ns) (x := 4 + n.vlen) (by rw [lens_map]; exact List.mem_map.2 ⟨n, hn, rfl⟩)
  omega
theorem chkL_zero {c : Int} {ns : List Nd} (h : ∀ n ∈ ns, chk 4 c n = 0) : chkL c ns = 0 := by
  unfold chkL
  refine fst0_none fun j y _ hy => ?_
  rw [List.getElem?_map] at hy
  obtain ⟨m, hm, rfl⟩ := Option.map_eq_some_iff.1 hy
  exact h m (List.mem_of_getElem? hm)
/-- a row of bytes, whatever they are, in a block -/
def Byts (W : World) (g n : Nat) : Prop := ∃ cur : Array Value, Whole W g 5 cur ∧ ∀ j, j < n → ∃ x : UInt8, cur[j]? = some (bv x)
theorem Byts.at_ {W : World} {g n k : Nat} (h : Byts W g n) (hk : k < n) : ∃ x : UInt8, W.cell? ⟨g, k, none⟩ = some (.int .u8 (x.toNat : Int)) ∧ W.frozen? ⟨g, k, none⟩ = false ∧ Hid (∀ y : UInt8, Byts (W.setCell ⟨g, k, none⟩ (bv y)) g n) := by
  obtain ⟨cur, h1, h2⟩ := h
  obtain ⟨x, hx⟩ := h2 k hk
  refine ⟨x, by rw [h1.cell]; exact hx, h1.frozen k, fun y => ⟨_, h1.set_ k _, fun j hj => ?_⟩⟩
  rw [Array.getElem?_setIfInBounds]
  by_cases hjk : k = j
  · subst hjk
    rw [if_pos rfl, if_pos (Array.getElem?_eq_some_iff.1 hx).1]
    exact ⟨y, rfl⟩
  · rw [if_neg hjk]
    exact h2 j hj
theorem byts_own {W : World} {base n c : Nat} {A : Option Addr} {l : List UInt8} (h : W.ownsRow base 5 1 (.slice A n c) n (l.map bv)) (hn : 0 < n) : ∃ g, A = some ⟨g, 0, none⟩ ∧ base ≤ g ∧ g < W.heap.size ∧ Byts W g n ∧ (Value.slice A n c).ownBlock = some g := by
  have hl : (l.map bv).length = n := (own_cap h).1
  rcases h.2 with ⟨h1, h2⟩ | ⟨g, cap, cur, h1, h2, h3, _⟩
  · omega
  · simp only [Value.slice.injEq] at h1
    obtain ⟨rfl, _, _⟩ := h1
    refine ⟨g, rfl, h2, (Array.getElem?_eq_some_iff.1 h3).1, ⟨cur, h3, fun j hj => ?_⟩, rfl⟩
    have hc := h.cells (g := g) rfl
    have hj2 : j < l.length := by rw [List.length_map] at hl; omega
    have h5 := hc j (bv l[j]) (by rw [List.getElem?_map, List.getElem?_eq_getElem hj2]; rfl)
    rw [add_row, Whole.cell (show Whole W g 5 cur from h3)] at h5
    exact ⟨_, h5⟩
theorem wrap_up1 (x : UInt8) : Value.int .u8 (((x.toNat : Int) + 1) % 256) = bv (UInt8.ofNat (x.toNat + 1)) := by
  rw [bv, UInt8.toNat_ofNat']
  congr 1
end Go.Proofs.YthkbcpbgoefanaaGreatDoor


