/- NodeN + NodeO -/
/- NodeU + OpenN -/
import Derived.Test.YteknmgmdmjmnmaaGreatDoorUNF
import Derived.Test.YteknmgmdmjmnmaaGreatDoorUNA
import Derived.Test.YteknmgmdmjmnmaaGreatDoorUTC
import Derived.Deep.RegionHeld3
import Derived.Test.YteknmgmdmjmnmaaGreatDoorUA
import Derived.ChangeSame
import Derived.Deep.Strs

namespace Go.Proofs.YteknmgmdmjmnmaaGreatDoor
open Go.RowKit Go.Shelf

attribute [local go_sem] Oper.semAt_some

section
variable {w w' : World} {S S' : Nat → Prop} {A K : Option Addr} {c k B : Nat} {n : Nd} {ns : List Nd} {xs us : List Value} {v : Value} {l : List UInt8}
theorem LiesS.turn2 (h : LiesS w S A xs) (hk : ∀ (p : Addr) (u : Value), S p.block → w.cell? p = some u → w'.cell? p = some u) (hs : ∀ b, S b → S' b) : LiesS w' S' A xs := fun hne => by
  obtain ⟨ad, h1, h2, h3⟩ := h hne
  exact ⟨ad, h1, hs _ h2, fun j u hu => hk _ u (by rw [blk_add]; exact h2) (h3 j u hu)⟩
theorem IsBS.turn2 (h : IsBS w S v l) (hk : ∀ (p : Addr) (u : Value), S p.block → w.cell? p = some u → w'.cell? p = some u) (hs : ∀ b, S b → S' b) : IsBS w' S' v l := by
  obtain ⟨A, c, h1, h2, h3⟩ := h
  exact ⟨A, c, h1, h2.turn2 hk hs, h3⟩
theorem NodesS.turn2 (h : NodesS w S A ns) (hk : ∀ (p : Addr) (u : Value), S p.block → w.cell? p = some u → w'.cell? p = some u) (hs : ∀ b, S b → S' b) : NodesS w' S' A ns := by
  induction h with
  | mk vs K c lies len each kids ih =>
    refine .mk vs K c (lies.turn2 hk hs) len (fun i n hn => ?_) ih
    obtain ⟨h1, ⟨d, h2, h3⟩, h6⟩ := each i n hn
    exact ⟨h1, ⟨d, h2, h3.turn2 hk hs⟩, h6⟩
variable {Ks : Nat → Option Addr} {cs : Nat → Nat}
theorem Elems.turn2 (h : Elems w S us ns Ks cs) (hk : ∀ (p : Addr) (u : Value), S p.block → w.cell? p = some u → w'.cell? p = some u) (hs : ∀ b, S b → S' b) : Elems w' S' us ns Ks cs :=
  ⟨h.len, fun i n hn => by obtain ⟨h1, ⟨d, h2, h3⟩, h6⟩ := h.each i n hn; exact ⟨h1, ⟨d, h2, h3.turn2 hk hs⟩, h6⟩, fun i n hn => (h.kids i n hn).turn2 hk hs⟩
end
/-- the blocks that the rounds may write: the list's variable, and the row that it holds -/
def NpG (Bl : Nat) (W : World) (i : Nat) : Prop := i = Bl ∨ ∃ (v : Value), Boxed W Bl 49 v ∧ v.ownBlock = some i
/-- what parse holds (L: new memory; Bl: the list's variable) -/
structure NpI (w : World) (R : Fr → NR) (c d : Int) (Bl X : Nat) (ys : List Yf) (W : World) : Prop where
  box : ∃ v ns, Boxed W Bl 49 v ∧ NRow W (Bl + 1) v ns ∧ ys.map (fun y => R y.f) = ns.map NR.ok
  p0 : Boxed W w.heap.size 3 (.int .i64 c)
  p1 : Boxed W (w.heap.size + 1) 3 (.int .i64 d)
  r0 : Boxed W (w.heap.size + 1 + 1) 49 (.slice none 0 0)
  r1 : Boxed W (w.heap.size + 1 + 1 + 1) 120 .nilIface
  low : Below w.heap.size w W
  ge : Bl < W.heap.size
  sz : X ≤ W.heap.size
section
variable {w W A B : World} {R : Fr → NR} {c d : Int} {Bl X : Nat} {ys : List Yf}
theorem NpI.lt (h : NpI w R c d Bl X ys W) : ∀ i, NpG Bl W i → i < W.heap.size := by
  rintro i (rfl | ⟨v, hv, hi⟩)
  · exact h.ge
  · obtain ⟨u, ns, hu, hr, _⟩ := h.box
    obtain ⟨us, hown, _⟩ := hr.own
    rw [boxed_uniq hu hv] at hown
    exact (hown.lt i hi).2
/-- a row of nodes where nothing that is cells turns -/
theorem NRow.turn {L : Nat} {v : Value} {ns : List Nd} {row : Option Nat} (h : NRow A L v ns) (hg : A.grownBy B row) (hr : ∀ r, row = some r → ∃ o : Obj, A.heap[r]? = some o ∧ o.isCells = false) : NRow B L v ns := by
  obtain ⟨us, hown, Ks, cs, hE⟩ := h.own
  have hcell : ∀ (p : Addr) (u : Value), p.block < A.heap.size → A.cell? p = some u → B.cell? p = some u := fun p u h1 h2 => (World.cell?_of_block (hg.block p.block h1 fun e => by
    obtain ⟨o, ho, hoc⟩ := hr p.block e.symm
    unfold World.cell? at h2
    rw [ho] at h2
    cases o <;> first | (simp [Obj.isCells] at hoc; done) | (simp at h2; done))).trans h2
  refine ⟨us, hown.kept hg ?_, Ks, cs, ?_⟩
  · rcases hown.2 with ⟨rfl, _⟩ | ⟨g, cap, cur, rfl, _, hh, _⟩
    · exact .inl rfl
    · refine .inr (fun e => ?_)
      obtain ⟨o, ho, hoc⟩ := hr g e.symm
      rw [hh] at ho
      cases ho
      cases hoc
  · exact hE.turn2 (fun p u hp hu => hcell p u hp.2.1 hu) (fun b hb => ⟨hb.1, by have := hb.2.1; have := hg.size; omega, hb.2.2⟩)
end
end Go.Proofs.YteknmgmdmjmnmaaGreatDoor






namespace Go.Proofs.YteknmgmdmjmnmaaGreatDoor
open Go.RowKit

/-! ### how many nodes there are -/
def cl (g : Nd → Nat) : Nat → List Nd → Nat
  | n, [] => n
  | n, x :: l => if n < 1000 then cl g (n + 1 + x.v.length / 1000 + g x) l else n
def cnt : Nat → List Nd → Nat
  | 0, _ => 1000
  | f + 1, l => cl (fun x => cnt f x.ks) 0 l
theorem cl_ge (g : Nd → Nat) : ∀ (l : List Nd) (n : Nat), n ≤ cl g n l
  | [], n => Nat.le_refl _
  | x :: l, n => by
    unfold cl
    split
    · exact Nat.le_trans (by omega) (cl_ge g l _)
    · exact Nat.le_refl _
theorem cl_few (g : Nd → Nat) : ∀ (l : List Nd) (n : Nat), cl g n l ≤ 200 → n + l.length ≤ 200 ∧ ∀ x ∈ l, g x ≤ 200 ∧ x.v.length ≤ 200999
  | [], n, h => ⟨h, by simp⟩
  | x :: l, n, h => by
    unfold cl at h
    split at h
    · have h1 := cl_ge g l (n + 1 + x.v.length / 1000 + g x)
      obtain ⟨h2, h3⟩ := cl_few g l _ h
      refine ⟨by simp; omega, fun y hy => ?_⟩
      rcases List.mem_cons.1 hy with rfl | hy
      · constructor <;> omega
      · exact h3 y hy
    · omega
/-- at most D in the data of each -/
inductive Bnd : Nd → Prop
  | mk {n : Nd} : n.v.length ≤ 140737488355328 → n.ks.length ≤ 9223372036854775807 → (∀ k ∈ n.ks, Bnd k) → Bnd n
theorem Bnd.vl {n : Nd} (h : Bnd n) : n.v.length ≤ 140737488355328 := by cases h; assumption
theorem Bnd.kl {n : Nd} (h : Bnd n) : n.ks.length ≤ 9223372036854775807 := by cases h; assumption
theorem Bnd.kid {n : Nd} (h : Bnd n) : ∀ k ∈ n.ks, Bnd k := by cases h; assumption
theorem cl_le (g : Nd → Nat) (G : Nat) (hg : ∀ x, Bnd x → g x ≤ G) : ∀ (l : List Nd) (n : Nat), (∀ x ∈ l, Bnd x) → n ≤ 140737489356 + G → cl g n l ≤ 140737489356 + G
  | [], n, _, h => h
  | x :: l, n, hb, h => by
    unfold cl
    split
    · have h1 := hg x (hb x (by simp))
      have h2 := (hb x (by simp)).vl
      exact cl_le g G hg l _ (fun y hy => hb y (by simp [hy])) (by omega)
    · exact h
theorem cnt_le : ∀ (f : Nat) (l : List Nd), (∀ x ∈ l, Bnd x) → cnt f l ≤ 1000 + f * 140737489356
  | 0, l, _ => by simp [cnt]
  | f + 1, l, h => by
    unfold cnt
    have := cl_le (fun x => cnt f x.ks) (1000 + f * 140737489356) (fun x hx => cnt_le f x.ks hx.kid) l 0 h (by omega)
    refine Nat.le_trans this ?_
    rw [Nat.add_mul]
    omega
/-- few nodes: few kids at all depths -/
theorem few_of : ∀ (f : Nat) (l : List Nd), cnt f l ≤ 200 → l.length ≤ 200 ∧ ∀ x ∈ l, Few1 x
  | 0, l, h => by simp [cnt] at h
  | f + 1, l, h => by
    unfold cnt at h
    obtain ⟨h1, h2⟩ := cl_few _ l 0 h
    refine ⟨by omega, fun x hx => ?_⟩
    obtain ⟨h3, h4⟩ := few_of f x.ks (h2 x hx).1
    exact .mk (by omega) h4

def CountOK (f : Nat) : Prop := ∀ (d : Nat) (ns : List Nd) (A : Option Addr) (c : Nat) (w : World), d + f = 21 → Nodes w w.heap.size A ns → ns.length ≤ 9223372036854775807 → (∀ n ∈ ns, Bnd n) →
  Calls Tryz.prog 61 #[.slice A ns.length c, .int .i64 (d : Int)] w fun e w' => e = .returned (.int .i64 (cnt f ns : Nat)) ∧ Below w.heap.size w w'
theorem count_zero : CountOK 0 := by
  intro d ns A c w hd h hl hb
  obtain rfl : d = 21 := by omega
  go_enter Tryz.func61, Tryz.ntmps61
  go_wp2_with fail
  go_ret
  exact ⟨rfl, Below.refl _ _⟩
set_option maxRecDepth 100000 in
set_option maxHeartbeats 8000000 in
theorem count_succ (f : Nat) (ih : CountOK f) : CountOK (f + 1) := by
  intro d ns A c w hd h hl hb
  have hd20 : ¬ (20 : Int) < (d : Int) := by omega
  have hd0 : (d : Int) ≤ 20 := by omega
  have hd1 : (0 : Int) ≤ (d : Int) := by omega
  have HIH := Lib.hid ih
  have HB := Lib.hid hb
  have HD := Lib.hid hd
  have HC := Lib.hid (show cnt (f + 1) ns = cl (fun x => cnt f x.ks) 0 ns from rfl)
  generalize cnt (f + 1) ns = total at *
  clear ih hb hd
  go_enter Tryz.func61, Tryz.ntmps61
  go_wp2_with fail
  go_loopw [5, 6] (fun v i wr => ∃ (k n : Nat), k ≤ ns.length ∧ i = .int .i64 k ∧ v = .int .i64 n ∧ Hid (total = cl (fun x => cnt f x.ks) n (ns.drop k)) ∧ n ≤ 4000000000000 ∧ Below w.heap.size w wr) (fun _ i _ => ns.length - (intOf i).toNat)
  case atStart => exact ⟨0, 0, Nat.zero_le _, rfl, rfl, HC.out, by omega, Below.refl _ _⟩
  case round =>
    obtain ⟨k, n, hk, rfl, rfl, htot, hn4, hbel⟩ := hrel
    by_cases hlt : k < ns.length
    · by_cases hn1 : n < 1000
      · obtain ⟨ad, A', c', K', k', x, rfl, hbk, hx', hc0, hc1, hc2, hN⟩ := (h.bel hbel).at_ hlt
        have hxm : x ∈ ns := List.mem_of_getElem? hx'.out
        have hbx := HB.out x hxm
        have hvl := hbx.vl
        obtain ⟨q, hq⟩ : ∃ q : Nat, Int.tdiv (x.v.length : Int) 1000 = (q : Int) ∧ q = x.v.length / 1000 := ⟨_, by rw [Int.tdiv_eq_ediv_of_nonneg (by omega)]; omega, rfl⟩
        obtain ⟨hq1, hq2⟩ := hq
        have hq3 : q ≤ 140737488356 := by omega
        have hcl := cnt_le f x.ks hbx.kid
        have hf20 : f ≤ 20 := by have := HD.out; omega
        have hcl2 : cnt f x.ks ≤ 3000000000000 := Nat.le_trans hcl (by omega)
        have hS := fun W (hW : Below wr.heap.size wr W) => HIH.out (d + 1) x.ks K' k' W (by have := HD.out; omega) ((hN.kids.bel (hW.mono hbel.size)).more (Nat.le_trans hbel.size hW.size)) hbx.kl hbx.kid
        have HQ2 := Lib.hid hq2
        have hnext : Hid (cl (fun x => cnt f x.ks) n (ns.drop k) = cl (fun x => cnt f x.ks) (n + 1 + q + cnt f x.ks) (ns.drop (k + 1))) := by
          rw [List.drop_eq_getElem_cons hlt, show ns[k] = x by have := hx'.out; rw [List.getElem?_eq_getElem hlt] at this; exact Option.some.inj this]
          unfold Hid
          rw [cl, if_pos hn1, hq2]
        simp only [Int.natCast_add, Int.cast_ofNat_Int] at hS
        have hklen : (x.ks.length : Int) = x.ks.length := rfl
        generalize cnt f x.ks = cc at *
        clear hq2 hcl hx' hbx hklen
        go_wp2_with fail
        have hpb : (ad.add (k * 3)).block < wr.heap.size := by rw [blk_add]; have := hbel.size; omega
        have HPB := Lib.hid hpb
        have hw1 : IntKind.i64.wrap ((d : Int) + 1) = (d : Int) + 1 := by rw [IntKind.wrap_i64]; omega
        have hw2 : IntKind.i64.wrap ((n : Int) + 1) = (n : Int) + 1 := by rw [IntKind.wrap_i64]; omega
        have hw3 : IntKind.i64.wrap (q : Int) = (q : Int) := by rw [IntKind.wrap_i64]; omega
        have hw4 : IntKind.i64.wrap ((n : Int) + 1 + (q : Int)) = (n : Int) + 1 + (q : Int) := by rw [IntKind.wrap_i64]; omega
        have hw5 : IntKind.i64.wrap ((n : Int) + 1 + (q : Int) + (cc : Int)) = (n : Int) + 1 + (q : Int) + (cc : Int) := by rw [IntKind.wrap_i64]; omega
        clear hn4 hN hvl hxm hbk hc0 HIH HB HC hd20 hf20 hpb
        go_region_held3 (fun W => W.cell? ⟨(ad.add (k * 3)).block, (ad.add (k * 3)).off + 1, none⟩ = some (.slice A' x.v.length c') ∧ W.cell? ⟨(ad.add (k * 3)).block, (ad.add (k * 3)).off + 2, none⟩ = some (.slice K' x.ks.length k')) (first | exact hS2 | go_keep) (first
          | (go_at_call 61; (with_reducible refine (hS wr.drew (below_drew (Below.refl _ _))).mono ?_); rintro e w2 ⟨rfl, b2⟩; have b3 : Below wr.heap.size wr w2 := below_undrew b2; have hS2 := And.intro ((b3.cell (p := ⟨(ad.add (k * 3)).block, (ad.add (k * 3)).off + 1, none⟩) HPB.out).trans hc1) ((b3.cell (p := ⟨(ad.add (k * 3)).block, (ad.add (k * 3)).off + 2, none⟩) HPB.out).trans hc2)))
        have hnn : n + 1 + q + cc ≤ 4000000000000 := by omega
        go_wp2_with fail
        go_roundw
        case rel => exact ⟨k + 1, n + 1 + q + cc, by omega, by go_num, by go_num, htot.out.trans hnext.out, hnn, hbel.trans (b3.mono hbel.size)⟩
        case measure => simp [intOf]; omega
      · have hx : total = n := by
          rw [htot.out, List.drop_eq_getElem_cons hlt, cl, if_neg hn1]
        have hn2 : (1000 : Int) ≤ (n : Int) := by omega
        have HX := Lib.hid hx
        clear hx htot
        go_wp2_with fail
        go_ret
        rw [HX.out]
        exact ⟨rfl, hbel⟩
    · obtain rfl : k = ns.length := by omega
      have hx : total = n := by
        rw [htot.out, List.drop_length, cl]
      have HX := Lib.hid hx
      clear hx htot
      go_wp2_with fail
      go_ret
      rw [HX.out]
      exact ⟨rfl, hbel⟩
theorem count_all : ∀ f, CountOK f
  | 0 => count_zero
  | f + 1 => count_succ f (count_all f)
theorem few_any (A : Option Addr) (c : Nat) (ns : List Nd) (w : World) (h : Nodes w w.heap.size A ns) (hl : ns.length ≤ 9223372036854775807) (hb : ∀ n ∈ ns, Bnd n) :
    Calls Tryz.prog 24 #[.slice A ns.length c] w fun e w' => e = .returned (.bool (decide (cnt 21 ns ≤ 200))) ∧ Below w.heap.size w w' := by
  have hC := count_all 21 0 ns A c w rfl h hl hb
  simp only [Int.cast_ofNat_Int] at hC
  generalize cnt 21 ns = total at *
  go_enter Tryz.func24, Tryz.ntmps24
  go_wp2_with fail
  refine hC.mono ?_
  rintro e w1 ⟨rfl, b1⟩
  go_wp2_with fail
  go_ret
  refine ⟨ret_bool ?_, b1⟩
  simp
  omega
end Go.Proofs.YteknmgmdmjmnmaaGreatDoor





namespace Go.Proofs.YteknmgmdmjmnmaaGreatDoor
open Go.ChangeShapes Go.WideShapes Go.ChangeAt Go.RowKit

section
variable {H : Type} {enc : TypeId × Value → H} {P : Program} {w : World} {held : Bool} {t e : TypeId} {fuel : Nat} {x : DataW H × List MemPlace} {A : Option Addr} {len cap : Nat}
/-- a slice of whatever elements, and the fuel of what is read inside -/
theorem open_cells_lt {k : Nat} (ht : P.underlying t = some (.slice e)) (hc : P.cellsOf e = k) (hk : 0 < k)
    (h : DataW.trod enc P w 0 (fun _ => true) held fuel t [.slice A len cap] = some x) (hs : Small P t x.1) :
    ∃ (cs : List Value), cs.length = len * k ∧ Lies w w.heap.size A cs ∧ len ≤ cap ∧ cap ≤ maxLen ∧ cap * P.bytesOf e ≤ reachBytes ∧
      ∀ i, i < len → ∃ n y, n < fuel ∧ DataW.trod enc P w 0 (fun _ => true) held n e ((cs.drop (i * k)).take k) = some y ∧ Small P e y.1 := by
  rcases DataW.trod_slice ht h with ⟨hcs, _⟩ | ⟨a, l, c, elems, rest, n, hfu, hcs, hx, _, hl, hm, hlen, hel, hsp, _⟩
  · simp only [List.cons.injEq, Value.slice.injEq, and_true] at hcs
    obtain ⟨rfl, rfl, rfl⟩ := hcs
    exact ⟨[], by simp, Lies.nil, Nat.le_refl _, Nat.zero_le _, by simp, fun i hi => absurd hi (by omega)⟩
  · simp only [List.cons.injEq, Value.slice.injEq, and_true] at hcs
    obtain ⟨rfl, rfl, rfl⟩ := hcs
    have hr := (hsp rfl).1
    rw [hx] at hs
    have hsz : cap * P.bytesOf e ≤ reachBytes := by
      refine hs _ ?_
      simp only [DataW.weights, ht, List.length_map]
      rw [hlen, hr, Nat.add_sub_cancel' hl]
      exact List.mem_cons_self
    have hsm : ∀ y ∈ elems, Small P e y.1 := by
      intro y hy n hn
      refine hs n ?_
      simp only [DataW.weights, ht]
      exact List.mem_cons_of_mem _ (List.mem_append.2 (.inl (mem_weightsAll (List.mem_map.2 ⟨y, hy, rfl⟩) hn)))
    have each : ∀ i, i < len → ∃ cs' : List Value, ∃ y, cs'.length = k ∧ (∀ j, j < k → w.cell? (a.add (i * k + j)) = cs'[j]?) ∧ DataW.trod enc P w 0 (fun _ => true) held n e cs' = some y ∧ Small P e y.1 := by
      intro i hi
      have h0 := hel i hi
      have hi2 : i < elems.length := by omega
      rw [List.getElem?_eq_getElem hi2] at h0
      obtain ⟨cs', h1, h2⟩ := Option.bind_eq_some_iff.1 h0
      rw [hc] at h1
      obtain ⟨_, h3, h4⟩ := World.cells?_some h1
      exact ⟨cs', _, h3, fun j hj => by rw [← add_add']; exact h4 j hj, h2, hsm _ (List.getElem_mem hi2)⟩
    have build : ∀ d, d ≤ len → ∃ cs : List Value, cs.length = d * k ∧ (∀ j u, cs[j]? = some u → w.cell? (a.add j) = some u) ∧
        ∀ i, i < d → ∃ y, DataW.trod enc P w 0 (fun _ => true) held n e ((cs.drop (i * k)).take k) = some y ∧ Small P e y.1 := by
      intro d
      induction d with
      | zero => exact fun _ => ⟨[], by simp, fun j u hu => by simp at hu, fun i hi => absurd hi (by omega)⟩
      | succ d ih =>
        intro hd
        obtain ⟨cs, g1, g2, g3⟩ := ih (by omega)
        obtain ⟨cs', y, e1, e2, e3⟩ := each d (by omega)
        refine ⟨cs ++ cs', by rw [List.length_append, g1, e1, Nat.add_mul, Nat.one_mul], fun j u hu => ?_, fun i hi => ?_⟩
        · rcases Nat.lt_or_ge j cs.length with hj | hj
          · exact g2 j u (by rw [← hu, List.getElem?_append_left hj])
          · rw [List.getElem?_append_right hj] at hu
            have hj2 : j - cs.length < k := by rw [← e1]; exact (List.getElem?_eq_some_iff.1 hu).1
            have := e2 (j - cs.length) hj2
            rw [hu, ← g1, Nat.add_sub_cancel' hj] at this
            exact this
        · rcases Nat.lt_or_ge i d with hlt | hge
          · have h5 := Nat.mul_le_mul_right k (show i + 1 ≤ d by omega)
            rw [Nat.add_mul, Nat.one_mul] at h5
            rw [List.drop_append_of_le_length (by omega), List.take_append_of_le_length (by rw [List.length_drop]; omega)]
            exact g3 i hlt
          · obtain rfl : i = d := by omega
            rw [← g1, List.drop_left, ← e1, List.take_length]
            exact ⟨y, e3⟩
    obtain ⟨cs, g1, g2, g3⟩ := build len (Nat.le_refl _)
    refine ⟨cs, g1, fun hne => ?_, hl, hm, hsz, fun i hi => ?_⟩
    · have h0 : 0 < cs.length := by
        rcases Nat.eq_zero_or_pos cs.length with h0 | h0
        · exact absurd (List.eq_nil_of_length_eq_zero h0) hne
        · exact h0
      have hb := World.block_lt_of_cell? w _ (g2 0 _ (List.getElem?_eq_getElem h0))
      rw [blk_add] at hb
      exact ⟨a, rfl, hb, g2⟩
    · obtain ⟨y, h1, h2⟩ := g3 i hi
      exact ⟨n, y, by omega, h1, h2⟩
/-- the three fields of a struct, and the fuel of what is read inside -/
theorem trod_struct3_lt {f0 f1 f2 : Field} {cs : List Value} (ht : P.underlying t = some (.struct #[f0, f1, f2])) (h : DataW.trod enc P w 0 (fun _ => true) held fuel t cs = some x) :
    ∃ y0 y1 y2 n, n < fuel ∧ x = (.agg [y0.1, y1.1, y2.1], y0.2 ++ (y1.2 ++ y2.2)) ∧ cs.length = P.cellsOf t ∧ DataW.trod enc P w 0 (fun _ => true) held n f0.type ((cs.drop f0.offset).take (P.cellsOf f0.type)) = some y0 ∧
      DataW.trod enc P w 0 (fun _ => true) held n f1.type ((cs.drop f1.offset).take (P.cellsOf f1.type)) = some y1 ∧ DataW.trod enc P w 0 (fun _ => true) held n f2.type ((cs.drop f2.offset).take (P.cellsOf f2.type)) = some y2 := by
  obtain ⟨xs, n, hn, rfl, hl, hlen, hf⟩ := DataW.trod_struct ht h
  match xs, hlen with
  | [y0, y1, y2], _ => exact ⟨y0, y1, y2, n, by omega, by simp, hl, by simpa using hf 0 f0 rfl, by simpa using hf 1 f1 rfl, by simpa using hf 2 f2 rfl⟩
end

theorem bytesOf_u8 : Tryz.prog.bytesOf 5 = 1 := by kernel_rfl
theorem hv_of' {z : Int} (h : 0 ≤ z ∧ z < 65536) : Value.int .u16 z = hv (u16of z.toNat) := by
  rw [hv, u16of_toNat (by omega)]
  congr 1
  omega
section
variable {H : Type} {enc : TypeId × Value → H} {w : World}
def OpensN (enc : TypeId × Value → H) (w : World) (fuel : Nat) : Prop := ∀ (x : DataW H × List MemPlace) (A : Option Addr) (len cap : Nat),
  DataW.trod enc Tryz.prog w 0 (fun _ => true) true fuel 49 [.slice A len cap] = some x → Small Tryz.prog 49 x.1 →
  ∃ ns : List Nd, len = ns.length ∧ Nodes w w.heap.size A ns ∧ len ≤ cap ∧ cap ≤ maxLen ∧ ∀ n ∈ ns, Bnd n
/-- the three cells of a node -/
theorem open_three {fuel : Nat} {x : DataW H × List MemPlace} {cs : List Value} (ih : ∀ m, m < fuel → OpensN enc w m)
    (h : DataW.trod enc Tryz.prog w 0 (fun _ => true) true fuel 51 cs = some x) (hs : Small Tryz.prog 51 x.1) (hl3 : cs.length = 3) :
    ∃ (n : Nd) (A : Option Addr) (c : Nat) (K : Option Addr) (k : Nat), cs = [hv n.t, .slice A n.v.length c, .slice K n.ks.length k] ∧ Node w w.heap.size A c K k n ∧ Bnd n := by
  match cs, hl3 with
  | [u, v, z], _ =>
    obtain ⟨y0, y1, y2, n', hlt, hyx, _, f0, f1, f2⟩ := trod_struct3_lt Tryz.underlying51 h
    have c0 : Tryz.prog.cellsOf 37 = 1 := by kernel_rfl
    have c1 : Tryz.prog.cellsOf 48 = 1 := by kernel_rfl
    have c2 : Tryz.prog.cellsOf 49 = 1 := by kernel_rfl
    have f0' : DataW.trod enc Tryz.prog w 0 (fun _ => true) true n' 37 (([u, v, z].drop 0).take (Tryz.prog.cellsOf 37)) = some y0 := f0
    have f1' : DataW.trod enc Tryz.prog w 0 (fun _ => true) true n' 48 (([u, v, z].drop 1).take (Tryz.prog.cellsOf 48)) = some y1 := f1
    have f2' : DataW.trod enc Tryz.prog w 0 (fun _ => true) true n' 49 (([u, v, z].drop 2).take (Tryz.prog.cellsOf 49)) = some y2 := f2
    rw [c0] at f0'
    rw [c1] at f1'
    rw [c2] at f2'
    have f1'' : DataW.trod enc Tryz.prog w 0 (fun _ => true) true n' 48 [v] = some y1 := f1'
    have f2'' : DataW.trod enc Tryz.prog w 0 (fun _ => true) true n' 49 [z] = some y2 := f2'
    obtain ⟨z0, e0, _, wz⟩ := DataW.trod_int Tryz.underlying37 f0'
    have e0' : u = .int .u16 z0 := (List.cons.inj e0).1
    obtain ⟨A', l', c', hv'⟩ := slice_of_trod Tryz.underlying48 f1''
    obtain ⟨K', m', k', hz'⟩ := slice_of_trod Tryz.underlying49 f2''
    rw [hv'] at f1''
    rw [hz'] at f2''
    obtain ⟨p, rfl, g2, g3, g4⟩ := open_bytes Tryz.underlying48 Tryz.underlying5 (by kernel_rfl) f1''
    have hw : ∀ m, m ∈ DataW.weightsEach Tryz.prog [37, 48, 49] [y0.1, y1.1, y2.1] → m ≤ reachBytes := fun m hm => by
      refine hs m ?_
      rw [hyx]
      simp only [DataW.weights, Tryz.underlying51]
      exact hm
    have hsy1 : Small Tryz.prog 48 y1.1 := fun m hm => hw m (by
      simp only [DataW.weightsEach, List.mem_append]
      exact .inr (.inl hm))
    have hsy2 : Small Tryz.prog 49 y2.1 := fun m hm => hw m (by
      simp only [DataW.weightsEach, List.mem_append]
      exact .inr (.inr (.inl hm)))
    obtain ⟨_, _, _, _, _, _, g5, _⟩ := open_cells (k := 1) Tryz.underlying48 (by kernel_rfl) (by omega) f1'' hsy1
    rw [bytesOf_u8] at g5
    unfold reachBytes at g5
    obtain ⟨ks, rfl, q1, q2, q3, q4⟩ := ih n' hlt y2 K' m' k' f2'' hsy2
    refine ⟨.mk (u16of z0.toNat) p ks, A', c', K', k', ?_, ⟨g2, g3, g4, q1, q2, q3⟩, .mk ?_ ?_ q4⟩
    · rw [e0', hv', hz', hv_of' (wf_u16 wz)]
      rfl
    · show p.length ≤ _
      omega
    · show ks.length ≤ _
      unfold maxLen at q3
      omega
set_option maxRecDepth 100000 in
theorem opensN_all (fuel : Nat) : OpensN enc w fuel := by
  induction fuel using Nat.strongRecOn with
  | _ fuel ih =>
    intro x A len cap h hs
    obtain ⟨cs, h1, h2, h3, h4, _, h5⟩ := open_cells_lt (k := 3) Tryz.underlying49 (by kernel_rfl) (by omega) h hs
    have h6 : ∀ i, i < len → ∃ q : Nd × (Option Addr × Nat) × (Option Addr × Nat), (cs.drop (i * 3)).take 3 = [hv q.1.t, .slice q.2.1.1 q.1.v.length q.2.1.2, .slice q.2.2.1 q.1.ks.length q.2.2.2] ∧ Node w w.heap.size q.2.1.1 q.2.1.2 q.2.2.1 q.2.2.2 q.1 ∧ Bnd q.1 := by
      intro i hi
      obtain ⟨n, y, hn, hy, hsy⟩ := h5 i hi
      obtain ⟨n', A', c', K', k', e1, e2, e3⟩ := open_three (fun m hm => ih m (by omega)) hy hsy (by rw [List.length_take, List.length_drop]; omega)
      exact ⟨(n', (A', c'), (K', k')), e1, e2, e3⟩
    obtain ⟨qs, p1, p2⟩ := build_list len h6
    have hq : ∀ (i : Nat) (n : Nd), (qs.map (·.1))[i]? = some n → ∃ q, qs[i]? = some q ∧ q.1 = n := fun i n hn => by
      rw [List.getElem?_map] at hn
      exact Option.map_eq_some_iff.1 hn
    have hc : ∀ i r, r < 3 → cs[i * 3 + r]? = ((cs.drop (i * 3)).take 3)[r]? := by
      intro i r hr
      rw [List.getElem?_take, if_pos hr, List.getElem?_drop]
    refine ⟨qs.map (·.1), by simp [p1], .mk cs (fun i => ((qs[i]?).map (·.2.2.1)).getD none) (fun i => ((qs[i]?).map (·.2.2.2)).getD 0) h2 (by simp [p1, h1]) (fun i n hn => ?_) (fun i n hn => ?_), h3, h4, fun n hn => ?_⟩
    · obtain ⟨q, hq1, rfl⟩ := hq i n hn
      obtain ⟨e1, e2, _⟩ := p2 i q hq1
      have a0 := hc i 0 (by omega)
      have a1 := hc i 1 (by omega)
      have a2 := hc i 2 (by omega)
      rw [e1] at a0 a1 a2
      simp only [hq1, Option.map_some, Option.getD_some]
      exact ⟨a0, ⟨_, a1, q.2.1.1, q.2.1.2, rfl, e2.data, e2.dc, e2.dm⟩, a2, e2.kc, e2.km⟩
    · obtain ⟨q, hq1, rfl⟩ := hq i n hn
      obtain ⟨_, e2, _⟩ := p2 i q hq1
      simp only [hq1, Option.map_some, Option.getD_some]
      exact e2.kids
    · obtain ⟨q, hq1, rfl⟩ := List.mem_map.1 hn
      obtain ⟨i, hi, rfl⟩ := List.mem_iff_getElem.1 hq1
      exact (p2 i _ (List.getElem?_eq_getElem hi)).2.2
end
section
variable {H : Type} {enc : TypeId × Value → H} {w : World} {base : Nat} {v : Value} {d : DataW H} {p : List MemPlace}
set_option maxRecDepth 100000 in
/-- an argument that is a list of nodes -/
theorem open_nodes (o : Value.okWide Tryz.prog w .any base 49 v) (h : DataW.Trod enc Tryz.prog w 0 (fun _ => true) true 49 v d p) (s : Small Tryz.prog 49 d) :
    ∃ (A : Option Addr) (c : Nat) (ns : List Nd), v = .slice A ns.length c ∧ Nodes w w.heap.size A ns ∧ ns.length ≤ c ∧ c ≤ maxLen ∧ ∀ n ∈ ns, Bnd n := by
  obtain ⟨A, n, c, rfl⟩ := okWide_slice Tryz.underlying49 o
  obtain ⟨fuel, hf⟩ := h
  obtain ⟨ns, rfl, h1, h2, h3, h4⟩ := opensN_all fuel _ A n c hf s
  exact ⟨A, c, ns, rfl, h1, h2, h3, h4⟩
set_option maxRecDepth 100000 in
/-- an argument that is a node -/
theorem open_node (o : Value.okWide Tryz.prog w .any base 51 v) (h : DataW.Trod enc Tryz.prog w 0 (fun _ => true) true 51 v d p) (s : Small Tryz.prog 51 d) :
    ∃ (n : Nd) (A : Option Addr) (c : Nat) (K : Option Addr) (k : Nat), v = ndV n A c K k ∧ Node w w.heap.size A c K k n ∧ Bnd n := by
  obtain ⟨cs, rfl, hsz⟩ := okWide_struct Tryz.underlying51 o
  obtain ⟨fuel, hf⟩ := h
  have c3 : Tryz.prog.cellsOf 51 = 3 := by kernel_rfl
  rw [c3] at hsz
  have hf' : DataW.trod enc Tryz.prog w 0 (fun _ => true) true fuel 51 cs.toList = some (d, p) := hf
  obtain ⟨n, A, c, K, k, e1, e2, e3⟩ := open_three (fun m _ => opensN_all m) hf' s (by simpa using hsz)
  refine ⟨n, A, c, K, k, ?_, e2, e3⟩
  show Value.agg cs = .agg _
  congr 1
  exact Array.ext' e1
end
end Go.Proofs.YteknmgmdmjmnmaaGreatDoor


