/- Layer 18: the bytes of an address, Change. They write nothing that was there. -/
/- Layer 18: Change (written by tools/gen_asc_f.py). It writes nothing that was there. -/
/- Layer 18: Request. It writes nothing that was there. -/
import Derived.Test.YteknmgmdmjmnmaaGreatDoorUASA
import Derived.Test.YteknmgmdmjmnmaaGreatDoorUADR
import Derived.BigGuard
import Derived.Deep.RegionHeld3
import Derived.Test.YteknmgmdmjmnmaaGreatDoorUDO




namespace Go.Proofs.YteknmgmdmjmnmaaGreatDoor
open Go.RowKit Go.Shelf
attribute [local go_sem, local simp] idx_nt0 idx_nt1

set_option linter.unusedSimpArgs false
/-- what address.Bytes gives -/
def ByR (n : Nd) (w : World) (e : Ending) (w' : World) : Prop := Below w.heap.size w w' ∧
  ((adrB n = true ∧ ∃ A' c', e = .returned (.tuple #[.slice A' n.v.length c', .bool true]) ∧ LiesS w' (NewS w w') A' (n.v.map bv) ∧ n.v.length ≤ c' ∧ c' ≤ maxLen) ∨ (adrB n = false ∧ e = .returned (.tuple #[.slice none 0 0, .bool false])))
set_option maxRecDepth 100000 in
set_option maxHeartbeats 4000000 in
theorem abytes18_any (n : Nd) (hv' : n.v.length ≤ 140737488355328) (A : Option Addr) (c : Nat) (K : Option Addr) (k : Nat) (w : World) (h : Node w w.heap.size A c K k n) (hT : Tbl w) (hk : n.ks.length ≤ 9223372036854775807) :
    Calls Tryz.prog 63 #[ndV n A c K k] w (ByR n w) := by
  have b0 : Below w.heap.size w (w.alloc (.cells #[hv n.t, .slice A n.v.length c, .slice K n.ks.length k] 51)) := (Below.refl _ w).alloc (Nat.le_refl _) _
  have x0 := Whole.new w 51 #[hv n.t, .slice A n.v.length c, .slice K n.ks.length k]
  have hN := not_any n A c K k _ (hT.below b0) (by omega) hk
  have HC : Hid (∀ V, Below w.heap.size w V → Calls Tryz.prog 103 #[.slice A n.v.length c] V fun e w' => ∃ A' c', e = .returned (.slice A' n.v.length c') ∧ LiesS w' (NewS V w') A' (n.v.map bv) ∧ n.v.length ≤ c' ∧ c' ≤ maxLen ∧ Below V.heap.size V w') := Lib.hid (fun V hV => bclone_any A c n.v V (h.on hV).data h.dc h.dm hv')
  have HB := Lib.hid b0
  have HM : Hid (∀ e w', ByR n w e w' = (Below w.heap.size w w' ∧
    ((adrB n = true ∧ ∃ A' c', e = .returned (.tuple #[.slice A' n.v.length c', .bool true]) ∧ LiesS w' (NewS w w') A' (n.v.map bv) ∧ n.v.length ≤ c' ∧ c' ≤ maxLen) ∨ (adrB n = false ∧ e = .returned (.tuple #[.slice none 0 0, .bool false]))))) := Lib.hid fun _ _ => rfl
  have HA : Hid (adrB n = decide (nof n < 2)) := Lib.hid rfl
  unfold ndV at hN ⊢
  have h3 : nof n = 0 ∨ nof n = 1 ∨ nof n = 2 := by unfold nof; split; (simp); (split <;> simp)
  clear h hT b0
  generalize ByR n w = R at *
  generalize adrB n = ab at *
  generalize nof n = nn at *
  rcases h3 with rfl | rfl | rfl
  · obtain rfl : ab = true := HA.out
    simp only [notV] at hN
    go_enter Tryz.func63, Tryz.ntmps63
    go_wp2_with fail
    refine hN.mono ?_
    rintro e w1 ⟨rfl, b1⟩
    have B1 := HB.out.trans (b1.mono HB.out.size)
    have x1 := x0.below b1 x0.lt
    have B2 := B1.alloc B1.size (.cells #[.int .u16 5, .int .i64 4, .int .i64 1, .int .i64 10, .string ⟨#[46]⟩] 160)
    have x2 := x1.alloc (.cells #[.int .u16 5, .int .i64 4, .int .i64 1, .int .i64 10, .string ⟨#[46]⟩] 160)
    have hC := HC.out _ B2
    have HB2 := Lib.hid B2
    obtain ⟨q0, q1, q2⟩ := wh318 x2
    clear hN x0 b1 x1 x2 B1 B2
    go_wp2_with (first | (refine wpList_new_nt rfl 160 _ _ rfl w1 _ _ rfl rfl rfl (by kernel_rfl) rfl ?_))
    refine hC.mono ?_
    rintro e w3 ⟨A3, c3, rfl, l3, m1, m2, b3⟩
    have HL := Lib.hid l3
    clear hC l3 q0 q1 q2
    go_wp2_with fail
    rw [HM.out]
    exact ⟨HB2.out.trans (b3.mono HB2.out.size), .inl ⟨by trivial, A3, c3, rfl, HL.out.turn (fun _ _ => rfl) (fun b hb => ⟨Nat.le_trans HB2.out.size hb.1, hb.2⟩), m1, m2⟩⟩
  · obtain rfl : ab = true := HA.out
    simp only [notV] at hN
    go_enter Tryz.func63, Tryz.ntmps63
    go_wp2_with fail
    refine hN.mono ?_
    rintro e w1 ⟨rfl, b1⟩
    have B1 := HB.out.trans (b1.mono HB.out.size)
    have x1 := x0.below b1 x0.lt
    have B2 := B1.alloc B1.size (.cells #[.int .u16 6, .int .i64 16, .int .i64 2, .int .i64 16, .string ⟨#[58]⟩] 160)
    have x2 := x1.alloc (.cells #[.int .u16 6, .int .i64 16, .int .i64 2, .int .i64 16, .string ⟨#[58]⟩] 160)
    have hC := HC.out _ B2
    have HB2 := Lib.hid B2
    obtain ⟨q0, q1, q2⟩ := wh318 x2
    clear hN x0 b1 x1 x2 B1 B2
    go_wp2_with (first | (refine wpList_new_nt rfl 160 _ _ rfl w1 _ _ rfl rfl rfl (by kernel_rfl) rfl ?_))
    refine hC.mono ?_
    rintro e w3 ⟨A3, c3, rfl, l3, m1, m2, b3⟩
    have HL := Lib.hid l3
    clear hC l3 q0 q1 q2
    go_wp2_with fail
    rw [HM.out]
    exact ⟨HB2.out.trans (b3.mono HB2.out.size), .inl ⟨by trivial, A3, c3, rfl, HL.out.turn (fun _ _ => rfl) (fun b hb => ⟨Nat.le_trans HB2.out.size hb.1, hb.2⟩), m1, m2⟩⟩
  · obtain rfl : ab = false := HA.out
    simp only [notV] at hN
    clear HC
    go_enter Tryz.func63, Tryz.ntmps63
    go_wp2_with fail
    refine hN.mono ?_
    rintro e w1 ⟨rfl, b1⟩
    have B1 := HB.out.trans (b1.mono HB.out.size)
    have B1s := B1.size
    clear hN x0 b1
    go_wp2_with (first | (refine wpList_new_nt rfl 160 _ _ rfl w1 _ _ rfl rfl rfl (by kernel_rfl) rfl ?_))
    rw [HM.out]
    exact ⟨B1.alloc B1s _, .inr ⟨by trivial, rfl⟩⟩
theorem ofN_adr {a : Nd} (h : adrB a = true) : ofN a.v = a := by
  obtain ⟨t, v, ks⟩ := a
  rcases adr_parts h with ⟨h1, h2, h3⟩ | ⟨h1, h2, h3⟩
  · have h1' : t = 5 := h1
    have h3' : ks = [] := h3
    have h2' : v.length = 4 := h2
    subst h1' h3'
    show Nd.mk (if v.length = 4 then 5 else 6) v [] = Nd.mk 5 v []
    rw [if_pos h2']
  · have h1' : t = 6 := h1
    have h3' : ks = [] := h3
    have h2' : v.length = 16 := h2
    subst h1' h3'
    show Nd.mk (if v.length = 4 then 5 else 6) v [] = Nd.mk 6 v []
    rw [if_neg (by omega)]
theorem nodesS_one18 {w : World} {S : Nat → Prop} {g : Nat} {a : Nd} {A : Option Addr} {c : Nat} (hx : Whole w g 51 #[hv a.t, .slice A a.v.length c, .slice none a.ks.length 0]) (hg : S g) (hl : LiesS w S A (a.v.map bv)) (hc : a.v.length ≤ c) (hm : c ≤ maxLen) (hk : a.ks = []) : NodesS w S (some ⟨g, 0, none⟩) [a] := by
  refine .mk [hv a.t, .slice A a.v.length c, .slice none a.ks.length 0] (fun _ => none) (fun _ => 0) (fun _ => ⟨_, rfl, hg, fun j x hj => ?_⟩) rfl (fun i m hm' => ?_) (fun i m hm' => ?_)
  · rw [add_row, hx.cell, List.getElem?_toArray]
    exact hj
  · match i, hm' with
    | 0, hm' =>
      simp only [List.getElem?_cons_zero, Option.some.injEq] at hm'
      subst hm'
      exact ⟨rfl, ⟨_, rfl, A, c, rfl, hl, hc, hm⟩, rfl, by rw [hk]; exact Nat.le_refl _, Nat.zero_le _⟩
    | i + 1, hm' => simp at hm'
  · match i, hm' with
    | 0, hm' =>
      simp only [List.getElem?_cons_zero, Option.some.injEq] at hm'
      subst hm'
      rw [hk]
      exact NodesS.nil _ _ _
    | i + 1, hm' => simp at hm'
theorem own_lies18 {w : World} {base e n c : Nat} {A : Option Addr} {l : List UInt8} {S : Nat → Prop} (h : w.ownsRow base e 1 (.slice A n c) n (l.map bv)) (hS : ∀ b, base ≤ b → b < w.heap.size → S b) : LiesS w S A (l.map bv) := fun hne => by
  rcases h.2 with ⟨q1, q2⟩ | ⟨g, cap, cur, q1, q2, q3, _⟩
  · refine absurd (List.eq_nil_of_length_eq_zero ?_) hne
    have h1 := h.1
    rw [q2] at h1
    simpa using h1
  · simp only [Value.slice.injEq] at q1
    obtain ⟨rfl, _, _⟩ := q1
    exact ⟨_, rfl, hS _ q2 (Array.getElem?_eq_some_iff.1 q3).1, h.cells (g := g) rfl⟩
/-- the change, behind the stores in the box of the result -/
theorem chg_fin {W : World} {g gk B : Nat} {t : UInt16} {id : UInt32} {a : Nd} {A5 A' : Option Addr} {c5 c' : Nat} {u0 u1 u2 : Value} (hx : Whole W gk 51 #[hv a.t, .slice A' a.v.length c', .slice none a.ks.length 0]) (hgk : g < gk) (hk : a.ks = [])
    (hl : LiesS W (fun b => g < b ∧ b < W.heap.size) A' (a.v.map bv)) (hdc : a.v.length ≤ c') (hdm : c' ≤ maxLen) (ho : W.ownsRow B 5 1 (.slice A5 4 c5) 4 ((be 4 id).map bv)) (hB : g < B) :
    Node (((W.setCell ⟨g, 0, none⟩ u0).setCell ⟨g, 1, none⟩ u1).setCell ⟨g, 2, none⟩ u2) (((W.setCell ⟨g, 0, none⟩ u0).setCell ⟨g, 1, none⟩ u1).setCell ⟨g, 2, none⟩ u2).heap.size A5 c5 (some ⟨gk, 0, none⟩) 1 (.mk t (be 4 id) [a]) := by
  obtain ⟨_, cp1, cp2⟩ := own_cap ho
  refine node_far18 (S := fun b => g < b ∧ b < W.heap.size) (n := .mk t (be 4 id) [a]) ⟨own_lies18 ho (fun b h1 h2 => ⟨by omega, h2⟩), by show (be 4 id).length ≤ c5; rw [be4_len18]; exact cp1, cp2, nodesS_one18 hx ⟨hgk, hx.lt⟩ hl hdc hdm hk, Nat.le_refl _, by unfold maxLen; omega⟩ (fun b hb => ⟨by have := hb.1; omega, hb.2⟩)
/-- Put of one number that lies in a block -/
theorem putg_18 (x : UInt32) (g : Nat) (w : World) (hx : Whole w g 22 #[uv x]) : Calls Tryz.prog 66 #[.int .i64 4, .slice (some ⟨g, 0, none⟩) 1 1] w fun e w' => ∃ A' c', e = .returned (.slice A' 4 c') ∧ w'.ownsRow w.heap.size 5 1 (.slice A' 4 c') 4 ((be 4 x).map bv) ∧ Below w.heap.size w w' :=
  Calls.mono (put_any 4 (.inr (.inr rfl)) (some ⟨g, 0, none⟩) 1 [x] w (hx.lies hx.lt) (by simp)) fun e w' h => by
    obtain ⟨A', c', he, ho, hb⟩ := h
    rw [puts1_18] at ho
    exact ⟨A', c', he, ho, hb⟩
end Go.Proofs.YteknmgmdmjmnmaaGreatDoor





namespace Go.Proofs.YteknmgmdmjmnmaaGreatDoor
open Go.RowKit Go.Shelf

set_option linter.unusedSimpArgs false
set_option maxRecDepth 100000 in
set_option maxHeartbeats 8000000 in
theorem change18_any (t : UInt16) (id : UInt32) (a : Nd) (hf : a.v.length ≤ 140737488355328) (hk : a.ks.length ≤ 9223372036854775807) (A : Option Addr) (c : Nat) (K : Option Addr) (k : Nat) (w : World) (h : Node w w.heap.size A c K k a) (hT : Tbl w) :
    Calls Tryz.prog 26 #[hv t, uv id, ndV a A c K k] w (MkN (.mk t (be 4 id) [a]) (chgB (.mk t (be 4 id) [a])) w) := by
  have b0 : Below w.heap.size w ((w.alloc (.cells #[hv a.t, .slice A a.v.length c, .slice K a.ks.length k] 51)).alloc (.cells #[.int .u16 0, .slice none 0 0, .slice none 0 0] 51)) := ((Below.refl _ w).alloc (Nat.le_refl _) _).alloc (by simp) _
  have x0 := (Whole.new w 51 #[hv a.t, .slice A a.v.length c, .slice K a.ks.length k]).alloc (.cells #[.int .u16 0, .slice none 0 0, .slice none 0 0] 51)
  have y0 := Whole.new (w.alloc (.cells #[hv a.t, .slice A a.v.length c, .slice K a.ks.length k] 51)) 51 #[.int .u16 0, .slice none 0 0, .slice none 0 0]
  rw [World.size_alloc] at y0
  have hs0 : ((w.alloc (.cells #[hv a.t, .slice A a.v.length c, .slice K a.ks.length k] 51)).alloc (.cells #[.int .u16 0, .slice none 0 0, .slice none 0 0] 51)).heap.size = w.heap.size + 2 := by simp
  have HBy : Hid (∀ V, Below w.heap.size w V → Calls Tryz.prog 63 #[.agg #[hv a.t, .slice A a.v.length c, .slice K a.ks.length k]] V (ByR a V)) := Lib.hid (fun V hV => abytes18_any a hf A c K k V (h.on hV) (hT.below hV) hk)
  have HOf : Hid (adrB a = true → ∀ V A1 c1, Below w.heap.size w V → Lies V V.heap.size A1 (a.v.map bv) → a.v.length ≤ c1 → c1 ≤ maxLen → Calls Tryz.prog 65 #[.slice A1 a.v.length c1] V fun e w' => Below V.heap.size V w' ∧ ∃ A' c', e = .returned (.tuple #[.agg #[hv a.t, .slice A' a.v.length c', .slice none a.ks.length 0], .bool true]) ∧ Lies w' w'.heap.size A' (a.v.map bv) ∧ a.v.length ≤ c' ∧ c' ≤ maxLen ∧ ∀ ad, A' = some ad → V.heap.size < ad.block) := Lib.hid (fun hab V A1 c1 hV hl h1 h2 =>
    (of_bytes A1 c1 a.v V (hT.below hV) hl h1 h2 hf).mono fun e w' hr => by
      obtain ⟨hb, hr2⟩ := hr
      rw [ofN_adr hab] at hr2
      rcases hr2 with ⟨_, A', c', he, hN, had⟩ | ⟨hn, _⟩
      · exact ⟨hb, A', c', he, hN.data, hN.dc, hN.dm, had⟩
      · exact absurd (by rcases adr_parts hab with h | h; (exact .inl h.2.1); (exact .inr h.2.1)) hn)
  have HR : Hid (chgB (.mk t (be 4 id) [a]) = (isChg t && adrB a)) := Lib.hid (chg_mk t _ a (be4_len18 id))
  have HM : Hid (∀ ok e w', MkN (.mk t (be 4 id) [a]) ok w e w' = (Below w.heap.size w w' ∧
    ((ok = true ∧ ∃ A' c' K' k', e = .returned (.tuple #[.agg #[hv t, .slice A' 4 c', .slice K' 1 k'], .bool true]) ∧ Node w' w'.heap.size A' c' K' k' (.mk t (be 4 id) [a])) ∨ (ok = false ∧ e = .returned (.tuple #[.agg #[.int .u16 0, .slice none 0 0, .slice none 0 0], .bool false]))))) := Lib.hid fun _ _ _ => rfl
  have HAK : Hid (adrB a = true → a.ks = []) := Lib.hid (fun hab => (adr_len hab).2)
  have HAL : Hid (adrB a = true → a.v ≠ []) := Lib.hid (fun hab e => by rcases adr_parts hab with h | h <;> rw [e] at h <;> simp at h)
  unfold ndV
  clear h hT hf hk
  have HS0 := Lib.hid hs0
  have HBY : Hid (∀ V e w', ByR a V e w' → Below V.heap.size V w' ∧
    ((adrB a = true ∧ ∃ A' c', e = .returned (.tuple #[.slice A' a.v.length c', .bool true]) ∧ LiesS w' (NewS V w') A' (a.v.map bv) ∧ a.v.length ≤ c' ∧ c' ≤ maxLen) ∨ (adrB a = false ∧ e = .returned (.tuple #[.slice none 0 0, .bool false])))) := Lib.hid fun _ _ _ h => h
  have HFIN : Hid (∀ (W : World) (gk B : Nat) (A5 A' : Option Addr) (c5 c' : Nat) (u0 u1 u2 : Value), Whole W gk 51 #[hv a.t, .slice A' a.v.length c', .slice none a.ks.length 0] → w.heap.size + 1 < gk → a.ks = [] →
    LiesS W (fun b => w.heap.size + 1 < b ∧ b < W.heap.size) A' (a.v.map bv) → a.v.length ≤ c' → c' ≤ maxLen → W.ownsRow B 5 1 (.slice A5 4 c5) 4 ((be 4 id).map bv) → w.heap.size + 1 < B →
    Node (((W.setCell ⟨w.heap.size + 1, 0, none⟩ u0).setCell ⟨w.heap.size + 1, 1, none⟩ u1).setCell ⟨w.heap.size + 1, 2, none⟩ u2) (((W.setCell ⟨w.heap.size + 1, 0, none⟩ u0).setCell ⟨w.heap.size + 1, 1, none⟩ u1).setCell ⟨w.heap.size + 1, 2, none⟩ u2).heap.size A5 c5 (some ⟨gk, 0, none⟩) 1 (.mk t (be 4 id) [a])) :=
    Lib.hid (fun W gk B A5 A' c5 c' u0 u1 u2 hx hgk hkk hl hdc hdm ho hB => chg_fin hx hgk hkk hl hdc hdm ho hB)
  generalize hnn : Nd.mk t (be 4 id) [a] = nn at *
  clear hnn
  generalize chgB nn = ok at *
  generalize adrB a = ab at *
  generalize hav : a.v = av at *
  clear hav
  have HP := Lib.hid (fun (g : Nat) (V : World) (hx : Whole V g 22 #[uv id]) => putg_18 id g V hx)
  go_enter Tryz.func26, Tryz.ntmps26
  go_upto_region 1 with fail
  generalize (w.alloc (.cells #[hv a.t, .slice A av.length c, .slice K a.ks.length k] 51)).alloc (.cells #[.int .u16 0, .slice none 0 0, .slice none 0 0] 51) = wa at *
  obtain ⟨q0, q1, q2⟩ := wh318 x0
  have hB := HBy.out wa b0
  clear HBy
  go_wp2_with fail
  refine hB.mono ?_
  intro e w1 hr
  obtain ⟨b1, hr2⟩ := HBY.out wa e w1 hr
  clear hr HBY hB
  have B1 := b0.trans (b1.mono b0.size)
  have y1 := y0.below b1 (by omega)
  clear q0 q1 q2 x0 y0
  have hT1 := isChg_any t w1
  generalize isChg t = ct at *
  rcases hr2 with ⟨rfl, A1, c1, rfl, l1, m1, m2⟩ | ⟨rfl, rfl⟩
  · have HL1 := Lib.hid l1
    have HM1 := Lib.hid (And.intro m1 m2)
    have hz0 := HS0.out
    have hb1s := b1.size
    clear l1 m1 m2 b1 hs0
    cases ct with
    | false =>
      obtain rfl : ok = false := by rw [HR.out]; rfl
      clear HOf HAK HAL HFIN HP HL1 HM1 b0
      have f0 := y1.frozen 0
      have f1 := y1.frozen 1
      have f2 := y1.frozen 2
      obtain ⟨u0, u1, u2⟩ := wh318 y1
      have HB1 := Lib.hid B1
      clear B1
      go_wp2_with fail
      refine hT1.mono ?_
      rintro e w2 ⟨rfl, rfl⟩
      go_wp2_with fail
      refine bodyPost_ret (results_row_tmp rfl _ _ (w.heap.size + 1) 51 _ _ rfl (((y1.set_ 0 _).set_ 1 _).set_ 2 _) Tryz.underlying51 rfl (by kernel_rfl)) rfl ?_
      rw [HM.out]
      exact ⟨((HB1.out.setCell (p := ⟨w.heap.size + 1, 0, none⟩) (Nat.le_succ _) _).setCell (p := ⟨w.heap.size + 1, 1, none⟩) (Nat.le_succ _) _).setCell (p := ⟨w.heap.size + 1, 2, none⟩) (Nat.le_succ _) _, .inr ⟨by trivial, rfl⟩⟩
    | true =>
      obtain rfl : ok = true := by rw [HR.out]; rfl
      have hO := HOf.out (by trivial) w1 A1 c1 B1 (HL1.out.lies fun b hb => hb.2) HM1.out.1 HM1.out.2
      clear HOf b0 HR
      go_wp2_with fail
      refine hT1.mono ?_
      rintro e w2 ⟨rfl, rfl⟩
      go_wp2_with fail
      refine hO.mono ?_
      rintro e w3 ⟨b3, A3, c3, rfl, hN3, hdc, hdm, had⟩
      have B3 := B1.trans (b3.mono B1.size)
      have y3 := y1.below b3 y1.lt
      have hlt3 : w.heap.size + 2 ≤ w3.heap.size := by have := b3.size; omega
      have hkk : a.ks = [] := HAK.out (by trivial)
      have hS3 : LiesS w3 (fun b => w.heap.size + 1 < b ∧ b < w3.heap.size) A3 (av.map bv) := fun hne => by
        obtain ⟨ad, e1, e2, e3⟩ := hN3 hne
        exact ⟨ad, e1, ⟨by have := had ad e1; omega, e2⟩, e3⟩
      have HS3 := Lib.hid hS3
      have HKK := Lib.hid hkk
      have HDC := Lib.hid (And.intro hdc hdm)
      clear hO hT1 y1 B1 b3 HL1 HM1 hN3 had hdc hdm hS3 hkk hz0 hb1s HAK HAL
      go_upto_region 5 with fail
      have B4 := B3.alloc B3.size (.cells #[hv a.t, .slice A3 av.length c3, .slice none a.ks.length 0] 51)
      have y4 := y3.alloc (.cells #[hv a.t, .slice A3 av.length c3, .slice none a.ks.length 0] 51)
      have z4 := Whole.new w3 51 #[hv a.t, .slice A3 av.length c3, .slice none a.ks.length 0]
      have hS4 : Hid (LiesS (w3.alloc (.cells #[hv a.t, .slice A3 av.length c3, .slice none a.ks.length 0] 51)) (fun b => w.heap.size + 1 < b ∧ b < w3.heap.size) A3 (av.map bv)) := Lib.hid (HS3.out.turn (fun p hp => World.cell?_alloc_lt w3 _ p hp.2) (fun _ h => h))
      have hs4 : (w3.alloc (.cells #[hv a.t, .slice A3 av.length c3, .slice none a.ks.length 0] 51)).heap.size = w3.heap.size + 1 := World.size_alloc _ _
      generalize w3.alloc (.cells #[hv a.t, .slice A3 av.length c3, .slice none a.ks.length 0] 51) = w4 at *
      have HS4 := Lib.hid hs4
      have HLT3 := Lib.hid hlt3
      generalize w3.heap.size = g3 at *
      clear y3 B3 HS3
      have hg3 : g3 < w4.heap.size := z4.lt
      have KS : Hid (∀ V, Below w4.heap.size w4 V → V.cell? ⟨g3, 0, none⟩ = some (hv a.t) ∧ V.cell? ⟨g3, 1, none⟩ = some (.slice A3 av.length c3) ∧ V.cell? ⟨g3, 2, none⟩ = some (.slice none a.ks.length 0)) := Lib.hid (fun V hV => wh318 (z4.below hV z4.lt))
      have YS : Hid (∀ V, Below w4.heap.size w4 V → Whole V (w.heap.size + 1) 51 #[.int .u16 0, .slice none 0 0, .slice none 0 0]) := Lib.hid (fun V hV => y4.below hV y4.lt)
      have LS : Hid (∀ V, Below w4.heap.size w4 V → LiesS V (fun b => w.heap.size + 1 < b ∧ b < V.heap.size) A3 (av.map bv)) := Lib.hid (fun V hV => hS4.out.turn (fun p hp => hV.cell (by have := hp.2; have := HS4.out; omega)) (fun b hb => ⟨hb.1, by have := hV.size; have := hb.2; have := HS4.out; omega⟩))
      have HB4 := Lib.hid B4
      clear y4 z4 B4 hS4 hs4 hlt3
      have HP1 : Hid (Calls Tryz.prog 66 #[.int .i64 4, .slice (some ⟨w4.heap.size, 0, none⟩) 1 1] (w4.alloc (.cells #[uv id] 22)).drew fun e w' => ∃ A' c', e = .returned (.slice A' 4 c') ∧ w'.ownsRow w4.heap.size 5 1 (.slice A' 4 c') 4 ((be 4 id).map bv) ∧ Below w4.heap.size w4 w') := Lib.hid ((HP.out w4.heap.size (w4.alloc (.cells #[uv id] 22)).drew (Whole.new w4 22 #[uv id])).mono fun e w' h => by
        obtain ⟨A', c', he, ho, hb⟩ := h
        have hb2 : Below w4.heap.size (w4.alloc (.cells #[uv id] 22)) w' := (below_undrew13 hb).mono (by simp)
        have hs : w4.heap.size ≤ ((w4.alloc (.cells #[uv id] 22)).drew).heap.size := by show _ ≤ (w4.alloc (.cells #[uv id] 22)).heap.size; simp
        exact ⟨A', c', he, own_base ho hs, ((Below.refl _ w4).alloc (Nat.le_refl _) (.cells #[uv id] 22)).trans hb2⟩)
      have HP2 : Hid (Calls Tryz.prog 66 #[.int .i64 4, .slice (some ⟨w4.heap.size, 0, none⟩) 1 1] ((w4.alloc (.cells #[uv id] 22)).alloc (.cells #[hv a.t, .slice A3 av.length c3, .slice none a.ks.length 0] 51)).drew fun e w' => ∃ A' c', e = .returned (.slice A' 4 c') ∧ w'.ownsRow w4.heap.size 5 1 (.slice A' 4 c') 4 ((be 4 id).map bv) ∧ Below w4.heap.size w4 w' ∧ Whole w' (w4.heap.size + 1) 51 #[hv a.t, .slice A3 av.length c3, .slice none a.ks.length 0]) := Lib.hid ((HP.out w4.heap.size ((w4.alloc (.cells #[uv id] 22)).alloc (.cells #[hv a.t, .slice A3 av.length c3, .slice none a.ks.length 0] 51)).drew ((Whole.new w4 22 #[uv id]).alloc (.cells #[hv a.t, .slice A3 av.length c3, .slice none a.ks.length 0] 51))).mono fun e w' h => by
        obtain ⟨A', c', he, ho, hb⟩ := h
        have hk := Whole.new (w4.alloc (.cells #[uv id] 22)) 51 #[hv a.t, .slice A3 av.length c3, .slice none a.ks.length 0]
        rw [World.size_alloc] at hk
        have hb1 : Below ((w4.alloc (.cells #[uv id] 22)).alloc (.cells #[hv a.t, .slice A3 av.length c3, .slice none a.ks.length 0] 51)).heap.size ((w4.alloc (.cells #[uv id] 22)).alloc (.cells #[hv a.t, .slice A3 av.length c3, .slice none a.ks.length 0] 51)) w' := below_undrew13 hb
        have hb2 : Below w4.heap.size ((w4.alloc (.cells #[uv id] 22)).alloc (.cells #[hv a.t, .slice A3 av.length c3, .slice none a.ks.length 0] 51)) w' := hb1.mono (by simp; omega)
        have hs : w4.heap.size ≤ (((w4.alloc (.cells #[uv id] 22)).alloc (.cells #[hv a.t, .slice A3 av.length c3, .slice none a.ks.length 0] 51)).drew).heap.size := by show _ ≤ ((w4.alloc (.cells #[uv id] 22)).alloc (.cells #[hv a.t, .slice A3 av.length c3, .slice none a.ks.length 0] 51)).heap.size; simp; omega
        exact ⟨A', c', he, own_base ho hs, (((Below.refl _ w4).alloc (Nat.le_refl _) (.cells #[uv id] 22)).alloc (by simp) (.cells #[hv a.t, .slice A3 av.length c3, .slice none a.ks.length 0] 51)).trans hb2, hk.below hb1 hk.lt⟩)
      have HP3 : Hid (Calls Tryz.prog 66 #[.int .i64 4, .slice (some ⟨w4.heap.size + 1, 0, none⟩) 1 1] ((w4.alloc (.cells #[hv a.t, .slice A3 av.length c3, .slice none a.ks.length 0] 51)).alloc (.cells #[uv id] 22)).drew fun e w' => ∃ A' c', e = .returned (.slice A' 4 c') ∧ w'.ownsRow w4.heap.size 5 1 (.slice A' 4 c') 4 ((be 4 id).map bv) ∧ Below w4.heap.size w4 w' ∧ Whole w' w4.heap.size 51 #[hv a.t, .slice A3 av.length c3, .slice none a.ks.length 0]) := by
        have hi := Whole.new (w4.alloc (.cells #[hv a.t, .slice A3 av.length c3, .slice none a.ks.length 0] 51)) 22 #[uv id]
        rw [World.size_alloc] at hi
        exact Lib.hid ((HP.out (w4.heap.size + 1) ((w4.alloc (.cells #[hv a.t, .slice A3 av.length c3, .slice none a.ks.length 0] 51)).alloc (.cells #[uv id] 22)).drew hi).mono fun e w' h => by
          obtain ⟨A', c', he, ho, hb⟩ := h
          have hk := (Whole.new w4 51 #[hv a.t, .slice A3 av.length c3, .slice none a.ks.length 0]).alloc (.cells #[uv id] 22)
          have hb1 : Below ((w4.alloc (.cells #[hv a.t, .slice A3 av.length c3, .slice none a.ks.length 0] 51)).alloc (.cells #[uv id] 22)).heap.size ((w4.alloc (.cells #[hv a.t, .slice A3 av.length c3, .slice none a.ks.length 0] 51)).alloc (.cells #[uv id] 22)) w' := below_undrew13 hb
          have hb2 : Below w4.heap.size ((w4.alloc (.cells #[hv a.t, .slice A3 av.length c3, .slice none a.ks.length 0] 51)).alloc (.cells #[uv id] 22)) w' := hb1.mono (by simp; omega)
          have hs : w4.heap.size ≤ (((w4.alloc (.cells #[hv a.t, .slice A3 av.length c3, .slice none a.ks.length 0] 51)).alloc (.cells #[uv id] 22)).drew).heap.size := by show _ ≤ ((w4.alloc (.cells #[hv a.t, .slice A3 av.length c3, .slice none a.ks.length 0] 51)).alloc (.cells #[uv id] 22)).heap.size; simp; omega
          exact ⟨A', c', he, own_base ho hs, (((Below.refl _ w4).alloc (Nat.le_refl _) (.cells #[hv a.t, .slice A3 av.length c3, .slice none a.ks.length 0] 51)).alloc (by simp) (.cells #[uv id] 22)).trans hb2, hk.below hb1 hk.lt⟩)
      have KST : Hid (∀ V u0 u1 u2, Below w4.heap.size w4 V → (((V.setCell ⟨w.heap.size + 1, 0, none⟩ u0).setCell ⟨w.heap.size + 1, 1, none⟩ u1).setCell ⟨w.heap.size + 1, 2, none⟩ u2).cell? ⟨g3, 0, none⟩ = some (hv a.t) ∧ (((V.setCell ⟨w.heap.size + 1, 0, none⟩ u0).setCell ⟨w.heap.size + 1, 1, none⟩ u1).setCell ⟨w.heap.size + 1, 2, none⟩ u2).cell? ⟨g3, 1, none⟩ = some (.slice A3 av.length c3) ∧ (((V.setCell ⟨w.heap.size + 1, 0, none⟩ u0).setCell ⟨w.heap.size + 1, 1, none⟩ u1).setCell ⟨w.heap.size + 1, 2, none⟩ u2).cell? ⟨g3, 2, none⟩ = some (.slice none a.ks.length 0)) := Lib.hid (fun V u0 u1 u2 hV => by
        have hne : w.heap.size + 1 ≠ g3 := by have := HLT3.out; omega
        obtain ⟨k0, k1, k2⟩ := KS.out V hV
        refine ⟨?_, ?_, ?_⟩
        · rw [World.cell?_setCell_far _ _ _ _ hne, World.cell?_setCell_far _ _ _ _ hne, World.cell?_setCell_far _ _ _ _ hne]; exact k0
        · rw [World.cell?_setCell_far _ _ _ _ hne, World.cell?_setCell_far _ _ _ _ hne, World.cell?_setCell_far _ _ _ _ hne]; exact k1
        · rw [World.cell?_setCell_far _ _ _ _ hne, World.cell?_setCell_far _ _ _ _ hne, World.cell?_setCell_far _ _ _ _ hne]; exact k2)
      have KS0 : Hid (w4.drew.cell? ⟨g3, 0, none⟩ = some (hv a.t) ∧ w4.drew.cell? ⟨g3, 1, none⟩ = some (.slice A3 av.length c3) ∧ w4.drew.cell? ⟨g3, 2, none⟩ = some (.slice none a.ks.length 0)) := Lib.hid (KS.out _ (below_drew (Below.refl _ _)))
      have KS1 : Hid ((w4.alloc (.cells #[uv id] 22)).drew.cell? ⟨g3, 0, none⟩ = some (hv a.t) ∧ (w4.alloc (.cells #[uv id] 22)).drew.cell? ⟨g3, 1, none⟩ = some (.slice A3 av.length c3) ∧ (w4.alloc (.cells #[uv id] 22)).drew.cell? ⟨g3, 2, none⟩ = some (.slice none a.ks.length 0)) := Lib.hid (KS.out _ (below_drew ((Below.refl _ w4).alloc (Nat.le_refl _) _)))
      have KS2 : Hid ((w4.alloc (.cells #[hv a.t, .slice A3 av.length c3, .slice none a.ks.length 0] 51)).drew.cell? ⟨g3, 0, none⟩ = some (hv a.t) ∧ (w4.alloc (.cells #[hv a.t, .slice A3 av.length c3, .slice none a.ks.length 0] 51)).drew.cell? ⟨g3, 1, none⟩ = some (.slice A3 av.length c3) ∧ (w4.alloc (.cells #[hv a.t, .slice A3 av.length c3, .slice none a.ks.length 0] 51)).drew.cell? ⟨g3, 2, none⟩ = some (.slice none a.ks.length 0)) := Lib.hid (KS.out _ (below_drew ((Below.refl _ w4).alloc (Nat.le_refl _) _)))
      have KS3 : Hid (((w4.alloc (.cells #[uv id] 22)).alloc (.cells #[hv a.t, .slice A3 av.length c3, .slice none a.ks.length 0] 51)).drew.cell? ⟨g3, 0, none⟩ = some (hv a.t) ∧ ((w4.alloc (.cells #[uv id] 22)).alloc (.cells #[hv a.t, .slice A3 av.length c3, .slice none a.ks.length 0] 51)).drew.cell? ⟨g3, 1, none⟩ = some (.slice A3 av.length c3) ∧ ((w4.alloc (.cells #[uv id] 22)).alloc (.cells #[hv a.t, .slice A3 av.length c3, .slice none a.ks.length 0] 51)).drew.cell? ⟨g3, 2, none⟩ = some (.slice none a.ks.length 0)) := Lib.hid (KS.out _ (below_drew (((Below.refl _ w4).alloc (Nat.le_refl _) _).alloc (by simp) _)))
      have KS4 : Hid (((w4.alloc (.cells #[hv a.t, .slice A3 av.length c3, .slice none a.ks.length 0] 51)).alloc (.cells #[uv id] 22)).drew.cell? ⟨g3, 0, none⟩ = some (hv a.t) ∧ ((w4.alloc (.cells #[hv a.t, .slice A3 av.length c3, .slice none a.ks.length 0] 51)).alloc (.cells #[uv id] 22)).drew.cell? ⟨g3, 1, none⟩ = some (.slice A3 av.length c3) ∧ ((w4.alloc (.cells #[hv a.t, .slice A3 av.length c3, .slice none a.ks.length 0] 51)).alloc (.cells #[uv id] 22)).drew.cell? ⟨g3, 2, none⟩ = some (.slice none a.ks.length 0)) := Lib.hid (KS.out _ (below_drew (((Below.refl _ w4).alloc (Nat.le_refl _) _).alloc (by simp) _)))
      have hgr : w.heap.size + 1 < w4.heap.size := by have := HLT3.out; omega
      have HGR := Lib.hid hgr
      clear HP hgr
      go_region_held3 (fun V => V.cell? ⟨g3, 0, none⟩ = some (hv a.t) ∧ V.cell? ⟨g3, 1, none⟩ = some (.slice A3 av.length c3) ∧ V.cell? ⟨g3, 2, none⟩ = some (.slice none a.ks.length 0))
        (first | with_reducible exact KST.out _ _ _ _ R6 | with_reducible exact KST.out _ _ _ _ R5 | with_reducible exact KS.out _ R6 | with_reducible exact KS.out _ R5 | with_reducible exact KS0.out | with_reducible exact KS1.out | with_reducible exact KS2.out | with_reducible exact KS3.out | with_reducible exact KS4.out | fail)
        (first
        | (go_at_call 66; first
          | ((with_reducible refine HP1.out.mono ?_); rintro e w5 ⟨A5, c5, rfl, o5, R5⟩; have y5 := YS.out w5 R5; have x5 := Whole.new w5 51 #[hv a.t, .slice A3 av.length c3, .slice none a.ks.length 0]; have R6 := R5.alloc R5.size (.cells #[hv a.t, .slice A3 av.length c3, .slice none a.ks.length 0] 51); have y6 := y5.alloc (.cells #[hv a.t, .slice A3 av.length c3, .slice none a.ks.length 0] 51); have o6 := o5.alloc (.cells #[hv a.t, .slice A3 av.length c3, .slice none a.ks.length 0] 51); have f0 := y6.frozen 0; have f1 := y6.frozen 1; have f2 := y6.frozen 2; obtain ⟨u0, u1, u2⟩ := wh318 y6)
          | ((with_reducible refine HP2.out.mono ?_); rintro e w5 ⟨A5, c5, rfl, o5, R5, x5⟩; have y5 := YS.out w5 R5; have f0 := y5.frozen 0; have f1 := y5.frozen 1; have f2 := y5.frozen 2; obtain ⟨u0, u1, u2⟩ := wh318 y5)
          | ((with_reducible refine HP3.out.mono ?_); rintro e w5 ⟨A5, c5, rfl, o5, R5, x5⟩; have y5 := YS.out w5 R5; have f0 := y5.frozen 0; have f1 := y5.frozen 1; have f2 := y5.frozen 2; obtain ⟨u0, u1, u2⟩ := wh318 y5))
        | fail)
      all_goals
        go_wp2_with fail
        first
          | (refine bodyPost_ret (results_row_tmp rfl _ _ (w.heap.size + 1) 51 _ _ rfl (((y6.set_ 0 _).set_ 1 _).set_ 2 _) Tryz.underlying51 rfl (by kernel_rfl)) rfl ?_
             rw [HM.out]
             exact ⟨(((HB4.out.trans (R6.mono HB4.out.size)).setCell (p := ⟨w.heap.size + 1, 0, none⟩) (Nat.le_succ _) _).setCell (p := ⟨w.heap.size + 1, 1, none⟩) (Nat.le_succ _) _).setCell (p := ⟨w.heap.size + 1, 2, none⟩) (Nat.le_succ _) _, .inl ⟨by trivial, A5, c5, some ⟨w5.heap.size, 0, none⟩, 1, rfl, HFIN.out _ _ _ _ _ _ _ _ _ _ x5 (Nat.lt_of_lt_of_le HGR.out R5.size) HKK.out (LS.out _ R6) HDC.out.1 HDC.out.2 o6 HGR.out⟩⟩)
          | (refine bodyPost_ret (results_row_tmp rfl _ _ (w.heap.size + 1) 51 _ _ rfl (((y5.set_ 0 _).set_ 1 _).set_ 2 _) Tryz.underlying51 rfl (by kernel_rfl)) rfl ?_
             rw [HM.out]
             exact ⟨(((HB4.out.trans (R5.mono HB4.out.size)).setCell (p := ⟨w.heap.size + 1, 0, none⟩) (Nat.le_succ _) _).setCell (p := ⟨w.heap.size + 1, 1, none⟩) (Nat.le_succ _) _).setCell (p := ⟨w.heap.size + 1, 2, none⟩) (Nat.le_succ _) _, .inl ⟨by trivial, A5, c5, some ⟨w4.heap.size + 1, 0, none⟩, 1, rfl, HFIN.out _ _ _ _ _ _ _ _ _ _ x5 (Nat.lt_succ_of_lt HGR.out) HKK.out (LS.out _ R5) HDC.out.1 HDC.out.2 o5 HGR.out⟩⟩)
          | (refine bodyPost_ret (results_row_tmp rfl _ _ (w.heap.size + 1) 51 _ _ rfl (((y5.set_ 0 _).set_ 1 _).set_ 2 _) Tryz.underlying51 rfl (by kernel_rfl)) rfl ?_
             rw [HM.out]
             exact ⟨(((HB4.out.trans (R5.mono HB4.out.size)).setCell (p := ⟨w.heap.size + 1, 0, none⟩) (Nat.le_succ _) _).setCell (p := ⟨w.heap.size + 1, 1, none⟩) (Nat.le_succ _) _).setCell (p := ⟨w.heap.size + 1, 2, none⟩) (Nat.le_succ _) _, .inl ⟨by trivial, A5, c5, some ⟨w4.heap.size, 0, none⟩, 1, rfl, HFIN.out _ _ _ _ _ _ _ _ _ _ x5 HGR.out HKK.out (LS.out _ R5) HDC.out.1 HDC.out.2 o5 HGR.out⟩⟩)
  · obtain rfl : ok = false := by rw [HR.out]; simp
    have hz0 := HS0.out
    clear HOf HAK HAL HFIN HP b0 hT1 hs0
    have f0 := y1.frozen 0
    have f1 := y1.frozen 1
    have f2 := y1.frozen 2
    obtain ⟨u0, u1, u2⟩ := wh318 y1
    have HB1 := Lib.hid B1
    clear B1 b1
    go_wp2_with fail
    refine bodyPost_ret (results_row_tmp rfl _ _ (w.heap.size + 1) 51 _ _ rfl (((y1.set_ 0 _).set_ 1 _).set_ 2 _) Tryz.underlying51 rfl (by kernel_rfl)) rfl ?_
    rw [HM.out]
    exact ⟨((HB1.out.setCell (p := ⟨w.heap.size + 1, 0, none⟩) (Nat.le_succ _) _).setCell (p := ⟨w.heap.size + 1, 1, none⟩) (Nat.le_succ _) _).setCell (p := ⟨w.heap.size + 1, 2, none⟩) (Nat.le_succ _) _, .inr ⟨by trivial, rfl⟩⟩
end Go.Proofs.YteknmgmdmjmnmaaGreatDoor





namespace Go.Proofs.YteknmgmdmjmnmaaGreatDoor
open Go.RowKit

set_option linter.unusedSimpArgs false
theorem ndinfo18 : (Tryz.prog.info? 51).map (fun i => (i.zero, i.size, i.bytes)) = some (some (.agg #[.int .u16 0, .slice none 0 0, .slice none 0 0]), 3, 56) := by kernel_rfl
theorem own_whole18 {W : World} {g base : Nat} {t : TypeId} {u0 u1 u2 : Value} (hx : Whole W g t #[u0, u1, u2]) (hb : base ≤ g) : W.ownsRow base t 3 (.slice (some ⟨g, 0, none⟩) 1 1) 1 [u0, u1, u2] :=
  ⟨rfl, .inr ⟨g, 1, #[u0, u1, u2], rfl, hb, hx, Nat.le_refl _, by unfold maxLen; omega, rfl, rfl⟩⟩
theorem own_lies3 {w : World} {base e n c : Nat} {A : Option Addr} {xs : List Value} (h : w.ownsRow base e 3 (.slice A n c) n xs) (hn : 0 < n) : Lies w w.heap.size A xs := by
  rcases h.2 with ⟨h1, h2⟩ | ⟨g, cap, cur, h1, h2, h3, h4, h5, h6, h7⟩
  · omega
  · simp only [Value.slice.injEq] at h1
    obtain ⟨rfl, _, _⟩ := h1
    intro hne
    refine ⟨_, rfl, (Array.getElem?_eq_some_iff.1 h3).1, fun j u hu => ?_⟩
    rw [add_row, cell_of_row _ _ _ cur e (0, 0) h3, ← Array.getElem?_toList]
    rw [← h7, List.getElem?_take] at hu
    split at hu
    · exact hu
    · cases hu
theorem own_cap3' {w : World} {base e n c : Nat} {A : Option Addr} {xs : List Value} (h : w.ownsRow base e 3 (.slice A n c) n xs) : n ≤ c ∧ c ≤ maxLen := by
  rcases h.2 with ⟨h1, h2⟩ | ⟨g, cap, cur, h1, h2, h3, h4, h5, h6, h7⟩
  · simp only [Value.slice.injEq] at h1
    omega
  · simp only [Value.slice.injEq] at h1
    omega
/-- a node ahead of nodes, wherever their cells lie one behind the other -/
theorem nodes_app18 {w : World} {B : Nat} {L : Option Addr} {ns : List Nd} (h : Nodes w B L ns) : ∃ vs : List Value, Lies w B L vs ∧ vs.length = ns.length * 3 ∧ (∀ u ∈ vs, u.oneCell' = true) ∧
    ∀ (W : World) (B2 : Nat) (A2 : Option Addr) (a : Nd) (Aa : Option Addr) (ca : Nat) (Ka : Option Addr) (ka : Nat), (∀ p : Addr, p.block < B → W.cell? p = w.cell? p) → B ≤ B2 → Node W B2 Aa ca Ka ka a →
      Lies W B2 A2 ([hv a.t, .slice Aa a.v.length ca, .slice Ka a.ks.length ka] ++ vs) → Nodes W B2 A2 (a :: ns) := by
  cases h with
  | mk vs K c lies len each kids =>
    refine ⟨vs, lies, len, fun u hu => ?_, fun W B2 A2 a Aa ca Ka ka hW hB hn hl => ?_⟩
    · obtain ⟨j, hj, rfl⟩ := List.getElem_of_mem hu
      have hj3 : j / 3 < ns.length := by omega
      obtain ⟨h1, ⟨d, h2, A', c', rfl, _⟩, h3, _⟩ := each (j / 3) _ (List.getElem?_eq_getElem hj3)
      have h0 : vs[j]? = some vs[j] := List.getElem?_eq_getElem hj
      have hr : j = j / 3 * 3 ∨ j = j / 3 * 3 + 1 ∨ j = j / 3 * 3 + 2 := by omega
      rcases hr with hr | hr | hr
      · rw [← hr, h0] at h1; rw [Option.some.inj h1]; rfl
      · rw [← hr, h0] at h2; rw [Option.some.inj h2]; rfl
      · rw [← hr, h0] at h3; rw [Option.some.inj h3]; rfl
    · have hkn := (Nodes.mk (A := L) (ns := ns) vs K c lies len each kids).keep hW
      refine .mk ([hv a.t, .slice Aa a.v.length ca, .slice Ka a.ks.length ka] ++ vs) (fun i => match i with | 0 => Ka | i + 1 => K i) (fun i => match i with | 0 => ka | i + 1 => c i) hl (by simp [len]; omega) (fun i n hi => ?_) (fun i n hi => ?_)
      · match i, hi with
        | 0, hi =>
          simp only [List.getElem?_cons_zero, Option.some.injEq] at hi
          subst hi
          exact ⟨rfl, ⟨_, rfl, Aa, ca, rfl, hn.data, hn.dc, hn.dm⟩, rfl, hn.kc, hn.km⟩
        | i + 1, hi =>
          simp only [List.getElem?_cons_succ] at hi
          obtain ⟨h1, ⟨d, h2, A', c', h3, h4, h5⟩, h6⟩ := each i n hi
          have e3 : ∀ r, ([hv a.t, .slice Aa a.v.length ca, .slice Ka a.ks.length ka] ++ vs)[(i + 1) * 3 + r]? = vs[i * 3 + r]? := fun r => by
            rw [List.getElem?_append_right (by show 3 ≤ _; omega)]
            congr 1
            show (i + 1) * 3 + r - 3 = _
            omega
          refine ⟨?_, ⟨d, ?_, A', c', h3, (h4.keep hW).more hB, h5⟩, ?_, h6.2⟩
          · have := e3 0; rw [Nat.add_zero, Nat.add_zero] at this; rw [this]; exact h1
          · rw [e3 1]; exact h2
          · rw [e3 2]; exact h6.1
      · match i, hi with
        | 0, hi =>
          simp only [List.getElem?_cons_zero, Option.some.injEq] at hi
          subst hi
          exact hn.kids
        | i + 1, hi =>
          simp only [List.getElem?_cons_succ] at hi
          exact ((kids i n hi).keep hW).more hB
theorem own_baseR18 {w : World} {base base' e sz n : Nat} {v : Value} {xs : List Value} (h : w.ownsRow base e sz v n xs) (hb : base' ≤ base) : w.ownsRow base' e sz v n xs :=
  ⟨h.1, h.2.imp id fun ⟨g, cap, cur, h1, h2, h3⟩ => ⟨g, cap, cur, h1, Nat.le_trans hb h2, h3⟩⟩
set_option maxRecDepth 100000 in
set_option maxHeartbeats 8000000 in
theorem request18_any (s : UInt32) (a : Nd) (l : List Nd) (hF : CkFine ⟨193, 0, be 4 s, a :: l⟩) (A : Option Addr) (c : Nat) (K : Option Addr) (k : Nat) (L : Option Addr) (m : Nat) (w : World) (ha : Node w w.heap.size A c K k a) (h : Nodes w w.heap.size L l) (hh : Handle w) :
    Calls Tryz.prog 38 #[uv s, ndV a A c K k, .slice L l.length m] w (MkK ⟨193, 0, be 4 s, a :: l⟩ (serB ⟨193, 0, be 4 s, a :: l⟩) w) := by
  have b0 : Below w.heap.size w ((w.alloc (.cells #[hv a.t, .slice A a.v.length c, .slice K a.ks.length k] 51)).alloc (.cells #[.int .u8 0, .int .u8 0, .slice none 0 0, .slice none 0 0] 62)) := ((Below.refl _ w).alloc (Nat.le_refl _) _).alloc (by simp) _
  have x0 := (Whole.new w 51 #[hv a.t, .slice A a.v.length c, .slice K a.ks.length k]).alloc (.cells #[.int .u8 0, .int .u8 0, .slice none 0 0, .slice none 0 0] 62)
  have y0 := Whole.new (w.alloc (.cells #[hv a.t, .slice A a.v.length c, .slice K a.ks.length k] 51)) 62 #[.int .u8 0, .int .u8 0, .slice none 0 0, .slice none 0 0]
  rw [World.size_alloc] at y0
  have hs0 : ((w.alloc (.cells #[hv a.t, .slice A a.v.length c, .slice K a.ks.length k] 51)).alloc (.cells #[.int .u8 0, .int .u8 0, .slice none 0 0, .slice none 0 0] 62)).heap.size = w.heap.size + 2 := by simp
  have hll : l.length + 1 ≤ 1000 := hF.ks
  obtain ⟨vs, hvl, hvlen, hone, happ⟩ := nodes_app18 h
  have HW : Hid (∀ (V : World) (A2 : Option Addr) (n c2 : Nat), Below w.heap.size w V → n = l.length + 1 → V.ownsRow w.heap.size 51 3 (.slice A2 n c2) n ([hv a.t, .slice A a.v.length c, .slice K a.ks.length k] ++ vs) → Calls Tryz.prog 78 #[.int .u8 193, uv s, .slice A2 n c2] V (MkK ⟨193, 0, be 4 s, a :: l⟩ (serB ⟨193, 0, be 4 s, a :: l⟩) V)) := Lib.hid (fun V A2 n c2 hV hn ho => by
    subst hn
    have hL := own_lies3 ho (Nat.succ_pos _)
    obtain ⟨h1, h2⟩ := own_cap3' ho
    exact with18_any 193 s (a :: l) hF A2 c2 V (happ V V.heap.size A2 a A c K k (fun p hp => hV.cell hp) hV.size (ha.on hV) hL) h1 h2 (hh.below hV hh.lt))
  have HM : Hid (∀ ok V e w', MkK ⟨193, 0, be 4 s, a :: l⟩ ok V e w' = (Below V.heap.size V w' ∧
    ((ok = true ∧ ∃ A' c' K' k', e = .returned (.tuple #[.agg #[.int .u8 193, .int .u8 0, .slice A' 4 c', .slice K' (l.length + 1) k'], .bool true]) ∧ ChunkS w' (fun b => V.heap.size ≤ b ∧ b < w'.heap.size) A' c' K' k' ⟨193, 0, be 4 s, a :: l⟩) ∨ (ok = false ∧ e = .returned (.tuple #[.agg #[.int .u8 0, .int .u8 0, .slice none 0 0, .slice none 0 0], .bool false]))))) := Lib.hid fun _ _ _ _ => rfl
  unfold ndV
  clear h hF hh happ ha
  generalize serB ⟨193, 0, be 4 s, a :: l⟩ = sb at *
  generalize hnn : (⟨193, 0, be 4 s, a :: l⟩ : Ck) = nn at *
  clear hnn
  go_enter Tryz.func38, Tryz.ntmps38
  go_upto_region 1 with fail
  generalize hwa : (w.alloc (.cells #[hv a.t, .slice A a.v.length c, .slice K a.ks.length k] 51)).alloc (.cells #[.int .u8 0, .int .u8 0, .slice none 0 0, .slice none 0 0] 62) = wa at *
  clear hwa
  have HS := Lib.hid hs0
  have hz : w.heap.size + 1 < wa.heap.size := by omega
  have y1 := y0.alloc (.cells #[hv a.t, .slice A a.v.length c, .slice K a.ks.length k] 51)
  have B1 := b0.alloc b0.size (.cells #[hv a.t, .slice A a.v.length c, .slice K a.ks.length k] 51)
  have o1 : (wa.alloc (.cells #[hv a.t, .slice A a.v.length c, .slice K a.ks.length k] 51)).ownsRow wa.heap.size 51 3 (.slice (some ⟨wa.heap.size, 0, none⟩) 1 1) 1 [hv a.t, .slice A a.v.length c, .slice K a.ks.length k] := own_whole18 (Whole.new wa _ _) (Nat.le_refl _)
  have L1 : Lies (wa.alloc (.cells #[hv a.t, .slice A a.v.length c, .slice K a.ks.length k] 51)) w.heap.size L vs := hvl.below B1
  obtain ⟨q0, q1, q2⟩ := wh318 x0
  clear hs0 hvl
  go_wp2_with (first | (at_builtin; refine wpList_append_wide13 _ rfl (.tmp 10) (.tmp 11) 49 rfl wa.heap.size 51 _ 3 56 Tryz.underlying49 ndinfo18 rfl (by omega) _ _ _ rfl o1 _ _ l.length m vs rfl hvlen L1 hone (by omega) (by unfold maxLen; omega) (by simp) ?_; intro v2 w2 own2 hgr2; obtain ⟨A2, c2, rfl⟩ := own_slice own2) | fail)
  have B2 : Below w.heap.size w w2 := B1.grown hgr2 B1.size (fun j e => by
    have e' : some wa.heap.size = some j := e
    have := Option.some.inj e'
    omega)
  have y2 : Whole w2 (w.heap.size + 1) 62 #[.int .u8 0, .int .u8 0, .slice none 0 0, .slice none 0 0] := (hgr2.block _ y1.lt (fun e => by
    have e' : some (w.heap.size + 1) = some wa.heap.size := e
    have := Option.some.inj e'
    omega)).trans y1
  have hW := HW.out w2 A2 (1 + l.length) c2 B2 (Nat.add_comm _ _) (own_baseR18 own2 (by omega))
  have hle2 : w.heap.size + 1 < w2.heap.size := y2.lt
  clear own2 hgr2 HW o1 L1 y1 y0 x0 B1 b0 q0 q1 q2 hone hvlen
  go_wp2_with fail
  refine hW.mono ?_
  intro e w3 hk
  rw [HM.out] at hk
  have HK := Lib.hid hk
  clear hk hW
  rcases HK.out with ⟨b3, ⟨rfl, A3, c3, K3, k3, rfl, hS3⟩ | ⟨rfl, rfl⟩⟩
  · have B3 := Lib.hid (B2.trans (b3.mono B2.size))
    have y3 := y2.below b3 y2.lt
    have HS3 := Lib.hid hS3
    have HL2 := Lib.hid hle2
    have HB2 := Lib.hid B2.size
    clear y2 B2 b3 hS3 HK hle2
    have f0 := y3.frozen 0
    have f1 := y3.frozen 1
    have f2 := y3.frozen 2
    have f3 := y3.frozen 3
    obtain ⟨u0, u1, u2, u3⟩ := wh4 y3
    go_wp2_with fail
    refine bodyPost_ret (results_row_tmp rfl _ _ (w.heap.size + 1) 62 _ _ rfl ((((y3.set_ 0 _).set_ 1 _).set_ 2 _).set_ 3 _) Tryz.underlying62 rfl (by kernel_rfl)) rfl ?_
    rw [HM.out]
    refine ⟨(((B3.out.setCell (p := ⟨w.heap.size + 1, 0, none⟩) (Nat.le_succ _) _).setCell (p := ⟨w.heap.size + 1, 1, none⟩) (Nat.le_succ _) _).setCell (p := ⟨w.heap.size + 1, 2, none⟩) (Nat.le_succ _) _).setCell (p := ⟨w.heap.size + 1, 3, none⟩) (Nat.le_succ _) _, .inl ⟨by trivial, A3, c3, K3, k3, rfl, ?_⟩⟩
    exact chunk_back18 (w0 := w) (V := w2) HS3.out HL2.out HB2.out
  · have B3 := Lib.hid (B2.trans (b3.mono B2.size))
    have y3 := y2.below b3 y2.lt
    clear y2 B2 b3 HK
    have f0 := y3.frozen 0
    have f1 := y3.frozen 1
    have f2 := y3.frozen 2
    have f3 := y3.frozen 3
    obtain ⟨u0, u1, u2, u3⟩ := wh4 y3
    go_wp2_with fail
    refine bodyPost_ret (results_row_tmp rfl _ _ (w.heap.size + 1) 62 _ _ rfl ((((y3.set_ 0 _).set_ 1 _).set_ 2 _).set_ 3 _) Tryz.underlying62 rfl (by kernel_rfl)) rfl ?_
    rw [HM.out]
    exact ⟨(((B3.out.setCell (p := ⟨w.heap.size + 1, 0, none⟩) (Nat.le_succ _) _).setCell (p := ⟨w.heap.size + 1, 1, none⟩) (Nat.le_succ _) _).setCell (p := ⟨w.heap.size + 1, 2, none⟩) (Nat.le_succ _) _).setCell (p := ⟨w.heap.size + 1, 3, none⟩) (Nat.le_succ _) _, .inr ⟨by trivial, rfl⟩⟩
end Go.Proofs.YteknmgmdmjmnmaaGreatDoor


