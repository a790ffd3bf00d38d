/- Layer 18: the law AsconfRequests (written by tools/gen_asc_w.py). It writes nothing that was there. -/
import Derived.Test.YteknmgmdmjmnmaaGreatDoorUAscS
import Derived.Test.YteknmgmdmjmnmaaGreatDoorUNF
import Derived.BigGuard
import Derived.Deep.RegionHeld3
import Derived.Deep.Cut
import Derived.Deep.CutRange
namespace Go.Proofs.YteknmgmdmjmnmaaGreatDoor
open Go.ChangeShapes Go.WideShapes Go.ChangeAt Go.RowKit

set_option linter.unusedSimpArgs false
theorem own_belowW18 {w w' : World} {base e s n : Nat} {v : Value} {xs : List Value} (h : w.ownsRow base e s v n xs) (b : Below w.heap.size w w') : w'.ownsRow base e s v n xs := h.kept (grown_of_below b) (Classical.em _)
theorem own_setRowW18 {W : World} {base e s n g : Nat} {v : Value} {xs : List Value} {t : TypeId} {cs : Array Value} (h : W.ownsRow base e s v n xs) (hz : Whole W g t cs) (hte : t ≠ e) (ds : Array Value) : (W.setRow g ds).ownsRow base e s v n xs := by
  have hne := whole_row_ne hz hte h
  refine ⟨h.1, ?_⟩
  rcases h.2 with h2 | ⟨q, cap, cur, rfl, h3, h4, h5⟩
  · exact .inl h2
  · exact .inr ⟨q, cap, cur, rfl, h3, by rw [setRow_other _ _ _ _ (fun e => hne (by simp [Value.ownBlock, e]))]; exact h4, h5⟩
theorem wp_append_w18 {P : Program} {w : World} {o : Oper} {a : Act} {K : Act → World → Prop} {Q : Exit → Act → World → Prop} (s x : Operand) (t : TypeId)
    (ho : o.op = .call { callee := .builtin .append, args := #[s, x], argTypes := #[t, t] })
    (base : Nat) (e : TypeId) (z : Value) (size bytes : Nat) (ht : P.underlying t = some (.slice e)) (hi : (P.info? e).map (fun i => (i.zero, i.size, i.bytes)) = some (some z, size, bytes))
    (hzs : z.cells.size = size) (hsz : 0 < size) (v : Value) (n : Nat) (xs : List Value) (hs : a.eval s = v) (hown : w.ownsRow base e size v n xs)
    (B : Nat) (A : Option Addr) (m c : Nat) (news : List Value) (hx : a.eval x = .slice A m c) (hm : news.length = m * size) (hl : Lies w B A news) (h1 : ∀ u ∈ news, u.oneCell' = true)
    (hbytes : (n + m) * bytes ≤ 140737488355328) (h63 : n + m ≤ maxLen) (hbase : base ≤ w.heap.size)
    (h : ∀ v' w', w'.ownsRow base e size v' (n + m) (xs ++ news) → w.grownBy w' v.ownBlock → K (a.put o.dst v') w') : o.wp P a w K Q := by
  obtain ⟨v', w', hr, h2, h3⟩ := run_append_wide13 (P := P) w base t o.type e z size bytes ht hi hzs hsz v n xs hown B A m c news hm hl h1 hbytes h63 hbase
  unfold Oper.wp execOp
  simp only [ho, resolve, invoke, builtin, Sem.run_bind, Sem.run_pure, Result.andThen_ok, List.map_toArray, List.map_cons, List.map_nil, hs, hx, hr]
  exact h v' w' h2 h3
/-- the chunk that the law builds itself, once it stands in its box -/
structure Want18 (w4 V : World) (g : Nat) (ll : Nat) (X : Ck) (Ab : Option Addr) (cb : Nat) (A2 : Option Addr) (c2 : Nat) : Prop where
  low : Below w4.heap.size w4 V
  box : Whole V g 62 #[.int .u8 193, .int .u8 0, .slice Ab 4 cb, .slice A2 (1 + ll) c2]
  chunk : Chunk V V.heap.size Ab cb A2 c2 X
theorem want18 {w4 V : World} {g ll : Nat} {X : Ck} {Ab A2 : Option Addr} {cb c2 : Nat} {bs xs : List Value} (hB : Below w4.heap.size w4 V) (hg : w4.heap.size ≤ g)
    (hz : Whole V g 62 #[.int .u8 0, .int .u8 0, .slice none 0 0, .slice none 0 0])
    (ho : V.ownsRow w4.heap.size 5 1 (.slice Ab 4 cb) 4 bs) (hn : V.ownsRow w4.heap.size 51 3 (.slice A2 (1 + ll) c2) (1 + ll) xs)
    (hch : ∀ W, Below w4.heap.size w4 W → W.ownsRow w4.heap.size 5 1 (.slice Ab 4 cb) 4 bs → W.ownsRow w4.heap.size 51 3 (.slice A2 (1 + ll) c2) (1 + ll) xs → Chunk W W.heap.size Ab cb A2 c2 X) :
    Want18 w4 (V.setRow g #[.int .u8 193, .int .u8 0, .slice Ab 4 cb, .slice A2 (1 + ll) c2]) g ll X Ab cb A2 c2 :=
  ⟨below_setRow hB hg _, hz.setRow _, hch _ (below_setRow hB hg _) (own_setRowW18 ho hz (by decide) _) (own_setRowW18 hn hz (by decide) _)⟩
set_option maxRecDepth 100000 in
set_option maxHeartbeats 32000000 in
theorem requests_law18 (s : UInt32) (a : Nd) (l : List Nd) (hba : Bnd a) (hbl : ∀ n ∈ l, Bnd n) (hgl : l.length ≤ 9223372036854775807) (A : Option Addr) (c : Nat) (Ak : Option Addr) (k : Nat) (L : Option Addr) (m : Nat) (w : World) (ha : Node w w.heap.size A c Ak k a) (h : Nodes w w.heap.size L l) (hh : Handle w) (hT : Tbl w) :
    Calls Tryz.prog 8 #[uv s, ndV a A c Ak k, .slice L l.length m] w fun e w' => e = .returned (.bool true) ∧ Below w.heap.size w w' := by
  have b0 : Below w.heap.size w (w.alloc (.cells #[hv a.t, .slice A a.v.length c, .slice Ak a.ks.length k] 51)) := (Below.refl _ w).alloc (Nat.le_refl _) _
  have x0 := Whole.new w 51 #[hv a.t, .slice A a.v.length c, .slice Ak a.ks.length k]
  have HAW := Lib.hid (fun (V : World) (hb : Below w.heap.size w V) => awake18_any V (hh.below hb hh.lt) (hT.below hb))
  have HFA := Lib.hid (fun (V : World) (hb : Below w.heap.size w V) => few17_any a hba A c Ak k V (ha.on hb))
  have HFL := Lib.hid (fun (V : World) (hb : Below w.heap.size w V) => few_any L m l V (h.on hb) hgl hbl)
  have HFN : Hid (fewN a = true → decide (cnt 21 l ≤ 200) = true → CkFine ⟨193, 0, be 4 s, a :: l⟩) := Lib.hid (fun hc hd => by
    obtain ⟨f1, _, f3⟩ := few_fine 21 l (of_decide_eq_true hd)
    exact ckFine_of 193 s (a :: l) (by rw [List.length_cons]; omega) (fun n hn => (List.mem_cons.1 hn).elim (fun e => e ▸ fewN_fine hc) (f3 n)))
  have HLL : Hid (decide (cnt 21 l ≤ 200) = true → l.length ≤ 200) := Lib.hid (fun hd => (few_fine 21 l (of_decide_eq_true hd)).1)
  obtain ⟨vs, hvl, hvlen, hone, happ⟩ := nodes_app18 h
  have HVS : Hid (∀ V, Below w.heap.size w V → Lies V w.heap.size L vs) := Lib.hid (fun V hV => hvl.below hV)
  have HRQ : Hid (fewN a = true → decide (cnt 21 l ≤ 200) = true → ∀ V, Below w.heap.size w V → Calls Tryz.prog 38 #[uv s, .agg #[hv a.t, .slice A a.v.length c, .slice Ak a.ks.length k], .slice L l.length m] V (MkK ⟨193, 0, be 4 s, a :: l⟩ (reqB ⟨193, 0, be 4 s, a :: l⟩) V)) := Lib.hid (fun hc hd V hV => by
    have h1 := request18_any s a l (HFN.out hc hd) A c Ak k L m V (ha.on hV) (h.on hV) (hh.below hV hh.lt)
    rw [serB_req rfl] at h1
    exact h1)
  have HCK : Hid (∀ w4 : World, Below w.heap.size w w4 → ∀ (Ab A2 : Option Addr) (cb c2 : Nat), ∀ W, Below w4.heap.size w4 W → W.ownsRow w4.heap.size 5 1 (.slice Ab 4 cb) 4 ((be 4 s).map bv) → W.ownsRow w4.heap.size 51 3 (.slice A2 (1 + l.length) c2) (1 + l.length) ([hv a.t, .slice A a.v.length c, .slice Ak a.ks.length k] ++ vs) → Chunk W W.heap.size Ab cb A2 c2 ⟨193, 0, be 4 s, a :: l⟩) := Lib.hid (fun w4 h4 Ab A2 cb c2 W hW ho hn => by
    have hV := h4.trans (hW.mono h4.size)
    obtain ⟨_, cp1, cp2⟩ := own_cap ho
    obtain ⟨h1, h2⟩ := own_cap3' hn
    exact ⟨Lies.own ho, by show (be 4 s).length ≤ cb; rw [be4_len18]; exact cp1, cp2, happ W W.heap.size A2 a A c Ak k (fun p hp => hV.cell hp) hV.size (ha.on hV) (own_lies3 hn (by omega)), by show (a :: l).length ≤ c2; rw [List.length_cons]; omega, h2⟩)
  have HPU : Hid (∀ (V : World) (q : Nat), Lies V V.heap.size (some ⟨q, 0, none⟩) [uv s] → Calls Tryz.prog 25 #[.int .i64 4, .slice (some ⟨q, 0, none⟩) 1 1] V fun e w' => ∃ A' c', e = .returned (.slice A' 4 c') ∧ w'.ownsRow V.heap.size 5 1 (.slice A' 4 c') 4 ((be 4 s).map bv) ∧ Below V.heap.size V w') := Lib.hid (fun V q hl => by
    have h1 := rput_any 4 (.inr (.inr rfl)) (some ⟨q, 0, none⟩) 1 [s] V hl (by simp)
    rw [puts1_18] at h1
    exact h1)
  have HIR : Hid (fewN a = true → decide (cnt 21 l ≤ 200) = true → ∀ (V : World) (Ab A2 : Option Addr) (cb c2 : Nat), Chunk V V.heap.size Ab cb A2 c2 ⟨193, 0, be 4 s, a :: l⟩ → Calls Tryz.prog 35 #[.agg #[.int .u8 193, .int .u8 0, .slice Ab 4 cb, .slice A2 (1 + l.length) c2]] V fun e w' => e = .returned (.bool (reqB ⟨193, 0, be 4 s, a :: l⟩)) ∧ Below V.heap.size V w') := Lib.hid (fun hc hd V Ab A2 cb c2 hC => by
    rw [Nat.add_comm 1 l.length]
    exact rreq18_any ⟨193, 0, be 4 s, a :: l⟩ (HFN.out hc hd) Ab cb A2 c2 V hC)
  have HSE : Hid (fewN a = true → decide (cnt 21 l ≤ 200) = true → reqB ⟨193, 0, be 4 s, a :: l⟩ = true → ∀ (V : World) (A' : Option Addr) (c' : Nat) (K' : Option Addr) (k' : Nat), Below w.heap.size w V → Chunk V V.heap.size A' c' K' k' ⟨193, 0, be 4 s, a :: l⟩ → Calls Tryz.prog 34 #[.agg #[.int .u8 193, .int .u8 0, .slice A' 4 c', .slice K' (l.length + 1) k']] V fun e w' => e = .returned (.tuple #[uv s, .bool true]) ∧ Below V.heap.size V w') := Lib.hid (fun hc hd ha V A' c' K' k' hV hC => by
    have h1 := serial18_any ⟨193, 0, be 4 s, a :: l⟩ (HFN.out hc hd) A' c' K' k' V hC (hh.below hV hh.lt)
    have h2 : serB ⟨193, 0, be 4 s, a :: l⟩ = true := by rw [serB_req rfl]; exact ha
    rw [serV_be h2 rfl, h2] at h1
    exact h1)
  have HSM : Hid (fewN a = true → decide (cnt 21 l ≤ 200) = true → ∀ (V : World) (A' : Option Addr) (c' : Nat) (K' : Option Addr) (k' : Nat) (Ab A2 : Option Addr) (cb c2 : Nat), Chunk V V.heap.size A' c' K' k' ⟨193, 0, be 4 s, a :: l⟩ → Chunk V V.heap.size Ab cb A2 c2 ⟨193, 0, be 4 s, a :: l⟩ → Calls Tryz.prog 39 #[.agg #[.int .u8 193, .int .u8 0, .slice A' 4 c', .slice K' (l.length + 1) k'], .agg #[.int .u8 193, .int .u8 0, .slice Ab 4 cb, .slice A2 (1 + l.length) c2]] V fun e w' => e = .returned (.bool true) ∧ Below V.heap.size V w') := Lib.hid (fun hc hd V A' c' K' k' Ab A2 cb c2 h1 h2 => by
    rw [Nat.add_comm 1 l.length]
    exact cksame_self ⟨193, 0, be 4 s, a :: l⟩ (HFN.out hc hd) A' c' K' k' Ab cb A2 c2 V h1 h2)
  have HM : Hid (∀ ok V e w', MkK ⟨193, 0, be 4 s, a :: l⟩ ok V e w' → Below V.heap.size V w' ∧
    ((ok = true ∧ ∃ A' c' K' k', e = .returned (.tuple #[.agg #[.int .u8 193, .int .u8 0, .slice A' 4 c', .slice K' (l.length + 1) k'], .bool true]) ∧ Chunk w' w'.heap.size A' c' K' k' ⟨193, 0, be 4 s, a :: l⟩) ∨ (ok = false ∧ e = .returned (.tuple #[.agg #[.int .u8 0, .int .u8 0, .slice none 0 0, .slice none 0 0], .bool false])))) := Lib.hid (fun ok V e w' hk => by
    cases ok with
    | true => obtain ⟨h1, A', c', K', k', h2, h3⟩ := mkK_yes hk; exact ⟨h1, .inl ⟨rfl, A', c', K', k', h2, h3⟩⟩
    | false => obtain ⟨h1, h2⟩ := mkK_no hk; exact ⟨h1, .inr ⟨rfl, h2⟩⟩)
  clear ha h hh hT hba hbl hgl HFN happ hvl
  unfold ndV
  generalize reqB ⟨193, 0, be 4 s, a :: l⟩ = rb at *
  generalize hX : (⟨193, 0, be 4 s, a :: l⟩ : Ck) = X at *
  clear hX
  generalize fewN a = fa at *
  generalize decide (cnt 21 l ≤ 200) = fl at *
  generalize l.length = ll at *
  generalize a.v.length = la at *
  generalize a.ks.length = lka at *
  generalize a.t = ta at *
  have HVN := Lib.hid hvlen
  have HON := Lib.hid hone
  clear hvlen hone
  go_enter Tryz.func8, Tryz.ntmps8
  go_upto_region 1 with fail
  generalize w.alloc (.cells #[hv ta, .slice A la c, .slice Ak lka k] 51) = w0 at *
  have B0 := b0
  clear b0
  have H1 := Lib.hid (HAW.out w0 B0)
  obtain ⟨xp0, xp1, xp2⟩ := wh318 x0
  go_wp2_with fail
  refine H1.out.mono ?_
  rintro e w1 ⟨rfl, b1⟩
  clear H1 xp0 xp1 xp2
  have B1 := B0.trans (b1.mono B0.size)
  have x1 := x0.below b1 x0.lt
  clear x0 B0 b1
  have H1 := Lib.hid (HFA.out w1 B1)
  clear HFA
  obtain ⟨xp0, xp1, xp2⟩ := wh318 x1
  cases fa with
  | false =>
    go_wp2_with fail
    refine H1.out.mono ?_
    rintro e w2 ⟨rfl, b2⟩
    have B2 := B1.trans (b2.mono B1.size)
    have HW := Lib.hid (HAW.out w2 B2)
    clear H1
    go_wp2_with fail
    refine HW.out.mono ?_
    rintro e w3 ⟨rfl, b3⟩
    have HBF := Lib.hid (B2.trans (b3.mono B2.size))
    clear HW
    go_wp2_with fail
    go_ret
    exact ⟨rfl, HBF.out⟩
  | true =>
    go_wp2_with fail
    refine H1.out.mono ?_
    rintro e w2 ⟨rfl, b2⟩
    clear H1 xp0 xp1 xp2
    have B2 := B1.trans (b2.mono B1.size)
    have x2 := x1.below b2 x1.lt
    clear x1 B1 b2
    have H1 := Lib.hid (HFL.out w2 B2)
    clear HFL
    obtain ⟨xp0, xp1, xp2⟩ := wh318 x2
    cases fl with
    | false =>
      go_wp2_with fail
      refine H1.out.mono ?_
      rintro e w3 ⟨rfl, b3⟩
      have B3 := B2.trans (b3.mono B2.size)
      have HW := Lib.hid (HAW.out w3 B3)
      clear H1
      go_wp2_with fail
      refine HW.out.mono ?_
      rintro e w4 ⟨rfl, b4⟩
      have HBF := Lib.hid (B3.trans (b4.mono B3.size))
      clear HW
      go_wp2_with fail
      go_ret
      exact ⟨rfl, HBF.out⟩
    | true =>
      go_wp2_with fail
      refine H1.out.mono ?_
      rintro e w3 ⟨rfl, b3⟩
      clear H1 xp0 xp1 xp2
      have B3 := B2.trans (b3.mono B2.size)
      have x3 := x2.below b3 x2.lt
      clear x2 B2 b3 HAW
      have hll : ll ≤ 200 := HLL.out (by trivial)
      have HL2 := Lib.hid hll
      have HA3 := Lib.hid (HRQ.out (by trivial) (by trivial) w3 B3)
      obtain ⟨xp0, xp1, xp2⟩ := wh318 x3
      clear HRQ hll HLL
      go_wp2_with fail
      refine HA3.out.mono ?_
      intro e wq hk
      obtain ⟨bq, hk2⟩ := HM.out rb w3 e wq hk
      have Bq := B3.trans (bq.mono B3.size)
      have xq := x3.below bq x3.lt
      clear HA3 HM hk bq B3 x3 xp0 xp1 xp2
      rcases hk2 with ⟨rfl, A3, c3, K3, k3, rfl, C3⟩ | ⟨rfl, rfl⟩
      · go_upto_region 4 with fail
        have b5 : Below wq.heap.size wq (wq.alloc (.cells #[.int .u8 193, .int .u8 0, .slice A3 4 c3, .slice K3 (ll + 1) k3] 62)) := (Below.refl _ wq).alloc (Nat.le_refl _) _
        have B4 := Bq.trans (b5.mono Bq.size)
        have y4 := Whole.new wq 62 #[.int .u8 193, .int .u8 0, .slice A3 4 c3, .slice K3 (ll + 1) k3]
        have x4 := xq.below b5 xq.lt
        have C4 := C3.on b5
        clear C3 Bq b5 xq
        generalize wq.alloc (.cells #[.int .u8 193, .int .u8 0, .slice A3 4 c3, .slice K3 (ll + 1) k3] 62) = w4 at *
        generalize wq.heap.size = g4 at *
        have KX : Hid (∀ V, Below w4.heap.size w4 V → Whole V w.heap.size 51 #[hv ta, .slice A la c, .slice Ak lka k] ∧ Whole V g4 62 #[.int .u8 193, .int .u8 0, .slice A3 4 c3, .slice K3 (ll + 1) k3]) := Lib.hid (fun V hV => ⟨x4.below hV x4.lt, y4.below hV y4.lt⟩)
        have KS : Hid (∀ V, Below w4.heap.size w4 V → V.cell? ⟨w.heap.size, 0, none⟩ = some (hv ta) ∧ V.cell? ⟨w.heap.size, 1, none⟩ = some (.slice A la c) ∧ V.cell? ⟨w.heap.size, 2, none⟩ = some (.slice Ak lka k)) := Lib.hid (fun V hV => wh318 (KX.out V hV).1)
        clear x4 y4
        go_cut [9] from 33 to 40 (fun v wx => ∃ (g : Nat) (Ab : Option Addr) (cb : Nat) (A2 : Option Addr) (c2 : Nat), v = .pointer (some ⟨g, 0, none⟩) ∧ Hid (Want18 w4 wx g ll X Ab cb A2 c2))
        case first =>
          refine wp_region_held_drew (S := (fun V => V.cell? ⟨w.heap.size, 0, none⟩ = some (hv ta) ∧ V.cell? ⟨w.heap.size, 1, none⟩ = some (.slice A la c) ∧ V.cell? ⟨w.heap.size, 2, none⟩ = some (.slice Ak lka k))) (by kernel_rfl) (KS.out _ (below_drew (Below.refl _ w4))) (fun hHeld => ?_)
          have Bp : Below w4.heap.size w4 w4.drew := below_drew (Below.refl _ w4)
          generalize w4.drew = vp at *
          refine take_at (i := 0) (v := ?_) (some 33) rfl (by kernel_rfl) (by kernel_rfl) (by kernel_rfl) (fun _ _ _ h => h) (by kernel_rfl) (Or.inl ⟨by kernel_rfl, ?_⟩) (by assumption) ?_
          rotate_left
          · (intro w hSw; (try dsimp only at hSw); go_simp <;> with_reducible rfl)
          simp only [Act.put, List.setIfInBounds_toArray, List.set_cons_zero, List.set_cons_succ]
          refine take_at (i := 3) (v := ?_) (some 36) rfl (by kernel_rfl) (by kernel_rfl) (by kernel_rfl) (fun _ _ _ h => h) (by kernel_rfl) (Or.inl ⟨by kernel_rfl, ?_⟩) (by assumption) ?_
          rotate_left
          · (intro w hSw; (try dsimp only at hSw); go_simp <;> with_reducible rfl)
          simp only [Act.put, List.setIfInBounds_toArray, List.set_cons_zero, List.set_cons_succ]
          refine take_at (i := 5) (v := ?_) (some 38) rfl (by kernel_rfl) (by kernel_rfl) (by kernel_rfl) (fun _ _ _ h => h) (by kernel_rfl) (Or.inl ⟨by kernel_rfl, ?_⟩) (by assumption) ?_
          rotate_left
          · (intro w hSw; (try dsimp only at hSw); go_simp <;> with_reducible rfl)
          simp only [Act.put, List.setIfInBounds_toArray, List.set_cons_zero, List.set_cons_succ]
          refine wpAnyH_ready (rs := [1, 4, 8]) (by kernel_rfl) (by simp) ?_
          refine AllReadyH.cons rfl (fun K hK => ?_) (AllReadyH.cons rfl (fun K hK => ?_) (AllReadyH.cons rfl (fun K hK => ?_) AllReadyH.nil))
          · go_simp
            have bp1 : Below vp.heap.size vp (vp.alloc (.cells #[uv s] 22)) := (Below.refl _ vp).alloc (Nat.le_refl _) _
            have Lp1 : Lies (vp.alloc (.cells #[uv s] 22)) (vp.alloc (.cells #[uv s] 22)).heap.size (some ⟨vp.heap.size, 0, none⟩) [uv s] := (Lies.newN vp [uv s] _).more (by simp)
            have Bp1 := Bp.trans (bp1.mono Bp.size)
            generalize (vp.alloc (.cells #[uv s] 22)) = vp1 at *
            clear hHeld
            refine hK.out _ _ (KS.out _ Bp1) (fun hHeld => ?_)
            clear hK K
            try simp only [Act.put, List.setIfInBounds_toArray, List.set_cons_zero, List.set_cons_succ]
            refine wpAnyH_ready (rs := [2, 4, 8]) (by kernel_rfl) (by simp) ?_
            refine AllReadyH.cons rfl (fun K hK => ?_) (AllReadyH.cons rfl (fun K hK => ?_) (AllReadyH.cons rfl (fun K hK => ?_) AllReadyH.nil))
            · go_simp
              (with_reducible refine (HPU.out vp1 _ Lp1).mono ?_); rintro e vp1_2 ⟨Ab, cb, rfl, op1_2, bp1_2⟩
              go_wp2_with fail
              have Bp1_2 := Bp1.trans (bp1_2.mono Bp1.size)
              have Op1_2 := own_base op1_2 Bp1.size
              clear hHeld
              refine hK.out _ _ (KS.out _ Bp1_2) (fun hHeld => ?_)
              clear hK K
              try simp only [Act.put, List.setIfInBounds_toArray, List.set_cons_zero, List.set_cons_succ]
              refine wpAnyH_ready (rs := [4, 8]) (by kernel_rfl) (by simp) ?_
              refine AllReadyH.cons rfl (fun K hK => ?_) (AllReadyH.cons rfl (fun K hK => ?_) AllReadyH.nil)
              · go_simp
                have bp1_2_4 : Below vp1_2.heap.size vp1_2 (vp1_2.alloc (.cells #[hv ta, .slice A la c, .slice Ak lka k] 51)) := (Below.refl _ vp1_2).alloc (Nat.le_refl _) _
                have Wp1_2_4 := Whole.new vp1_2 51 #[hv ta, .slice A la c, .slice Ak lka k]
                have Bp1_2_4 := Bp1_2.trans (bp1_2_4.mono Bp1_2.size)
                have Op1_2_4 := own_belowW18 Op1_2 bp1_2_4
                generalize (vp1_2.alloc (.cells #[hv ta, .slice A la c, .slice Ak lka k] 51)) = vp1_2_4 at *
                clear hHeld
                refine hK.out _ _ (KS.out _ Bp1_2_4) (fun hHeld => ?_)
                clear hK K
                try simp only [Act.put, List.setIfInBounds_toArray, List.set_cons_zero, List.set_cons_succ]
                refine wpAnyH_ready (rs := [6, 8]) (by kernel_rfl) (by simp) ?_
                refine AllReadyH.cons rfl (fun K hK => ?_) (AllReadyH.cons rfl (fun K hK => ?_) AllReadyH.nil)
                · have hgp1_2_4_6 : w4.heap.size ≤ vp1_2.heap.size := Bp1_2.size
                  have rp1_2_4_6 : vp1_2_4.ownsRow vp1_2.heap.size 51 3 (.slice (some ⟨vp1_2.heap.size, 0, none⟩) 1 1) 1 [hv ta, .slice A la c, .slice Ak lka k] := own_whole18 Wp1_2_4 (Nat.le_refl _)
                  have hlp1_2_4_6 := HL2.out
                  refine wp_append_w18 (.tmp 37) (.tmp 38) 49 rfl vp1_2.heap.size 51 _ 3 56 Tryz.underlying49 ndinfo18 rfl (by omega) (.slice (some ⟨vp1_2.heap.size, 0, none⟩) 1 1) 1 _ rfl rp1_2_4_6 w.heap.size L ll m vs rfl HVN.out (HVS.out vp1_2_4 (B4.trans (Bp1_2_4.mono B4.size))) HON.out (by omega) (by unfold maxLen; omega) (Nat.le_of_lt Wp1_2_4.lt) ?_
                  intro up1_2_4_6 vp1_2_4_6 ownp1_2_4_6 grp1_2_4_6
                  obtain ⟨A6, c6, rfl⟩ := own_slice ownp1_2_4_6
                  have Bp1_2_4_6 := Bp1_2_4.grown grp1_2_4_6 Bp1_2_4.size (fun r e => by have e2 := Option.some.inj (show some vp1_2.heap.size = some r from e); omega)
                  have Op1_2_4_6 := Op1_2_4.kept grp1_2_4_6 (.inr (fun e => whole_row_ne Wp1_2_4 (by decide) Op1_2_4 e))
                  have Np1_2_4_6 := own_baseR18 ownp1_2_4_6 hgp1_2_4_6
                  go_simp
                  clear hHeld
                  refine hK.out _ _ (KS.out _ Bp1_2_4_6) (fun hHeld => ?_)
                  clear hK K
                  try simp only [Act.put, List.setIfInBounds_toArray, List.set_cons_zero, List.set_cons_succ]
                  refine take_at (i := 7) (v := ?_) (some 40) rfl (by kernel_rfl) (by kernel_rfl) (by kernel_rfl) (fun _ _ _ h => h) (by kernel_rfl) (Or.inl ⟨by kernel_rfl, ?_⟩) (by assumption) ?_
                  rotate_left
                  · (intro w hSw; (try dsimp only at hSw); go_simp <;> with_reducible rfl)
                  simp only [Act.put, List.setIfInBounds_toArray, List.set_cons_zero, List.set_cons_succ]
                  refine wpAnyH_ready (rs := [8]) (by kernel_rfl) (by simp) ?_
                  refine AllReadyH.cons rfl (fun K hK => ?_) AllReadyH.nil
                  go_simp
                  have bp1_2_4_6_8 : Below vp1_2_4_6.heap.size vp1_2_4_6 (vp1_2_4_6.alloc (.cells #[.int .u8 0, .int .u8 0, .slice none 0 0, .slice none 0 0] 62)) := (Below.refl _ vp1_2_4_6).alloc (Nat.le_refl _) _
                  have Zp1_2_4_6_8 := Whole.new vp1_2_4_6 62 #[.int .u8 0, .int .u8 0, .slice none 0 0, .slice none 0 0]
                  have Bp1_2_4_6_8 := Bp1_2_4_6.trans (bp1_2_4_6_8.mono Bp1_2_4_6.size)
                  have Op1_2_4_6_8 := own_belowW18 Op1_2_4_6 bp1_2_4_6_8
                  have Np1_2_4_6_8 := own_belowW18 Np1_2_4_6 bp1_2_4_6_8
                  generalize (vp1_2_4_6.alloc (.cells #[.int .u8 0, .int .u8 0, .slice none 0 0, .slice none 0 0] 62)) = vp1_2_4_6_8 at *
                  clear hHeld
                  refine hK.out _ _ (KS.out _ Bp1_2_4_6_8) (fun hHeld => ?_)
                  clear hK K
                  try simp only [Act.put, List.setIfInBounds_toArray, List.set_cons_zero, List.set_cons_succ]
                  refine wpAnyH_ready (rs := [9]) (by kernel_rfl) (by simp) ?_
                  refine AllReadyH.cons rfl (fun K hK => ?_) AllReadyH.nil
                  refine wp_store_row 62 _ _ rfl vp1_2_4_6.heap.size #[.int .u8 193, .int .u8 0, .slice Ab 4 cb, .slice A6 (1 + ll) c6] rfl rfl _ _ Zp1_2_4_6_8 (by kernel_rfl) rfl (by simp [Value.oneCell']) ?_
                  have R9 := want18 (ll := ll) (X := X) Bp1_2_4_6_8 Bp1_2_4_6.size Zp1_2_4_6_8 Op1_2_4_6_8 Np1_2_4_6_8 (HCK.out w4 B4 Ab A6 cb c6)
                  clear hHeld
                  refine hK.out _ _ (KS.out _ R9.low) (fun hHeld => ?_)
                  clear hK K
                  try simp only [Act.put, List.setIfInBounds_toArray, List.set_cons_zero, List.set_cons_succ]
                  refine wpAnyH_done (by kernel_rfl) ?_ _
                  go_wp2_with fail
                  go_meet
                  exact ⟨vp1_2_4_6.heap.size, Ab, cb, A6, c6, rfl, Lib.hid R9⟩
                · go_simp
                  have bp1_2_4_8 : Below vp1_2_4.heap.size vp1_2_4 (vp1_2_4.alloc (.cells #[.int .u8 0, .int .u8 0, .slice none 0 0, .slice none 0 0] 62)) := (Below.refl _ vp1_2_4).alloc (Nat.le_refl _) _
                  have Zp1_2_4_8 := Whole.new vp1_2_4 62 #[.int .u8 0, .int .u8 0, .slice none 0 0, .slice none 0 0]
                  have Bp1_2_4_8 := Bp1_2_4.trans (bp1_2_4_8.mono Bp1_2_4.size)
                  have Op1_2_4_8 := own_belowW18 Op1_2_4 bp1_2_4_8
                  have Wp1_2_4_8 := Wp1_2_4.below bp1_2_4_8 Wp1_2_4.lt
                  generalize (vp1_2_4.alloc (.cells #[.int .u8 0, .int .u8 0, .slice none 0 0, .slice none 0 0] 62)) = vp1_2_4_8 at *
                  clear hHeld
                  refine hK.out _ _ (KS.out _ Bp1_2_4_8) (fun hHeld => ?_)
                  clear hK K
                  try simp only [Act.put, List.setIfInBounds_toArray, List.set_cons_zero, List.set_cons_succ]
                  refine wpAnyH_ready (rs := [6]) (by kernel_rfl) (by simp) ?_
                  refine AllReadyH.cons rfl (fun K hK => ?_) AllReadyH.nil
                  have hgp1_2_4_8_6 : w4.heap.size ≤ vp1_2.heap.size := Bp1_2.size
                  have rp1_2_4_8_6 : vp1_2_4_8.ownsRow vp1_2.heap.size 51 3 (.slice (some ⟨vp1_2.heap.size, 0, none⟩) 1 1) 1 [hv ta, .slice A la c, .slice Ak lka k] := own_whole18 Wp1_2_4_8 (Nat.le_refl _)
                  have hlp1_2_4_8_6 := HL2.out
                  refine wp_append_w18 (.tmp 37) (.tmp 38) 49 rfl vp1_2.heap.size 51 _ 3 56 Tryz.underlying49 ndinfo18 rfl (by omega) (.slice (some ⟨vp1_2.heap.size, 0, none⟩) 1 1) 1 _ rfl rp1_2_4_8_6 w.heap.size L ll m vs rfl HVN.out (HVS.out vp1_2_4_8 (B4.trans (Bp1_2_4_8.mono B4.size))) HON.out (by omega) (by unfold maxLen; omega) (Nat.le_of_lt Wp1_2_4_8.lt) ?_
                  intro up1_2_4_8_6 vp1_2_4_8_6 ownp1_2_4_8_6 grp1_2_4_8_6
                  obtain ⟨A6, c6, rfl⟩ := own_slice ownp1_2_4_8_6
                  have Bp1_2_4_8_6 := Bp1_2_4_8.grown grp1_2_4_8_6 Bp1_2_4_8.size (fun r e => by have e2 := Option.some.inj (show some vp1_2.heap.size = some r from e); omega)
                  have Op1_2_4_8_6 := Op1_2_4_8.kept grp1_2_4_8_6 (.inr (fun e => whole_row_ne Wp1_2_4_8 (by decide) Op1_2_4_8 e))
                  have Np1_2_4_8_6 := own_baseR18 ownp1_2_4_8_6 hgp1_2_4_8_6
                  have Zp1_2_4_8_6 := Zp1_2_4_8.grown grp1_2_4_8_6 (fun e => whole_row_ne Zp1_2_4_8 (by decide) rp1_2_4_8_6 e.symm)
                  go_simp
                  clear hHeld
                  refine hK.out _ _ (KS.out _ Bp1_2_4_8_6) (fun hHeld => ?_)
                  clear hK K
                  try simp only [Act.put, List.setIfInBounds_toArray, List.set_cons_zero, List.set_cons_succ]
                  refine take_at (i := 7) (v := ?_) (some 40) rfl (by kernel_rfl) (by kernel_rfl) (by kernel_rfl) (fun _ _ _ h => h) (by kernel_rfl) (Or.inl ⟨by kernel_rfl, ?_⟩) (by assumption) ?_
                  rotate_left
                  · (intro w hSw; (try dsimp only at hSw); go_simp <;> with_reducible rfl)
                  simp only [Act.put, List.setIfInBounds_toArray, List.set_cons_zero, List.set_cons_succ]
                  refine wpAnyH_ready (rs := [9]) (by kernel_rfl) (by simp) ?_
                  refine AllReadyH.cons rfl (fun K hK => ?_) AllReadyH.nil
                  refine wp_store_row 62 _ _ rfl vp1_2_4.heap.size #[.int .u8 193, .int .u8 0, .slice Ab 4 cb, .slice A6 (1 + ll) c6] rfl rfl _ _ Zp1_2_4_8_6 (by kernel_rfl) rfl (by simp [Value.oneCell']) ?_
                  have R9 := want18 (ll := ll) (X := X) Bp1_2_4_8_6 Bp1_2_4.size Zp1_2_4_8_6 Op1_2_4_8_6 Np1_2_4_8_6 (HCK.out w4 B4 Ab A6 cb c6)
                  clear hHeld
                  refine hK.out _ _ (KS.out _ R9.low) (fun hHeld => ?_)
                  clear hK K
                  try simp only [Act.put, List.setIfInBounds_toArray, List.set_cons_zero, List.set_cons_succ]
                  refine wpAnyH_done (by kernel_rfl) ?_ _
                  go_wp2_with fail
                  go_meet
                  exact ⟨vp1_2_4.heap.size, Ab, cb, A6, c6, rfl, Lib.hid R9⟩
              · go_simp
                have bp1_2_8 : Below vp1_2.heap.size vp1_2 (vp1_2.alloc (.cells #[.int .u8 0, .int .u8 0, .slice none 0 0, .slice none 0 0] 62)) := (Below.refl _ vp1_2).alloc (Nat.le_refl _) _
                have Zp1_2_8 := Whole.new vp1_2 62 #[.int .u8 0, .int .u8 0, .slice none 0 0, .slice none 0 0]
                have Bp1_2_8 := Bp1_2.trans (bp1_2_8.mono Bp1_2.size)
                have Op1_2_8 := own_belowW18 Op1_2 bp1_2_8
                generalize (vp1_2.alloc (.cells #[.int .u8 0, .int .u8 0, .slice none 0 0, .slice none 0 0] 62)) = vp1_2_8 at *
                clear hHeld
                refine hK.out _ _ (KS.out _ Bp1_2_8) (fun hHeld => ?_)
                clear hK K
                try simp only [Act.put, List.setIfInBounds_toArray, List.set_cons_zero, List.set_cons_succ]
                refine wpAnyH_ready (rs := [4]) (by kernel_rfl) (by simp) ?_
                refine AllReadyH.cons rfl (fun K hK => ?_) AllReadyH.nil
                go_simp
                have bp1_2_8_4 : Below vp1_2_8.heap.size vp1_2_8 (vp1_2_8.alloc (.cells #[hv ta, .slice A la c, .slice Ak lka k] 51)) := (Below.refl _ vp1_2_8).alloc (Nat.le_refl _) _
                have Wp1_2_8_4 := Whole.new vp1_2_8 51 #[hv ta, .slice A la c, .slice Ak lka k]
                have Bp1_2_8_4 := Bp1_2_8.trans (bp1_2_8_4.mono Bp1_2_8.size)
                have Op1_2_8_4 := own_belowW18 Op1_2_8 bp1_2_8_4
                have Zp1_2_8_4 := Zp1_2_8.below bp1_2_8_4 Zp1_2_8.lt
                generalize (vp1_2_8.alloc (.cells #[hv ta, .slice A la c, .slice Ak lka k] 51)) = vp1_2_8_4 at *
                clear hHeld
                refine hK.out _ _ (KS.out _ Bp1_2_8_4) (fun hHeld => ?_)
                clear hK K
                try simp only [Act.put, List.setIfInBounds_toArray, List.set_cons_zero, List.set_cons_succ]
                refine wpAnyH_ready (rs := [6]) (by kernel_rfl) (by simp) ?_
                refine AllReadyH.cons rfl (fun K hK => ?_) AllReadyH.nil
                have hgp1_2_8_4_6 : w4.heap.size ≤ vp1_2_8.heap.size := Bp1_2_8.size
                have rp1_2_8_4_6 : vp1_2_8_4.ownsRow vp1_2_8.heap.size 51 3 (.slice (some ⟨vp1_2_8.heap.size, 0, none⟩) 1 1) 1 [hv ta, .slice A la c, .slice Ak lka k] := own_whole18 Wp1_2_8_4 (Nat.le_refl _)
                have hlp1_2_8_4_6 := HL2.out
                refine wp_append_w18 (.tmp 37) (.tmp 38) 49 rfl vp1_2_8.heap.size 51 _ 3 56 Tryz.underlying49 ndinfo18 rfl (by omega) (.slice (some ⟨vp1_2_8.heap.size, 0, none⟩) 1 1) 1 _ rfl rp1_2_8_4_6 w.heap.size L ll m vs rfl HVN.out (HVS.out vp1_2_8_4 (B4.trans (Bp1_2_8_4.mono B4.size))) HON.out (by omega) (by unfold maxLen; omega) (Nat.le_of_lt Wp1_2_8_4.lt) ?_
                intro up1_2_8_4_6 vp1_2_8_4_6 ownp1_2_8_4_6 grp1_2_8_4_6
                obtain ⟨A6, c6, rfl⟩ := own_slice ownp1_2_8_4_6
                have Bp1_2_8_4_6 := Bp1_2_8_4.grown grp1_2_8_4_6 Bp1_2_8_4.size (fun r e => by have e2 := Option.some.inj (show some vp1_2_8.heap.size = some r from e); omega)
                have Op1_2_8_4_6 := Op1_2_8_4.kept grp1_2_8_4_6 (.inr (fun e => whole_row_ne Wp1_2_8_4 (by decide) Op1_2_8_4 e))
                have Np1_2_8_4_6 := own_baseR18 ownp1_2_8_4_6 hgp1_2_8_4_6
                have Zp1_2_8_4_6 := Zp1_2_8_4.grown grp1_2_8_4_6 (fun e => whole_row_ne Zp1_2_8_4 (by decide) rp1_2_8_4_6 e.symm)
                go_simp
                clear hHeld
                refine hK.out _ _ (KS.out _ Bp1_2_8_4_6) (fun hHeld => ?_)
                clear hK K
                try simp only [Act.put, List.setIfInBounds_toArray, List.set_cons_zero, List.set_cons_succ]
                refine take_at (i := 7) (v := ?_) (some 40) rfl (by kernel_rfl) (by kernel_rfl) (by kernel_rfl) (fun _ _ _ h => h) (by kernel_rfl) (Or.inl ⟨by kernel_rfl, ?_⟩) (by assumption) ?_
                rotate_left
                · (intro w hSw; (try dsimp only at hSw); go_simp <;> with_reducible rfl)
                simp only [Act.put, List.setIfInBounds_toArray, List.set_cons_zero, List.set_cons_succ]
                refine wpAnyH_ready (rs := [9]) (by kernel_rfl) (by simp) ?_
                refine AllReadyH.cons rfl (fun K hK => ?_) AllReadyH.nil
                refine wp_store_row 62 _ _ rfl vp1_2.heap.size #[.int .u8 193, .int .u8 0, .slice Ab 4 cb, .slice A6 (1 + ll) c6] rfl rfl _ _ Zp1_2_8_4_6 (by kernel_rfl) rfl (by simp [Value.oneCell']) ?_
                have R9 := want18 (ll := ll) (X := X) Bp1_2_8_4_6 Bp1_2.size Zp1_2_8_4_6 Op1_2_8_4_6 Np1_2_8_4_6 (HCK.out w4 B4 Ab A6 cb c6)
                clear hHeld
                refine hK.out _ _ (KS.out _ R9.low) (fun hHeld => ?_)
                clear hK K
                try simp only [Act.put, List.setIfInBounds_toArray, List.set_cons_zero, List.set_cons_succ]
                refine wpAnyH_done (by kernel_rfl) ?_ _
                go_wp2_with fail
                go_meet
                exact ⟨vp1_2.heap.size, Ab, cb, A6, c6, rfl, Lib.hid R9⟩
            · go_simp
              have bp1_4 : Below vp1.heap.size vp1 (vp1.alloc (.cells #[hv ta, .slice A la c, .slice Ak lka k] 51)) := (Below.refl _ vp1).alloc (Nat.le_refl _) _
              have Wp1_4 := Whole.new vp1 51 #[hv ta, .slice A la c, .slice Ak lka k]
              have Bp1_4 := Bp1.trans (bp1_4.mono Bp1.size)
              have Lp1_4 := (Lp1.below bp1_4).more bp1_4.size
              generalize (vp1.alloc (.cells #[hv ta, .slice A la c, .slice Ak lka k] 51)) = vp1_4 at *
              clear hHeld
              refine hK.out _ _ (KS.out _ Bp1_4) (fun hHeld => ?_)
              clear hK K
              try simp only [Act.put, List.setIfInBounds_toArray, List.set_cons_zero, List.set_cons_succ]
              refine wpAnyH_ready (rs := [2, 8]) (by kernel_rfl) (by simp) ?_
              refine AllReadyH.cons rfl (fun K hK => ?_) (AllReadyH.cons rfl (fun K hK => ?_) AllReadyH.nil)
              · go_simp
                (with_reducible refine (HPU.out vp1_4 _ Lp1_4).mono ?_); rintro e vp1_4_2 ⟨Ab, cb, rfl, op1_4_2, bp1_4_2⟩
                go_wp2_with fail
                have Bp1_4_2 := Bp1_4.trans (bp1_4_2.mono Bp1_4.size)
                have Wp1_4_2 := Wp1_4.below bp1_4_2 Wp1_4.lt
                have Op1_4_2 := own_base op1_4_2 Bp1_4.size
                clear hHeld
                refine hK.out _ _ (KS.out _ Bp1_4_2) (fun hHeld => ?_)
                clear hK K
                try simp only [Act.put, List.setIfInBounds_toArray, List.set_cons_zero, List.set_cons_succ]
                refine wpAnyH_ready (rs := [6, 8]) (by kernel_rfl) (by simp) ?_
                refine AllReadyH.cons rfl (fun K hK => ?_) (AllReadyH.cons rfl (fun K hK => ?_) AllReadyH.nil)
                · have hgp1_4_2_6 : w4.heap.size ≤ vp1.heap.size := Bp1.size
                  have rp1_4_2_6 : vp1_4_2.ownsRow vp1.heap.size 51 3 (.slice (some ⟨vp1.heap.size, 0, none⟩) 1 1) 1 [hv ta, .slice A la c, .slice Ak lka k] := own_whole18 Wp1_4_2 (Nat.le_refl _)
                  have hlp1_4_2_6 := HL2.out
                  refine wp_append_w18 (.tmp 37) (.tmp 38) 49 rfl vp1.heap.size 51 _ 3 56 Tryz.underlying49 ndinfo18 rfl (by omega) (.slice (some ⟨vp1.heap.size, 0, none⟩) 1 1) 1 _ rfl rp1_4_2_6 w.heap.size L ll m vs rfl HVN.out (HVS.out vp1_4_2 (B4.trans (Bp1_4_2.mono B4.size))) HON.out (by omega) (by unfold maxLen; omega) (Nat.le_of_lt Wp1_4_2.lt) ?_
                  intro up1_4_2_6 vp1_4_2_6 ownp1_4_2_6 grp1_4_2_6
                  obtain ⟨A6, c6, rfl⟩ := own_slice ownp1_4_2_6
                  have Bp1_4_2_6 := Bp1_4_2.grown grp1_4_2_6 Bp1_4_2.size (fun r e => by have e2 := Option.some.inj (show some vp1.heap.size = some r from e); omega)
                  have Op1_4_2_6 := Op1_4_2.kept grp1_4_2_6 (.inr (fun e => whole_row_ne Wp1_4_2 (by decide) Op1_4_2 e))
                  have Np1_4_2_6 := own_baseR18 ownp1_4_2_6 hgp1_4_2_6
                  go_simp
                  clear hHeld
                  refine hK.out _ _ (KS.out _ Bp1_4_2_6) (fun hHeld => ?_)
                  clear hK K
                  try simp only [Act.put, List.setIfInBounds_toArray, List.set_cons_zero, List.set_cons_succ]
                  refine take_at (i := 7) (v := ?_) (some 40) rfl (by kernel_rfl) (by kernel_rfl) (by kernel_rfl) (fun _ _ _ h => h) (by kernel_rfl) (Or.inl ⟨by kernel_rfl, ?_⟩) (by assumption) ?_
                  rotate_left
                  · (intro w hSw; (try dsimp only at hSw); go_simp <;> with_reducible rfl)
                  simp only [Act.put, List.setIfInBounds_toArray, List.set_cons_zero, List.set_cons_succ]
                  refine wpAnyH_ready (rs := [8]) (by kernel_rfl) (by simp) ?_
                  refine AllReadyH.cons rfl (fun K hK => ?_) AllReadyH.nil
                  go_simp
                  have bp1_4_2_6_8 : Below vp1_4_2_6.heap.size vp1_4_2_6 (vp1_4_2_6.alloc (.cells #[.int .u8 0, .int .u8 0, .slice none 0 0, .slice none 0 0] 62)) := (Below.refl _ vp1_4_2_6).alloc (Nat.le_refl _) _
                  have Zp1_4_2_6_8 := Whole.new vp1_4_2_6 62 #[.int .u8 0, .int .u8 0, .slice none 0 0, .slice none 0 0]
                  have Bp1_4_2_6_8 := Bp1_4_2_6.trans (bp1_4_2_6_8.mono Bp1_4_2_6.size)
                  have Op1_4_2_6_8 := own_belowW18 Op1_4_2_6 bp1_4_2_6_8
                  have Np1_4_2_6_8 := own_belowW18 Np1_4_2_6 bp1_4_2_6_8
                  generalize (vp1_4_2_6.alloc (.cells #[.int .u8 0, .int .u8 0, .slice none 0 0, .slice none 0 0] 62)) = vp1_4_2_6_8 at *
                  clear hHeld
                  refine hK.out _ _ (KS.out _ Bp1_4_2_6_8) (fun hHeld => ?_)
                  clear hK K
                  try simp only [Act.put, List.setIfInBounds_toArray, List.set_cons_zero, List.set_cons_succ]
                  refine wpAnyH_ready (rs := [9]) (by kernel_rfl) (by simp) ?_
                  refine AllReadyH.cons rfl (fun K hK => ?_) AllReadyH.nil
                  refine wp_store_row 62 _ _ rfl vp1_4_2_6.heap.size #[.int .u8 193, .int .u8 0, .slice Ab 4 cb, .slice A6 (1 + ll) c6] rfl rfl _ _ Zp1_4_2_6_8 (by kernel_rfl) rfl (by simp [Value.oneCell']) ?_
                  have R9 := want18 (ll := ll) (X := X) Bp1_4_2_6_8 Bp1_4_2_6.size Zp1_4_2_6_8 Op1_4_2_6_8 Np1_4_2_6_8 (HCK.out w4 B4 Ab A6 cb c6)
                  clear hHeld
                  refine hK.out _ _ (KS.out _ R9.low) (fun hHeld => ?_)
                  clear hK K
                  try simp only [Act.put, List.setIfInBounds_toArray, List.set_cons_zero, List.set_cons_succ]
                  refine wpAnyH_done (by kernel_rfl) ?_ _
                  go_wp2_with fail
                  go_meet
                  exact ⟨vp1_4_2_6.heap.size, Ab, cb, A6, c6, rfl, Lib.hid R9⟩
                · go_simp
                  have bp1_4_2_8 : Below vp1_4_2.heap.size vp1_4_2 (vp1_4_2.alloc (.cells #[.int .u8 0, .int .u8 0, .slice none 0 0, .slice none 0 0] 62)) := (Below.refl _ vp1_4_2).alloc (Nat.le_refl _) _
                  have Zp1_4_2_8 := Whole.new vp1_4_2 62 #[.int .u8 0, .int .u8 0, .slice none 0 0, .slice none 0 0]
                  have Bp1_4_2_8 := Bp1_4_2.trans (bp1_4_2_8.mono Bp1_4_2.size)
                  have Op1_4_2_8 := own_belowW18 Op1_4_2 bp1_4_2_8
                  have Wp1_4_2_8 := Wp1_4_2.below bp1_4_2_8 Wp1_4_2.lt
                  generalize (vp1_4_2.alloc (.cells #[.int .u8 0, .int .u8 0, .slice none 0 0, .slice none 0 0] 62)) = vp1_4_2_8 at *
                  clear hHeld
                  refine hK.out _ _ (KS.out _ Bp1_4_2_8) (fun hHeld => ?_)
                  clear hK K
                  try simp only [Act.put, List.setIfInBounds_toArray, List.set_cons_zero, List.set_cons_succ]
                  refine wpAnyH_ready (rs := [6]) (by kernel_rfl) (by simp) ?_
                  refine AllReadyH.cons rfl (fun K hK => ?_) AllReadyH.nil
                  have hgp1_4_2_8_6 : w4.heap.size ≤ vp1.heap.size := Bp1.size
                  have rp1_4_2_8_6 : vp1_4_2_8.ownsRow vp1.heap.size 51 3 (.slice (some ⟨vp1.heap.size, 0, none⟩) 1 1) 1 [hv ta, .slice A la c, .slice Ak lka k] := own_whole18 Wp1_4_2_8 (Nat.le_refl _)
                  have hlp1_4_2_8_6 := HL2.out
                  refine wp_append_w18 (.tmp 37) (.tmp 38) 49 rfl vp1.heap.size 51 _ 3 56 Tryz.underlying49 ndinfo18 rfl (by omega) (.slice (some ⟨vp1.heap.size, 0, none⟩) 1 1) 1 _ rfl rp1_4_2_8_6 w.heap.size L ll m vs rfl HVN.out (HVS.out vp1_4_2_8 (B4.trans (Bp1_4_2_8.mono B4.size))) HON.out (by omega) (by unfold maxLen; omega) (Nat.le_of_lt Wp1_4_2_8.lt) ?_
                  intro up1_4_2_8_6 vp1_4_2_8_6 ownp1_4_2_8_6 grp1_4_2_8_6
                  obtain ⟨A6, c6, rfl⟩ := own_slice ownp1_4_2_8_6
                  have Bp1_4_2_8_6 := Bp1_4_2_8.grown grp1_4_2_8_6 Bp1_4_2_8.size (fun r e => by have e2 := Option.some.inj (show some vp1.heap.size = some r from e); omega)
                  have Op1_4_2_8_6 := Op1_4_2_8.kept grp1_4_2_8_6 (.inr (fun e => whole_row_ne Wp1_4_2_8 (by decide) Op1_4_2_8 e))
                  have Np1_4_2_8_6 := own_baseR18 ownp1_4_2_8_6 hgp1_4_2_8_6
                  have Zp1_4_2_8_6 := Zp1_4_2_8.grown grp1_4_2_8_6 (fun e => whole_row_ne Zp1_4_2_8 (by decide) rp1_4_2_8_6 e.symm)
                  go_simp
                  clear hHeld
                  refine hK.out _ _ (KS.out _ Bp1_4_2_8_6) (fun hHeld => ?_)
                  clear hK K
                  try simp only [Act.put, List.setIfInBounds_toArray, List.set_cons_zero, List.set_cons_succ]
                  refine take_at (i := 7) (v := ?_) (some 40) rfl (by kernel_rfl) (by kernel_rfl) (by kernel_rfl) (fun _ _ _ h => h) (by kernel_rfl) (Or.inl ⟨by kernel_rfl, ?_⟩) (by assumption) ?_
                  rotate_left
                  · (intro w hSw; (try dsimp only at hSw); go_simp <;> with_reducible rfl)
                  simp only [Act.put, List.setIfInBounds_toArray, List.set_cons_zero, List.set_cons_succ]
                  refine wpAnyH_ready (rs := [9]) (by kernel_rfl) (by simp) ?_
                  refine AllReadyH.cons rfl (fun K hK => ?_) AllReadyH.nil
                  refine wp_store_row 62 _ _ rfl vp1_4_2.heap.size #[.int .u8 193, .int .u8 0, .slice Ab 4 cb, .slice A6 (1 + ll) c6] rfl rfl _ _ Zp1_4_2_8_6 (by kernel_rfl) rfl (by simp [Value.oneCell']) ?_
                  have R9 := want18 (ll := ll) (X := X) Bp1_4_2_8_6 Bp1_4_2.size Zp1_4_2_8_6 Op1_4_2_8_6 Np1_4_2_8_6 (HCK.out w4 B4 Ab A6 cb c6)
                  clear hHeld
                  refine hK.out _ _ (KS.out _ R9.low) (fun hHeld => ?_)
                  clear hK K
                  try simp only [Act.put, List.setIfInBounds_toArray, List.set_cons_zero, List.set_cons_succ]
                  refine wpAnyH_done (by kernel_rfl) ?_ _
                  go_wp2_with fail
                  go_meet
                  exact ⟨vp1_4_2.heap.size, Ab, cb, A6, c6, rfl, Lib.hid R9⟩
              · go_simp
                have bp1_4_8 : Below vp1_4.heap.size vp1_4 (vp1_4.alloc (.cells #[.int .u8 0, .int .u8 0, .slice none 0 0, .slice none 0 0] 62)) := (Below.refl _ vp1_4).alloc (Nat.le_refl _) _
                have Zp1_4_8 := Whole.new vp1_4 62 #[.int .u8 0, .int .u8 0, .slice none 0 0, .slice none 0 0]
                have Bp1_4_8 := Bp1_4.trans (bp1_4_8.mono Bp1_4.size)
                have Lp1_4_8 := (Lp1_4.below bp1_4_8).more bp1_4_8.size
                have Wp1_4_8 := Wp1_4.below bp1_4_8 Wp1_4.lt
                generalize (vp1_4.alloc (.cells #[.int .u8 0, .int .u8 0, .slice none 0 0, .slice none 0 0] 62)) = vp1_4_8 at *
                clear hHeld
                refine hK.out _ _ (KS.out _ Bp1_4_8) (fun hHeld => ?_)
                clear hK K
                try simp only [Act.put, List.setIfInBounds_toArray, List.set_cons_zero, List.set_cons_succ]
                refine wpAnyH_ready (rs := [2]) (by kernel_rfl) (by simp) ?_
                refine AllReadyH.cons rfl (fun K hK => ?_) AllReadyH.nil
                go_simp
                (with_reducible refine (HPU.out vp1_4_8 _ Lp1_4_8).mono ?_); rintro e vp1_4_8_2 ⟨Ab, cb, rfl, op1_4_8_2, bp1_4_8_2⟩
                go_wp2_with fail
                have Bp1_4_8_2 := Bp1_4_8.trans (bp1_4_8_2.mono Bp1_4_8.size)
                have Wp1_4_8_2 := Wp1_4_8.below bp1_4_8_2 Wp1_4_8.lt
                have Zp1_4_8_2 := Zp1_4_8.below bp1_4_8_2 Zp1_4_8.lt
                have Op1_4_8_2 := own_base op1_4_8_2 Bp1_4_8.size
                clear hHeld
                refine hK.out _ _ (KS.out _ Bp1_4_8_2) (fun hHeld => ?_)
                clear hK K
                try simp only [Act.put, List.setIfInBounds_toArray, List.set_cons_zero, List.set_cons_succ]
                refine wpAnyH_ready (rs := [6]) (by kernel_rfl) (by simp) ?_
                refine AllReadyH.cons rfl (fun K hK => ?_) AllReadyH.nil
                have hgp1_4_8_2_6 : w4.heap.size ≤ vp1.heap.size := Bp1.size
                have rp1_4_8_2_6 : vp1_4_8_2.ownsRow vp1.heap.size 51 3 (.slice (some ⟨vp1.heap.size, 0, none⟩) 1 1) 1 [hv ta, .slice A la c, .slice Ak lka k] := own_whole18 Wp1_4_8_2 (Nat.le_refl _)
                have hlp1_4_8_2_6 := HL2.out
                refine wp_append_w18 (.tmp 37) (.tmp 38) 49 rfl vp1.heap.size 51 _ 3 56 Tryz.underlying49 ndinfo18 rfl (by omega) (.slice (some ⟨vp1.heap.size, 0, none⟩) 1 1) 1 _ rfl rp1_4_8_2_6 w.heap.size L ll m vs rfl HVN.out (HVS.out vp1_4_8_2 (B4.trans (Bp1_4_8_2.mono B4.size))) HON.out (by omega) (by unfold maxLen; omega) (Nat.le_of_lt Wp1_4_8_2.lt) ?_
                intro up1_4_8_2_6 vp1_4_8_2_6 ownp1_4_8_2_6 grp1_4_8_2_6
                obtain ⟨A6, c6, rfl⟩ := own_slice ownp1_4_8_2_6
                have Bp1_4_8_2_6 := Bp1_4_8_2.grown grp1_4_8_2_6 Bp1_4_8_2.size (fun r e => by have e2 := Option.some.inj (show some vp1.heap.size = some r from e); omega)
                have Op1_4_8_2_6 := Op1_4_8_2.kept grp1_4_8_2_6 (.inr (fun e => whole_row_ne Wp1_4_8_2 (by decide) Op1_4_8_2 e))
                have Np1_4_8_2_6 := own_baseR18 ownp1_4_8_2_6 hgp1_4_8_2_6
                have Zp1_4_8_2_6 := Zp1_4_8_2.grown grp1_4_8_2_6 (fun e => whole_row_ne Zp1_4_8_2 (by decide) rp1_4_8_2_6 e.symm)
                go_simp
                clear hHeld
                refine hK.out _ _ (KS.out _ Bp1_4_8_2_6) (fun hHeld => ?_)
                clear hK K
                try simp only [Act.put, List.setIfInBounds_toArray, List.set_cons_zero, List.set_cons_succ]
                refine take_at (i := 7) (v := ?_) (some 40) rfl (by kernel_rfl) (by kernel_rfl) (by kernel_rfl) (fun _ _ _ h => h) (by kernel_rfl) (Or.inl ⟨by kernel_rfl, ?_⟩) (by assumption) ?_
                rotate_left
                · (intro w hSw; (try dsimp only at hSw); go_simp <;> with_reducible rfl)
                simp only [Act.put, List.setIfInBounds_toArray, List.set_cons_zero, List.set_cons_succ]
                refine wpAnyH_ready (rs := [9]) (by kernel_rfl) (by simp) ?_
                refine AllReadyH.cons rfl (fun K hK => ?_) AllReadyH.nil
                refine wp_store_row 62 _ _ rfl vp1_4.heap.size #[.int .u8 193, .int .u8 0, .slice Ab 4 cb, .slice A6 (1 + ll) c6] rfl rfl _ _ Zp1_4_8_2_6 (by kernel_rfl) rfl (by simp [Value.oneCell']) ?_
                have R9 := want18 (ll := ll) (X := X) Bp1_4_8_2_6 Bp1_4.size Zp1_4_8_2_6 Op1_4_8_2_6 Np1_4_8_2_6 (HCK.out w4 B4 Ab A6 cb c6)
                clear hHeld
                refine hK.out _ _ (KS.out _ R9.low) (fun hHeld => ?_)
                clear hK K
                try simp only [Act.put, List.setIfInBounds_toArray, List.set_cons_zero, List.set_cons_succ]
                refine wpAnyH_done (by kernel_rfl) ?_ _
                go_wp2_with fail
                go_meet
                exact ⟨vp1_4.heap.size, Ab, cb, A6, c6, rfl, Lib.hid R9⟩
            · go_simp
              have bp1_8 : Below vp1.heap.size vp1 (vp1.alloc (.cells #[.int .u8 0, .int .u8 0, .slice none 0 0, .slice none 0 0] 62)) := (Below.refl _ vp1).alloc (Nat.le_refl _) _
              have Zp1_8 := Whole.new vp1 62 #[.int .u8 0, .int .u8 0, .slice none 0 0, .slice none 0 0]
              have Bp1_8 := Bp1.trans (bp1_8.mono Bp1.size)
              have Lp1_8 := (Lp1.below bp1_8).more bp1_8.size
              generalize (vp1.alloc (.cells #[.int .u8 0, .int .u8 0, .slice none 0 0, .slice none 0 0] 62)) = vp1_8 at *
              clear hHeld
              refine hK.out _ _ (KS.out _ Bp1_8) (fun hHeld => ?_)
              clear hK K
              try simp only [Act.put, List.setIfInBounds_toArray, List.set_cons_zero, List.set_cons_succ]
              refine wpAnyH_ready (rs := [2, 4]) (by kernel_rfl) (by simp) ?_
              refine AllReadyH.cons rfl (fun K hK => ?_) (AllReadyH.cons rfl (fun K hK => ?_) AllReadyH.nil)
              · go_simp
                (with_reducible refine (HPU.out vp1_8 _ Lp1_8).mono ?_); rintro e vp1_8_2 ⟨Ab, cb, rfl, op1_8_2, bp1_8_2⟩
                go_wp2_with fail
                have Bp1_8_2 := Bp1_8.trans (bp1_8_2.mono Bp1_8.size)
                have Zp1_8_2 := Zp1_8.below bp1_8_2 Zp1_8.lt
                have Op1_8_2 := own_base op1_8_2 Bp1_8.size
                clear hHeld
                refine hK.out _ _ (KS.out _ Bp1_8_2) (fun hHeld => ?_)
                clear hK K
                try simp only [Act.put, List.setIfInBounds_toArray, List.set_cons_zero, List.set_cons_succ]
                refine wpAnyH_ready (rs := [4]) (by kernel_rfl) (by simp) ?_
                refine AllReadyH.cons rfl (fun K hK => ?_) AllReadyH.nil
                go_simp
                have bp1_8_2_4 : Below vp1_8_2.heap.size vp1_8_2 (vp1_8_2.alloc (.cells #[hv ta, .slice A la c, .slice Ak lka k] 51)) := (Below.refl _ vp1_8_2).alloc (Nat.le_refl _) _
                have Wp1_8_2_4 := Whole.new vp1_8_2 51 #[hv ta, .slice A la c, .slice Ak lka k]
                have Bp1_8_2_4 := Bp1_8_2.trans (bp1_8_2_4.mono Bp1_8_2.size)
                have Op1_8_2_4 := own_belowW18 Op1_8_2 bp1_8_2_4
                have Zp1_8_2_4 := Zp1_8_2.below bp1_8_2_4 Zp1_8_2.lt
                generalize (vp1_8_2.alloc (.cells #[hv ta, .slice A la c, .slice Ak lka k] 51)) = vp1_8_2_4 at *
                clear hHeld
                refine hK.out _ _ (KS.out _ Bp1_8_2_4) (fun hHeld => ?_)
                clear hK K
                try simp only [Act.put, List.setIfInBounds_toArray, List.set_cons_zero, List.set_cons_succ]
                refine wpAnyH_ready (rs := [6]) (by kernel_rfl) (by simp) ?_
                refine AllReadyH.cons rfl (fun K hK => ?_) AllReadyH.nil
                have hgp1_8_2_4_6 : w4.heap.size ≤ vp1_8_2.heap.size := Bp1_8_2.size
                have rp1_8_2_4_6 : vp1_8_2_4.ownsRow vp1_8_2.heap.size 51 3 (.slice (some ⟨vp1_8_2.heap.size, 0, none⟩) 1 1) 1 [hv ta, .slice A la c, .slice Ak lka k] := own_whole18 Wp1_8_2_4 (Nat.le_refl _)
                have hlp1_8_2_4_6 := HL2.out
                refine wp_append_w18 (.tmp 37) (.tmp 38) 49 rfl vp1_8_2.heap.size 51 _ 3 56 Tryz.underlying49 ndinfo18 rfl (by omega) (.slice (some ⟨vp1_8_2.heap.size, 0, none⟩) 1 1) 1 _ rfl rp1_8_2_4_6 w.heap.size L ll m vs rfl HVN.out (HVS.out vp1_8_2_4 (B4.trans (Bp1_8_2_4.mono B4.size))) HON.out (by omega) (by unfold maxLen; omega) (Nat.le_of_lt Wp1_8_2_4.lt) ?_
                intro up1_8_2_4_6 vp1_8_2_4_6 ownp1_8_2_4_6 grp1_8_2_4_6
                obtain ⟨A6, c6, rfl⟩ := own_slice ownp1_8_2_4_6
                have Bp1_8_2_4_6 := Bp1_8_2_4.grown grp1_8_2_4_6 Bp1_8_2_4.size (fun r e => by have e2 := Option.some.inj (show some vp1_8_2.heap.size = some r from e); omega)
                have Op1_8_2_4_6 := Op1_8_2_4.kept grp1_8_2_4_6 (.inr (fun e => whole_row_ne Wp1_8_2_4 (by decide) Op1_8_2_4 e))
                have Np1_8_2_4_6 := own_baseR18 ownp1_8_2_4_6 hgp1_8_2_4_6
                have Zp1_8_2_4_6 := Zp1_8_2_4.grown grp1_8_2_4_6 (fun e => whole_row_ne Zp1_8_2_4 (by decide) rp1_8_2_4_6 e.symm)
                go_simp
                clear hHeld
                refine hK.out _ _ (KS.out _ Bp1_8_2_4_6) (fun hHeld => ?_)
                clear hK K
                try simp only [Act.put, List.setIfInBounds_toArray, List.set_cons_zero, List.set_cons_succ]
                refine take_at (i := 7) (v := ?_) (some 40) rfl (by kernel_rfl) (by kernel_rfl) (by kernel_rfl) (fun _ _ _ h => h) (by kernel_rfl) (Or.inl ⟨by kernel_rfl, ?_⟩) (by assumption) ?_
                rotate_left
                · (intro w hSw; (try dsimp only at hSw); go_simp <;> with_reducible rfl)
                simp only [Act.put, List.setIfInBounds_toArray, List.set_cons_zero, List.set_cons_succ]
                refine wpAnyH_ready (rs := [9]) (by kernel_rfl) (by simp) ?_
                refine AllReadyH.cons rfl (fun K hK => ?_) AllReadyH.nil
                refine wp_store_row 62 _ _ rfl vp1.heap.size #[.int .u8 193, .int .u8 0, .slice Ab 4 cb, .slice A6 (1 + ll) c6] rfl rfl _ _ Zp1_8_2_4_6 (by kernel_rfl) rfl (by simp [Value.oneCell']) ?_
                have R9 := want18 (ll := ll) (X := X) Bp1_8_2_4_6 Bp1.size Zp1_8_2_4_6 Op1_8_2_4_6 Np1_8_2_4_6 (HCK.out w4 B4 Ab A6 cb c6)
                clear hHeld
                refine hK.out _ _ (KS.out _ R9.low) (fun hHeld => ?_)
                clear hK K
                try simp only [Act.put, List.setIfInBounds_toArray, List.set_cons_zero, List.set_cons_succ]
                refine wpAnyH_done (by kernel_rfl) ?_ _
                go_wp2_with fail
                go_meet
                exact ⟨vp1.heap.size, Ab, cb, A6, c6, rfl, Lib.hid R9⟩
              · go_simp
                have bp1_8_4 : Below vp1_8.heap.size vp1_8 (vp1_8.alloc (.cells #[hv ta, .slice A la c, .slice Ak lka k] 51)) := (Below.refl _ vp1_8).alloc (Nat.le_refl _) _
                have Wp1_8_4 := Whole.new vp1_8 51 #[hv ta, .slice A la c, .slice Ak lka k]
                have Bp1_8_4 := Bp1_8.trans (bp1_8_4.mono Bp1_8.size)
                have Lp1_8_4 := (Lp1_8.below bp1_8_4).more bp1_8_4.size
                have Zp1_8_4 := Zp1_8.below bp1_8_4 Zp1_8.lt
                generalize (vp1_8.alloc (.cells #[hv ta, .slice A la c, .slice Ak lka k] 51)) = vp1_8_4 at *
                clear hHeld
                refine hK.out _ _ (KS.out _ Bp1_8_4) (fun hHeld => ?_)
                clear hK K
                try simp only [Act.put, List.setIfInBounds_toArray, List.set_cons_zero, List.set_cons_succ]
                refine wpAnyH_ready (rs := [2]) (by kernel_rfl) (by simp) ?_
                refine AllReadyH.cons rfl (fun K hK => ?_) AllReadyH.nil
                go_simp
                (with_reducible refine (HPU.out vp1_8_4 _ Lp1_8_4).mono ?_); rintro e vp1_8_4_2 ⟨Ab, cb, rfl, op1_8_4_2, bp1_8_4_2⟩
                go_wp2_with fail
                have Bp1_8_4_2 := Bp1_8_4.trans (bp1_8_4_2.mono Bp1_8_4.size)
                have Wp1_8_4_2 := Wp1_8_4.below bp1_8_4_2 Wp1_8_4.lt
                have Zp1_8_4_2 := Zp1_8_4.below bp1_8_4_2 Zp1_8_4.lt
                have Op1_8_4_2 := own_base op1_8_4_2 Bp1_8_4.size
                clear hHeld
                refine hK.out _ _ (KS.out _ Bp1_8_4_2) (fun hHeld => ?_)
                clear hK K
                try simp only [Act.put, List.setIfInBounds_toArray, List.set_cons_zero, List.set_cons_succ]
                refine wpAnyH_ready (rs := [6]) (by kernel_rfl) (by simp) ?_
                refine AllReadyH.cons rfl (fun K hK => ?_) AllReadyH.nil
                have hgp1_8_4_2_6 : w4.heap.size ≤ vp1_8.heap.size := Bp1_8.size
                have rp1_8_4_2_6 : vp1_8_4_2.ownsRow vp1_8.heap.size 51 3 (.slice (some ⟨vp1_8.heap.size, 0, none⟩) 1 1) 1 [hv ta, .slice A la c, .slice Ak lka k] := own_whole18 Wp1_8_4_2 (Nat.le_refl _)
                have hlp1_8_4_2_6 := HL2.out
                refine wp_append_w18 (.tmp 37) (.tmp 38) 49 rfl vp1_8.heap.size 51 _ 3 56 Tryz.underlying49 ndinfo18 rfl (by omega) (.slice (some ⟨vp1_8.heap.size, 0, none⟩) 1 1) 1 _ rfl rp1_8_4_2_6 w.heap.size L ll m vs rfl HVN.out (HVS.out vp1_8_4_2 (B4.trans (Bp1_8_4_2.mono B4.size))) HON.out (by omega) (by unfold maxLen; omega) (Nat.le_of_lt Wp1_8_4_2.lt) ?_
                intro up1_8_4_2_6 vp1_8_4_2_6 ownp1_8_4_2_6 grp1_8_4_2_6
                obtain ⟨A6, c6, rfl⟩ := own_slice ownp1_8_4_2_6
                have Bp1_8_4_2_6 := Bp1_8_4_2.grown grp1_8_4_2_6 Bp1_8_4_2.size (fun r e => by have e2 := Option.some.inj (show some vp1_8.heap.size = some r from e); omega)
                have Op1_8_4_2_6 := Op1_8_4_2.kept grp1_8_4_2_6 (.inr (fun e => whole_row_ne Wp1_8_4_2 (by decide) Op1_8_4_2 e))
                have Np1_8_4_2_6 := own_baseR18 ownp1_8_4_2_6 hgp1_8_4_2_6
                have Zp1_8_4_2_6 := Zp1_8_4_2.grown grp1_8_4_2_6 (fun e => whole_row_ne Zp1_8_4_2 (by decide) rp1_8_4_2_6 e.symm)
                go_simp
                clear hHeld
                refine hK.out _ _ (KS.out _ Bp1_8_4_2_6) (fun hHeld => ?_)
                clear hK K
                try simp only [Act.put, List.setIfInBounds_toArray, List.set_cons_zero, List.set_cons_succ]
                refine take_at (i := 7) (v := ?_) (some 40) rfl (by kernel_rfl) (by kernel_rfl) (by kernel_rfl) (fun _ _ _ h => h) (by kernel_rfl) (Or.inl ⟨by kernel_rfl, ?_⟩) (by assumption) ?_
                rotate_left
                · (intro w hSw; (try dsimp only at hSw); go_simp <;> with_reducible rfl)
                simp only [Act.put, List.setIfInBounds_toArray, List.set_cons_zero, List.set_cons_succ]
                refine wpAnyH_ready (rs := [9]) (by kernel_rfl) (by simp) ?_
                refine AllReadyH.cons rfl (fun K hK => ?_) AllReadyH.nil
                refine wp_store_row 62 _ _ rfl vp1.heap.size #[.int .u8 193, .int .u8 0, .slice Ab 4 cb, .slice A6 (1 + ll) c6] rfl rfl _ _ Zp1_8_4_2_6 (by kernel_rfl) rfl (by simp [Value.oneCell']) ?_
                have R9 := want18 (ll := ll) (X := X) Bp1_8_4_2_6 Bp1.size Zp1_8_4_2_6 Op1_8_4_2_6 Np1_8_4_2_6 (HCK.out w4 B4 Ab A6 cb c6)
                clear hHeld
                refine hK.out _ _ (KS.out _ R9.low) (fun hHeld => ?_)
                clear hK K
                try simp only [Act.put, List.setIfInBounds_toArray, List.set_cons_zero, List.set_cons_succ]
                refine wpAnyH_done (by kernel_rfl) ?_ _
                go_wp2_with fail
                go_meet
                exact ⟨vp1.heap.size, Ab, cb, A6, c6, rfl, Lib.hid R9⟩
          · go_simp
            have bp4 : Below vp.heap.size vp (vp.alloc (.cells #[hv ta, .slice A la c, .slice Ak lka k] 51)) := (Below.refl _ vp).alloc (Nat.le_refl _) _
            have Wp4 := Whole.new vp 51 #[hv ta, .slice A la c, .slice Ak lka k]
            have Bp4 := Bp.trans (bp4.mono Bp.size)
            generalize (vp.alloc (.cells #[hv ta, .slice A la c, .slice Ak lka k] 51)) = vp4 at *
            clear hHeld
            refine hK.out _ _ (KS.out _ Bp4) (fun hHeld => ?_)
            clear hK K
            try simp only [Act.put, List.setIfInBounds_toArray, List.set_cons_zero, List.set_cons_succ]
            refine wpAnyH_ready (rs := [1, 8]) (by kernel_rfl) (by simp) ?_
            refine AllReadyH.cons rfl (fun K hK => ?_) (AllReadyH.cons rfl (fun K hK => ?_) AllReadyH.nil)
            · go_simp
              have bp4_1 : Below vp4.heap.size vp4 (vp4.alloc (.cells #[uv s] 22)) := (Below.refl _ vp4).alloc (Nat.le_refl _) _
              have Lp4_1 : Lies (vp4.alloc (.cells #[uv s] 22)) (vp4.alloc (.cells #[uv s] 22)).heap.size (some ⟨vp4.heap.size, 0, none⟩) [uv s] := (Lies.newN vp4 [uv s] _).more (by simp)
              have Bp4_1 := Bp4.trans (bp4_1.mono Bp4.size)
              have Wp4_1 := Wp4.below bp4_1 Wp4.lt
              generalize (vp4.alloc (.cells #[uv s] 22)) = vp4_1 at *
              clear hHeld
              refine hK.out _ _ (KS.out _ Bp4_1) (fun hHeld => ?_)
              clear hK K
              try simp only [Act.put, List.setIfInBounds_toArray, List.set_cons_zero, List.set_cons_succ]
              refine wpAnyH_ready (rs := [2, 8]) (by kernel_rfl) (by simp) ?_
              refine AllReadyH.cons rfl (fun K hK => ?_) (AllReadyH.cons rfl (fun K hK => ?_) AllReadyH.nil)
              · go_simp
                (with_reducible refine (HPU.out vp4_1 _ Lp4_1).mono ?_); rintro e vp4_1_2 ⟨Ab, cb, rfl, op4_1_2, bp4_1_2⟩
                go_wp2_with fail
                have Bp4_1_2 := Bp4_1.trans (bp4_1_2.mono Bp4_1.size)
                have Wp4_1_2 := Wp4_1.below bp4_1_2 Wp4_1.lt
                have Op4_1_2 := own_base op4_1_2 Bp4_1.size
                clear hHeld
                refine hK.out _ _ (KS.out _ Bp4_1_2) (fun hHeld => ?_)
                clear hK K
                try simp only [Act.put, List.setIfInBounds_toArray, List.set_cons_zero, List.set_cons_succ]
                refine wpAnyH_ready (rs := [6, 8]) (by kernel_rfl) (by simp) ?_
                refine AllReadyH.cons rfl (fun K hK => ?_) (AllReadyH.cons rfl (fun K hK => ?_) AllReadyH.nil)
                · have hgp4_1_2_6 : w4.heap.size ≤ vp.heap.size := Bp.size
                  have rp4_1_2_6 : vp4_1_2.ownsRow vp.heap.size 51 3 (.slice (some ⟨vp.heap.size, 0, none⟩) 1 1) 1 [hv ta, .slice A la c, .slice Ak lka k] := own_whole18 Wp4_1_2 (Nat.le_refl _)
                  have hlp4_1_2_6 := HL2.out
                  refine wp_append_w18 (.tmp 37) (.tmp 38) 49 rfl vp.heap.size 51 _ 3 56 Tryz.underlying49 ndinfo18 rfl (by omega) (.slice (some ⟨vp.heap.size, 0, none⟩) 1 1) 1 _ rfl rp4_1_2_6 w.heap.size L ll m vs rfl HVN.out (HVS.out vp4_1_2 (B4.trans (Bp4_1_2.mono B4.size))) HON.out (by omega) (by unfold maxLen; omega) (Nat.le_of_lt Wp4_1_2.lt) ?_
                  intro up4_1_2_6 vp4_1_2_6 ownp4_1_2_6 grp4_1_2_6
                  obtain ⟨A6, c6, rfl⟩ := own_slice ownp4_1_2_6
                  have Bp4_1_2_6 := Bp4_1_2.grown grp4_1_2_6 Bp4_1_2.size (fun r e => by have e2 := Option.some.inj (show some vp.heap.size = some r from e); omega)
                  have Op4_1_2_6 := Op4_1_2.kept grp4_1_2_6 (.inr (fun e => whole_row_ne Wp4_1_2 (by decide) Op4_1_2 e))
                  have Np4_1_2_6 := own_baseR18 ownp4_1_2_6 hgp4_1_2_6
                  go_simp
                  clear hHeld
                  refine hK.out _ _ (KS.out _ Bp4_1_2_6) (fun hHeld => ?_)
                  clear hK K
                  try simp only [Act.put, List.setIfInBounds_toArray, List.set_cons_zero, List.set_cons_succ]
                  refine take_at (i := 7) (v := ?_) (some 40) rfl (by kernel_rfl) (by kernel_rfl) (by kernel_rfl) (fun _ _ _ h => h) (by kernel_rfl) (Or.inl ⟨by kernel_rfl, ?_⟩) (by assumption) ?_
                  rotate_left
                  · (intro w hSw; (try dsimp only at hSw); go_simp <;> with_reducible rfl)
                  simp only [Act.put, List.setIfInBounds_toArray, List.set_cons_zero, List.set_cons_succ]
                  refine wpAnyH_ready (rs := [8]) (by kernel_rfl) (by simp) ?_
                  refine AllReadyH.cons rfl (fun K hK => ?_) AllReadyH.nil
                  go_simp
                  have bp4_1_2_6_8 : Below vp4_1_2_6.heap.size vp4_1_2_6 (vp4_1_2_6.alloc (.cells #[.int .u8 0, .int .u8 0, .slice none 0 0, .slice none 0 0] 62)) := (Below.refl _ vp4_1_2_6).alloc (Nat.le_refl _) _
                  have Zp4_1_2_6_8 := Whole.new vp4_1_2_6 62 #[.int .u8 0, .int .u8 0, .slice none 0 0, .slice none 0 0]
                  have Bp4_1_2_6_8 := Bp4_1_2_6.trans (bp4_1_2_6_8.mono Bp4_1_2_6.size)
                  have Op4_1_2_6_8 := own_belowW18 Op4_1_2_6 bp4_1_2_6_8
                  have Np4_1_2_6_8 := own_belowW18 Np4_1_2_6 bp4_1_2_6_8
                  generalize (vp4_1_2_6.alloc (.cells #[.int .u8 0, .int .u8 0, .slice none 0 0, .slice none 0 0] 62)) = vp4_1_2_6_8 at *
                  clear hHeld
                  refine hK.out _ _ (KS.out _ Bp4_1_2_6_8) (fun hHeld => ?_)
                  clear hK K
                  try simp only [Act.put, List.setIfInBounds_toArray, List.set_cons_zero, List.set_cons_succ]
                  refine wpAnyH_ready (rs := [9]) (by kernel_rfl) (by simp) ?_
                  refine AllReadyH.cons rfl (fun K hK => ?_) AllReadyH.nil
                  refine wp_store_row 62 _ _ rfl vp4_1_2_6.heap.size #[.int .u8 193, .int .u8 0, .slice Ab 4 cb, .slice A6 (1 + ll) c6] rfl rfl _ _ Zp4_1_2_6_8 (by kernel_rfl) rfl (by simp [Value.oneCell']) ?_
                  have R9 := want18 (ll := ll) (X := X) Bp4_1_2_6_8 Bp4_1_2_6.size Zp4_1_2_6_8 Op4_1_2_6_8 Np4_1_2_6_8 (HCK.out w4 B4 Ab A6 cb c6)
                  clear hHeld
                  refine hK.out _ _ (KS.out _ R9.low) (fun hHeld => ?_)
                  clear hK K
                  try simp only [Act.put, List.setIfInBounds_toArray, List.set_cons_zero, List.set_cons_succ]
                  refine wpAnyH_done (by kernel_rfl) ?_ _
                  go_wp2_with fail
                  go_meet
                  exact ⟨vp4_1_2_6.heap.size, Ab, cb, A6, c6, rfl, Lib.hid R9⟩
                · go_simp
                  have bp4_1_2_8 : Below vp4_1_2.heap.size vp4_1_2 (vp4_1_2.alloc (.cells #[.int .u8 0, .int .u8 0, .slice none 0 0, .slice none 0 0] 62)) := (Below.refl _ vp4_1_2).alloc (Nat.le_refl _) _
                  have Zp4_1_2_8 := Whole.new vp4_1_2 62 #[.int .u8 0, .int .u8 0, .slice none 0 0, .slice none 0 0]
                  have Bp4_1_2_8 := Bp4_1_2.trans (bp4_1_2_8.mono Bp4_1_2.size)
                  have Op4_1_2_8 := own_belowW18 Op4_1_2 bp4_1_2_8
                  have Wp4_1_2_8 := Wp4_1_2.below bp4_1_2_8 Wp4_1_2.lt
                  generalize (vp4_1_2.alloc (.cells #[.int .u8 0, .int .u8 0, .slice none 0 0, .slice none 0 0] 62)) = vp4_1_2_8 at *
                  clear hHeld
                  refine hK.out _ _ (KS.out _ Bp4_1_2_8) (fun hHeld => ?_)
                  clear hK K
                  try simp only [Act.put, List.setIfInBounds_toArray, List.set_cons_zero, List.set_cons_succ]
                  refine wpAnyH_ready (rs := [6]) (by kernel_rfl) (by simp) ?_
                  refine AllReadyH.cons rfl (fun K hK => ?_) AllReadyH.nil
                  have hgp4_1_2_8_6 : w4.heap.size ≤ vp.heap.size := Bp.size
                  have rp4_1_2_8_6 : vp4_1_2_8.ownsRow vp.heap.size 51 3 (.slice (some ⟨vp.heap.size, 0, none⟩) 1 1) 1 [hv ta, .slice A la c, .slice Ak lka k] := own_whole18 Wp4_1_2_8 (Nat.le_refl _)
                  have hlp4_1_2_8_6 := HL2.out
                  refine wp_append_w18 (.tmp 37) (.tmp 38) 49 rfl vp.heap.size 51 _ 3 56 Tryz.underlying49 ndinfo18 rfl (by omega) (.slice (some ⟨vp.heap.size, 0, none⟩) 1 1) 1 _ rfl rp4_1_2_8_6 w.heap.size L ll m vs rfl HVN.out (HVS.out vp4_1_2_8 (B4.trans (Bp4_1_2_8.mono B4.size))) HON.out (by omega) (by unfold maxLen; omega) (Nat.le_of_lt Wp4_1_2_8.lt) ?_
                  intro up4_1_2_8_6 vp4_1_2_8_6 ownp4_1_2_8_6 grp4_1_2_8_6
                  obtain ⟨A6, c6, rfl⟩ := own_slice ownp4_1_2_8_6
                  have Bp4_1_2_8_6 := Bp4_1_2_8.grown grp4_1_2_8_6 Bp4_1_2_8.size (fun r e => by have e2 := Option.some.inj (show some vp.heap.size = some r from e); omega)
                  have Op4_1_2_8_6 := Op4_1_2_8.kept grp4_1_2_8_6 (.inr (fun e => whole_row_ne Wp4_1_2_8 (by decide) Op4_1_2_8 e))
                  have Np4_1_2_8_6 := own_baseR18 ownp4_1_2_8_6 hgp4_1_2_8_6
                  have Zp4_1_2_8_6 := Zp4_1_2_8.grown grp4_1_2_8_6 (fun e => whole_row_ne Zp4_1_2_8 (by decide) rp4_1_2_8_6 e.symm)
                  go_simp
                  clear hHeld
                  refine hK.out _ _ (KS.out _ Bp4_1_2_8_6) (fun hHeld => ?_)
                  clear hK K
                  try simp only [Act.put, List.setIfInBounds_toArray, List.set_cons_zero, List.set_cons_succ]
                  refine take_at (i := 7) (v := ?_) (some 40) rfl (by kernel_rfl) (by kernel_rfl) (by kernel_rfl) (fun _ _ _ h => h) (by kernel_rfl) (Or.inl ⟨by kernel_rfl, ?_⟩) (by assumption) ?_
                  rotate_left
                  · (intro w hSw; (try dsimp only at hSw); go_simp <;> with_reducible rfl)
                  simp only [Act.put, List.setIfInBounds_toArray, List.set_cons_zero, List.set_cons_succ]
                  refine wpAnyH_ready (rs := [9]) (by kernel_rfl) (by simp) ?_
                  refine AllReadyH.cons rfl (fun K hK => ?_) AllReadyH.nil
                  refine wp_store_row 62 _ _ rfl vp4_1_2.heap.size #[.int .u8 193, .int .u8 0, .slice Ab 4 cb, .slice A6 (1 + ll) c6] rfl rfl _ _ Zp4_1_2_8_6 (by kernel_rfl) rfl (by simp [Value.oneCell']) ?_
                  have R9 := want18 (ll := ll) (X := X) Bp4_1_2_8_6 Bp4_1_2.size Zp4_1_2_8_6 Op4_1_2_8_6 Np4_1_2_8_6 (HCK.out w4 B4 Ab A6 cb c6)
                  clear hHeld
                  refine hK.out _ _ (KS.out _ R9.low) (fun hHeld => ?_)
                  clear hK K
                  try simp only [Act.put, List.setIfInBounds_toArray, List.set_cons_zero, List.set_cons_succ]
                  refine wpAnyH_done (by kernel_rfl) ?_ _
                  go_wp2_with fail
                  go_meet
                  exact ⟨vp4_1_2.heap.size, Ab, cb, A6, c6, rfl, Lib.hid R9⟩
              · go_simp
                have bp4_1_8 : Below vp4_1.heap.size vp4_1 (vp4_1.alloc (.cells #[.int .u8 0, .int .u8 0, .slice none 0 0, .slice none 0 0] 62)) := (Below.refl _ vp4_1).alloc (Nat.le_refl _) _
                have Zp4_1_8 := Whole.new vp4_1 62 #[.int .u8 0, .int .u8 0, .slice none 0 0, .slice none 0 0]
                have Bp4_1_8 := Bp4_1.trans (bp4_1_8.mono Bp4_1.size)
                have Lp4_1_8 := (Lp4_1.below bp4_1_8).more bp4_1_8.size
                have Wp4_1_8 := Wp4_1.below bp4_1_8 Wp4_1.lt
                generalize (vp4_1.alloc (.cells #[.int .u8 0, .int .u8 0, .slice none 0 0, .slice none 0 0] 62)) = vp4_1_8 at *
                clear hHeld
                refine hK.out _ _ (KS.out _ Bp4_1_8) (fun hHeld => ?_)
                clear hK K
                try simp only [Act.put, List.setIfInBounds_toArray, List.set_cons_zero, List.set_cons_succ]
                refine wpAnyH_ready (rs := [2]) (by kernel_rfl) (by simp) ?_
                refine AllReadyH.cons rfl (fun K hK => ?_) AllReadyH.nil
                go_simp
                (with_reducible refine (HPU.out vp4_1_8 _ Lp4_1_8).mono ?_); rintro e vp4_1_8_2 ⟨Ab, cb, rfl, op4_1_8_2, bp4_1_8_2⟩
                go_wp2_with fail
                have Bp4_1_8_2 := Bp4_1_8.trans (bp4_1_8_2.mono Bp4_1_8.size)
                have Wp4_1_8_2 := Wp4_1_8.below bp4_1_8_2 Wp4_1_8.lt
                have Zp4_1_8_2 := Zp4_1_8.below bp4_1_8_2 Zp4_1_8.lt
                have Op4_1_8_2 := own_base op4_1_8_2 Bp4_1_8.size
                clear hHeld
                refine hK.out _ _ (KS.out _ Bp4_1_8_2) (fun hHeld => ?_)
                clear hK K
                try simp only [Act.put, List.setIfInBounds_toArray, List.set_cons_zero, List.set_cons_succ]
                refine wpAnyH_ready (rs := [6]) (by kernel_rfl) (by simp) ?_
                refine AllReadyH.cons rfl (fun K hK => ?_) AllReadyH.nil
                have hgp4_1_8_2_6 : w4.heap.size ≤ vp.heap.size := Bp.size
                have rp4_1_8_2_6 : vp4_1_8_2.ownsRow vp.heap.size 51 3 (.slice (some ⟨vp.heap.size, 0, none⟩) 1 1) 1 [hv ta, .slice A la c, .slice Ak lka k] := own_whole18 Wp4_1_8_2 (Nat.le_refl _)
                have hlp4_1_8_2_6 := HL2.out
                refine wp_append_w18 (.tmp 37) (.tmp 38) 49 rfl vp.heap.size 51 _ 3 56 Tryz.underlying49 ndinfo18 rfl (by omega) (.slice (some ⟨vp.heap.size, 0, none⟩) 1 1) 1 _ rfl rp4_1_8_2_6 w.heap.size L ll m vs rfl HVN.out (HVS.out vp4_1_8_2 (B4.trans (Bp4_1_8_2.mono B4.size))) HON.out (by omega) (by unfold maxLen; omega) (Nat.le_of_lt Wp4_1_8_2.lt) ?_
                intro up4_1_8_2_6 vp4_1_8_2_6 ownp4_1_8_2_6 grp4_1_8_2_6
                obtain ⟨A6, c6, rfl⟩ := own_slice ownp4_1_8_2_6
                have Bp4_1_8_2_6 := Bp4_1_8_2.grown grp4_1_8_2_6 Bp4_1_8_2.size (fun r e => by have e2 := Option.some.inj (show some vp.heap.size = some r from e); omega)
                have Op4_1_8_2_6 := Op4_1_8_2.kept grp4_1_8_2_6 (.inr (fun e => whole_row_ne Wp4_1_8_2 (by decide) Op4_1_8_2 e))
                have Np4_1_8_2_6 := own_baseR18 ownp4_1_8_2_6 hgp4_1_8_2_6
                have Zp4_1_8_2_6 := Zp4_1_8_2.grown grp4_1_8_2_6 (fun e => whole_row_ne Zp4_1_8_2 (by decide) rp4_1_8_2_6 e.symm)
                go_simp
                clear hHeld
                refine hK.out _ _ (KS.out _ Bp4_1_8_2_6) (fun hHeld => ?_)
                clear hK K
                try simp only [Act.put, List.setIfInBounds_toArray, List.set_cons_zero, List.set_cons_succ]
                refine take_at (i := 7) (v := ?_) (some 40) rfl (by kernel_rfl) (by kernel_rfl) (by kernel_rfl) (fun _ _ _ h => h) (by kernel_rfl) (Or.inl ⟨by kernel_rfl, ?_⟩) (by assumption) ?_
                rotate_left
                · (intro w hSw; (try dsimp only at hSw); go_simp <;> with_reducible rfl)
                simp only [Act.put, List.setIfInBounds_toArray, List.set_cons_zero, List.set_cons_succ]
                refine wpAnyH_ready (rs := [9]) (by kernel_rfl) (by simp) ?_
                refine AllReadyH.cons rfl (fun K hK => ?_) AllReadyH.nil
                refine wp_store_row 62 _ _ rfl vp4_1.heap.size #[.int .u8 193, .int .u8 0, .slice Ab 4 cb, .slice A6 (1 + ll) c6] rfl rfl _ _ Zp4_1_8_2_6 (by kernel_rfl) rfl (by simp [Value.oneCell']) ?_
                have R9 := want18 (ll := ll) (X := X) Bp4_1_8_2_6 Bp4_1.size Zp4_1_8_2_6 Op4_1_8_2_6 Np4_1_8_2_6 (HCK.out w4 B4 Ab A6 cb c6)
                clear hHeld
                refine hK.out _ _ (KS.out _ R9.low) (fun hHeld => ?_)
                clear hK K
                try simp only [Act.put, List.setIfInBounds_toArray, List.set_cons_zero, List.set_cons_succ]
                refine wpAnyH_done (by kernel_rfl) ?_ _
                go_wp2_with fail
                go_meet
                exact ⟨vp4_1.heap.size, Ab, cb, A6, c6, rfl, Lib.hid R9⟩
            · go_simp
              have bp4_8 : Below vp4.heap.size vp4 (vp4.alloc (.cells #[.int .u8 0, .int .u8 0, .slice none 0 0, .slice none 0 0] 62)) := (Below.refl _ vp4).alloc (Nat.le_refl _) _
              have Zp4_8 := Whole.new vp4 62 #[.int .u8 0, .int .u8 0, .slice none 0 0, .slice none 0 0]
              have Bp4_8 := Bp4.trans (bp4_8.mono Bp4.size)
              have Wp4_8 := Wp4.below bp4_8 Wp4.lt
              generalize (vp4.alloc (.cells #[.int .u8 0, .int .u8 0, .slice none 0 0, .slice none 0 0] 62)) = vp4_8 at *
              clear hHeld
              refine hK.out _ _ (KS.out _ Bp4_8) (fun hHeld => ?_)
              clear hK K
              try simp only [Act.put, List.setIfInBounds_toArray, List.set_cons_zero, List.set_cons_succ]
              refine wpAnyH_ready (rs := [1]) (by kernel_rfl) (by simp) ?_
              refine AllReadyH.cons rfl (fun K hK => ?_) AllReadyH.nil
              go_simp
              have bp4_8_1 : Below vp4_8.heap.size vp4_8 (vp4_8.alloc (.cells #[uv s] 22)) := (Below.refl _ vp4_8).alloc (Nat.le_refl _) _
              have Lp4_8_1 : Lies (vp4_8.alloc (.cells #[uv s] 22)) (vp4_8.alloc (.cells #[uv s] 22)).heap.size (some ⟨vp4_8.heap.size, 0, none⟩) [uv s] := (Lies.newN vp4_8 [uv s] _).more (by simp)
              have Bp4_8_1 := Bp4_8.trans (bp4_8_1.mono Bp4_8.size)
              have Wp4_8_1 := Wp4_8.below bp4_8_1 Wp4_8.lt
              have Zp4_8_1 := Zp4_8.below bp4_8_1 Zp4_8.lt
              generalize (vp4_8.alloc (.cells #[uv s] 22)) = vp4_8_1 at *
              clear hHeld
              refine hK.out _ _ (KS.out _ Bp4_8_1) (fun hHeld => ?_)
              clear hK K
              try simp only [Act.put, List.setIfInBounds_toArray, List.set_cons_zero, List.set_cons_succ]
              refine wpAnyH_ready (rs := [2]) (by kernel_rfl) (by simp) ?_
              refine AllReadyH.cons rfl (fun K hK => ?_) AllReadyH.nil
              go_simp
              (with_reducible refine (HPU.out vp4_8_1 _ Lp4_8_1).mono ?_); rintro e vp4_8_1_2 ⟨Ab, cb, rfl, op4_8_1_2, bp4_8_1_2⟩
              go_wp2_with fail
              have Bp4_8_1_2 := Bp4_8_1.trans (bp4_8_1_2.mono Bp4_8_1.size)
              have Wp4_8_1_2 := Wp4_8_1.below bp4_8_1_2 Wp4_8_1.lt
              have Zp4_8_1_2 := Zp4_8_1.below bp4_8_1_2 Zp4_8_1.lt
              have Op4_8_1_2 := own_base op4_8_1_2 Bp4_8_1.size
              clear hHeld
              refine hK.out _ _ (KS.out _ Bp4_8_1_2) (fun hHeld => ?_)
              clear hK K
              try simp only [Act.put, List.setIfInBounds_toArray, List.set_cons_zero, List.set_cons_succ]
              refine wpAnyH_ready (rs := [6]) (by kernel_rfl) (by simp) ?_
              refine AllReadyH.cons rfl (fun K hK => ?_) AllReadyH.nil
              have hgp4_8_1_2_6 : w4.heap.size ≤ vp.heap.size := Bp.size
              have rp4_8_1_2_6 : vp4_8_1_2.ownsRow vp.heap.size 51 3 (.slice (some ⟨vp.heap.size, 0, none⟩) 1 1) 1 [hv ta, .slice A la c, .slice Ak lka k] := own_whole18 Wp4_8_1_2 (Nat.le_refl _)
              have hlp4_8_1_2_6 := HL2.out
              refine wp_append_w18 (.tmp 37) (.tmp 38) 49 rfl vp.heap.size 51 _ 3 56 Tryz.underlying49 ndinfo18 rfl (by omega) (.slice (some ⟨vp.heap.size, 0, none⟩) 1 1) 1 _ rfl rp4_8_1_2_6 w.heap.size L ll m vs rfl HVN.out (HVS.out vp4_8_1_2 (B4.trans (Bp4_8_1_2.mono B4.size))) HON.out (by omega) (by unfold maxLen; omega) (Nat.le_of_lt Wp4_8_1_2.lt) ?_
              intro up4_8_1_2_6 vp4_8_1_2_6 ownp4_8_1_2_6 grp4_8_1_2_6
              obtain ⟨A6, c6, rfl⟩ := own_slice ownp4_8_1_2_6
              have Bp4_8_1_2_6 := Bp4_8_1_2.grown grp4_8_1_2_6 Bp4_8_1_2.size (fun r e => by have e2 := Option.some.inj (show some vp.heap.size = some r from e); omega)
              have Op4_8_1_2_6 := Op4_8_1_2.kept grp4_8_1_2_6 (.inr (fun e => whole_row_ne Wp4_8_1_2 (by decide) Op4_8_1_2 e))
              have Np4_8_1_2_6 := own_baseR18 ownp4_8_1_2_6 hgp4_8_1_2_6
              have Zp4_8_1_2_6 := Zp4_8_1_2.grown grp4_8_1_2_6 (fun e => whole_row_ne Zp4_8_1_2 (by decide) rp4_8_1_2_6 e.symm)
              go_simp
              clear hHeld
              refine hK.out _ _ (KS.out _ Bp4_8_1_2_6) (fun hHeld => ?_)
              clear hK K
              try simp only [Act.put, List.setIfInBounds_toArray, List.set_cons_zero, List.set_cons_succ]
              refine take_at (i := 7) (v := ?_) (some 40) rfl (by kernel_rfl) (by kernel_rfl) (by kernel_rfl) (fun _ _ _ h => h) (by kernel_rfl) (Or.inl ⟨by kernel_rfl, ?_⟩) (by assumption) ?_
              rotate_left
              · (intro w hSw; (try dsimp only at hSw); go_simp <;> with_reducible rfl)
              simp only [Act.put, List.setIfInBounds_toArray, List.set_cons_zero, List.set_cons_succ]
              refine wpAnyH_ready (rs := [9]) (by kernel_rfl) (by simp) ?_
              refine AllReadyH.cons rfl (fun K hK => ?_) AllReadyH.nil
              refine wp_store_row 62 _ _ rfl vp4.heap.size #[.int .u8 193, .int .u8 0, .slice Ab 4 cb, .slice A6 (1 + ll) c6] rfl rfl _ _ Zp4_8_1_2_6 (by kernel_rfl) rfl (by simp [Value.oneCell']) ?_
              have R9 := want18 (ll := ll) (X := X) Bp4_8_1_2_6 Bp4.size Zp4_8_1_2_6 Op4_8_1_2_6 Np4_8_1_2_6 (HCK.out w4 B4 Ab A6 cb c6)
              clear hHeld
              refine hK.out _ _ (KS.out _ R9.low) (fun hHeld => ?_)
              clear hK K
              try simp only [Act.put, List.setIfInBounds_toArray, List.set_cons_zero, List.set_cons_succ]
              refine wpAnyH_done (by kernel_rfl) ?_ _
              go_wp2_with fail
              go_meet
              exact ⟨vp4.heap.size, Ab, cb, A6, c6, rfl, Lib.hid R9⟩
          · go_simp
            have bp8 : Below vp.heap.size vp (vp.alloc (.cells #[.int .u8 0, .int .u8 0, .slice none 0 0, .slice none 0 0] 62)) := (Below.refl _ vp).alloc (Nat.le_refl _) _
            have Zp8 := Whole.new vp 62 #[.int .u8 0, .int .u8 0, .slice none 0 0, .slice none 0 0]
            have Bp8 := Bp.trans (bp8.mono Bp.size)
            generalize (vp.alloc (.cells #[.int .u8 0, .int .u8 0, .slice none 0 0, .slice none 0 0] 62)) = vp8 at *
            clear hHeld
            refine hK.out _ _ (KS.out _ Bp8) (fun hHeld => ?_)
            clear hK K
            try simp only [Act.put, List.setIfInBounds_toArray, List.set_cons_zero, List.set_cons_succ]
            refine wpAnyH_ready (rs := [1, 4]) (by kernel_rfl) (by simp) ?_
            refine AllReadyH.cons rfl (fun K hK => ?_) (AllReadyH.cons rfl (fun K hK => ?_) AllReadyH.nil)
            · go_simp
              have bp8_1 : Below vp8.heap.size vp8 (vp8.alloc (.cells #[uv s] 22)) := (Below.refl _ vp8).alloc (Nat.le_refl _) _
              have Lp8_1 : Lies (vp8.alloc (.cells #[uv s] 22)) (vp8.alloc (.cells #[uv s] 22)).heap.size (some ⟨vp8.heap.size, 0, none⟩) [uv s] := (Lies.newN vp8 [uv s] _).more (by simp)
              have Bp8_1 := Bp8.trans (bp8_1.mono Bp8.size)
              have Zp8_1 := Zp8.below bp8_1 Zp8.lt
              generalize (vp8.alloc (.cells #[uv s] 22)) = vp8_1 at *
              clear hHeld
              refine hK.out _ _ (KS.out _ Bp8_1) (fun hHeld => ?_)
              clear hK K
              try simp only [Act.put, List.setIfInBounds_toArray, List.set_cons_zero, List.set_cons_succ]
              refine wpAnyH_ready (rs := [2, 4]) (by kernel_rfl) (by simp) ?_
              refine AllReadyH.cons rfl (fun K hK => ?_) (AllReadyH.cons rfl (fun K hK => ?_) AllReadyH.nil)
              · go_simp
                (with_reducible refine (HPU.out vp8_1 _ Lp8_1).mono ?_); rintro e vp8_1_2 ⟨Ab, cb, rfl, op8_1_2, bp8_1_2⟩
                go_wp2_with fail
                have Bp8_1_2 := Bp8_1.trans (bp8_1_2.mono Bp8_1.size)
                have Zp8_1_2 := Zp8_1.below bp8_1_2 Zp8_1.lt
                have Op8_1_2 := own_base op8_1_2 Bp8_1.size
                clear hHeld
                refine hK.out _ _ (KS.out _ Bp8_1_2) (fun hHeld => ?_)
                clear hK K
                try simp only [Act.put, List.setIfInBounds_toArray, List.set_cons_zero, List.set_cons_succ]
                refine wpAnyH_ready (rs := [4]) (by kernel_rfl) (by simp) ?_
                refine AllReadyH.cons rfl (fun K hK => ?_) AllReadyH.nil
                go_simp
                have bp8_1_2_4 : Below vp8_1_2.heap.size vp8_1_2 (vp8_1_2.alloc (.cells #[hv ta, .slice A la c, .slice Ak lka k] 51)) := (Below.refl _ vp8_1_2).alloc (Nat.le_refl _) _
                have Wp8_1_2_4 := Whole.new vp8_1_2 51 #[hv ta, .slice A la c, .slice Ak lka k]
                have Bp8_1_2_4 := Bp8_1_2.trans (bp8_1_2_4.mono Bp8_1_2.size)
                have Op8_1_2_4 := own_belowW18 Op8_1_2 bp8_1_2_4
                have Zp8_1_2_4 := Zp8_1_2.below bp8_1_2_4 Zp8_1_2.lt
                generalize (vp8_1_2.alloc (.cells #[hv ta, .slice A la c, .slice Ak lka k] 51)) = vp8_1_2_4 at *
                clear hHeld
                refine hK.out _ _ (KS.out _ Bp8_1_2_4) (fun hHeld => ?_)
                clear hK K
                try simp only [Act.put, List.setIfInBounds_toArray, List.set_cons_zero, List.set_cons_succ]
                refine wpAnyH_ready (rs := [6]) (by kernel_rfl) (by simp) ?_
                refine AllReadyH.cons rfl (fun K hK => ?_) AllReadyH.nil
                have hgp8_1_2_4_6 : w4.heap.size ≤ vp8_1_2.heap.size := Bp8_1_2.size
                have rp8_1_2_4_6 : vp8_1_2_4.ownsRow vp8_1_2.heap.size 51 3 (.slice (some ⟨vp8_1_2.heap.size, 0, none⟩) 1 1) 1 [hv ta, .slice A la c, .slice Ak lka k] := own_whole18 Wp8_1_2_4 (Nat.le_refl _)
                have hlp8_1_2_4_6 := HL2.out
                refine wp_append_w18 (.tmp 37) (.tmp 38) 49 rfl vp8_1_2.heap.size 51 _ 3 56 Tryz.underlying49 ndinfo18 rfl (by omega) (.slice (some ⟨vp8_1_2.heap.size, 0, none⟩) 1 1) 1 _ rfl rp8_1_2_4_6 w.heap.size L ll m vs rfl HVN.out (HVS.out vp8_1_2_4 (B4.trans (Bp8_1_2_4.mono B4.size))) HON.out (by omega) (by unfold maxLen; omega) (Nat.le_of_lt Wp8_1_2_4.lt) ?_
                intro up8_1_2_4_6 vp8_1_2_4_6 ownp8_1_2_4_6 grp8_1_2_4_6
                obtain ⟨A6, c6, rfl⟩ := own_slice ownp8_1_2_4_6
                have Bp8_1_2_4_6 := Bp8_1_2_4.grown grp8_1_2_4_6 Bp8_1_2_4.size (fun r e => by have e2 := Option.some.inj (show some vp8_1_2.heap.size = some r from e); omega)
                have Op8_1_2_4_6 := Op8_1_2_4.kept grp8_1_2_4_6 (.inr (fun e => whole_row_ne Wp8_1_2_4 (by decide) Op8_1_2_4 e))
                have Np8_1_2_4_6 := own_baseR18 ownp8_1_2_4_6 hgp8_1_2_4_6
                have Zp8_1_2_4_6 := Zp8_1_2_4.grown grp8_1_2_4_6 (fun e => whole_row_ne Zp8_1_2_4 (by decide) rp8_1_2_4_6 e.symm)
                go_simp
                clear hHeld
                refine hK.out _ _ (KS.out _ Bp8_1_2_4_6) (fun hHeld => ?_)
                clear hK K
                try simp only [Act.put, List.setIfInBounds_toArray, List.set_cons_zero, List.set_cons_succ]
                refine take_at (i := 7) (v := ?_) (some 40) rfl (by kernel_rfl) (by kernel_rfl) (by kernel_rfl) (fun _ _ _ h => h) (by kernel_rfl) (Or.inl ⟨by kernel_rfl, ?_⟩) (by assumption) ?_
                rotate_left
                · (intro w hSw; (try dsimp only at hSw); go_simp <;> with_reducible rfl)
                simp only [Act.put, List.setIfInBounds_toArray, List.set_cons_zero, List.set_cons_succ]
                refine wpAnyH_ready (rs := [9]) (by kernel_rfl) (by simp) ?_
                refine AllReadyH.cons rfl (fun K hK => ?_) AllReadyH.nil
                refine wp_store_row 62 _ _ rfl vp.heap.size #[.int .u8 193, .int .u8 0, .slice Ab 4 cb, .slice A6 (1 + ll) c6] rfl rfl _ _ Zp8_1_2_4_6 (by kernel_rfl) rfl (by simp [Value.oneCell']) ?_
                have R9 := want18 (ll := ll) (X := X) Bp8_1_2_4_6 Bp.size Zp8_1_2_4_6 Op8_1_2_4_6 Np8_1_2_4_6 (HCK.out w4 B4 Ab A6 cb c6)
                clear hHeld
                refine hK.out _ _ (KS.out _ R9.low) (fun hHeld => ?_)
                clear hK K
                try simp only [Act.put, List.setIfInBounds_toArray, List.set_cons_zero, List.set_cons_succ]
                refine wpAnyH_done (by kernel_rfl) ?_ _
                go_wp2_with fail
                go_meet
                exact ⟨vp.heap.size, Ab, cb, A6, c6, rfl, Lib.hid R9⟩
              · go_simp
                have bp8_1_4 : Below vp8_1.heap.size vp8_1 (vp8_1.alloc (.cells #[hv ta, .slice A la c, .slice Ak lka k] 51)) := (Below.refl _ vp8_1).alloc (Nat.le_refl _) _
                have Wp8_1_4 := Whole.new vp8_1 51 #[hv ta, .slice A la c, .slice Ak lka k]
                have Bp8_1_4 := Bp8_1.trans (bp8_1_4.mono Bp8_1.size)
                have Lp8_1_4 := (Lp8_1.below bp8_1_4).more bp8_1_4.size
                have Zp8_1_4 := Zp8_1.below bp8_1_4 Zp8_1.lt
                generalize (vp8_1.alloc (.cells #[hv ta, .slice A la c, .slice Ak lka k] 51)) = vp8_1_4 at *
                clear hHeld
                refine hK.out _ _ (KS.out _ Bp8_1_4) (fun hHeld => ?_)
                clear hK K
                try simp only [Act.put, List.setIfInBounds_toArray, List.set_cons_zero, List.set_cons_succ]
                refine wpAnyH_ready (rs := [2]) (by kernel_rfl) (by simp) ?_
                refine AllReadyH.cons rfl (fun K hK => ?_) AllReadyH.nil
                go_simp
                (with_reducible refine (HPU.out vp8_1_4 _ Lp8_1_4).mono ?_); rintro e vp8_1_4_2 ⟨Ab, cb, rfl, op8_1_4_2, bp8_1_4_2⟩
                go_wp2_with fail
                have Bp8_1_4_2 := Bp8_1_4.trans (bp8_1_4_2.mono Bp8_1_4.size)
                have Wp8_1_4_2 := Wp8_1_4.below bp8_1_4_2 Wp8_1_4.lt
                have Zp8_1_4_2 := Zp8_1_4.below bp8_1_4_2 Zp8_1_4.lt
                have Op8_1_4_2 := own_base op8_1_4_2 Bp8_1_4.size
                clear hHeld
                refine hK.out _ _ (KS.out _ Bp8_1_4_2) (fun hHeld => ?_)
                clear hK K
                try simp only [Act.put, List.setIfInBounds_toArray, List.set_cons_zero, List.set_cons_succ]
                refine wpAnyH_ready (rs := [6]) (by kernel_rfl) (by simp) ?_
                refine AllReadyH.cons rfl (fun K hK => ?_) AllReadyH.nil
                have hgp8_1_4_2_6 : w4.heap.size ≤ vp8_1.heap.size := Bp8_1.size
                have rp8_1_4_2_6 : vp8_1_4_2.ownsRow vp8_1.heap.size 51 3 (.slice (some ⟨vp8_1.heap.size, 0, none⟩) 1 1) 1 [hv ta, .slice A la c, .slice Ak lka k] := own_whole18 Wp8_1_4_2 (Nat.le_refl _)
                have hlp8_1_4_2_6 := HL2.out
                refine wp_append_w18 (.tmp 37) (.tmp 38) 49 rfl vp8_1.heap.size 51 _ 3 56 Tryz.underlying49 ndinfo18 rfl (by omega) (.slice (some ⟨vp8_1.heap.size, 0, none⟩) 1 1) 1 _ rfl rp8_1_4_2_6 w.heap.size L ll m vs rfl HVN.out (HVS.out vp8_1_4_2 (B4.trans (Bp8_1_4_2.mono B4.size))) HON.out (by omega) (by unfold maxLen; omega) (Nat.le_of_lt Wp8_1_4_2.lt) ?_
                intro up8_1_4_2_6 vp8_1_4_2_6 ownp8_1_4_2_6 grp8_1_4_2_6
                obtain ⟨A6, c6, rfl⟩ := own_slice ownp8_1_4_2_6
                have Bp8_1_4_2_6 := Bp8_1_4_2.grown grp8_1_4_2_6 Bp8_1_4_2.size (fun r e => by have e2 := Option.some.inj (show some vp8_1.heap.size = some r from e); omega)
                have Op8_1_4_2_6 := Op8_1_4_2.kept grp8_1_4_2_6 (.inr (fun e => whole_row_ne Wp8_1_4_2 (by decide) Op8_1_4_2 e))
                have Np8_1_4_2_6 := own_baseR18 ownp8_1_4_2_6 hgp8_1_4_2_6
                have Zp8_1_4_2_6 := Zp8_1_4_2.grown grp8_1_4_2_6 (fun e => whole_row_ne Zp8_1_4_2 (by decide) rp8_1_4_2_6 e.symm)
                go_simp
                clear hHeld
                refine hK.out _ _ (KS.out _ Bp8_1_4_2_6) (fun hHeld => ?_)
                clear hK K
                try simp only [Act.put, List.setIfInBounds_toArray, List.set_cons_zero, List.set_cons_succ]
                refine take_at (i := 7) (v := ?_) (some 40) rfl (by kernel_rfl) (by kernel_rfl) (by kernel_rfl) (fun _ _ _ h => h) (by kernel_rfl) (Or.inl ⟨by kernel_rfl, ?_⟩) (by assumption) ?_
                rotate_left
                · (intro w hSw; (try dsimp only at hSw); go_simp <;> with_reducible rfl)
                simp only [Act.put, List.setIfInBounds_toArray, List.set_cons_zero, List.set_cons_succ]
                refine wpAnyH_ready (rs := [9]) (by kernel_rfl) (by simp) ?_
                refine AllReadyH.cons rfl (fun K hK => ?_) AllReadyH.nil
                refine wp_store_row 62 _ _ rfl vp.heap.size #[.int .u8 193, .int .u8 0, .slice Ab 4 cb, .slice A6 (1 + ll) c6] rfl rfl _ _ Zp8_1_4_2_6 (by kernel_rfl) rfl (by simp [Value.oneCell']) ?_
                have R9 := want18 (ll := ll) (X := X) Bp8_1_4_2_6 Bp.size Zp8_1_4_2_6 Op8_1_4_2_6 Np8_1_4_2_6 (HCK.out w4 B4 Ab A6 cb c6)
                clear hHeld
                refine hK.out _ _ (KS.out _ R9.low) (fun hHeld => ?_)
                clear hK K
                try simp only [Act.put, List.setIfInBounds_toArray, List.set_cons_zero, List.set_cons_succ]
                refine wpAnyH_done (by kernel_rfl) ?_ _
                go_wp2_with fail
                go_meet
                exact ⟨vp.heap.size, Ab, cb, A6, c6, rfl, Lib.hid R9⟩
            · go_simp
              have bp8_4 : Below vp8.heap.size vp8 (vp8.alloc (.cells #[hv ta, .slice A la c, .slice Ak lka k] 51)) := (Below.refl _ vp8).alloc (Nat.le_refl _) _
              have Wp8_4 := Whole.new vp8 51 #[hv ta, .slice A la c, .slice Ak lka k]
              have Bp8_4 := Bp8.trans (bp8_4.mono Bp8.size)
              have Zp8_4 := Zp8.below bp8_4 Zp8.lt
              generalize (vp8.alloc (.cells #[hv ta, .slice A la c, .slice Ak lka k] 51)) = vp8_4 at *
              clear hHeld
              refine hK.out _ _ (KS.out _ Bp8_4) (fun hHeld => ?_)
              clear hK K
              try simp only [Act.put, List.setIfInBounds_toArray, List.set_cons_zero, List.set_cons_succ]
              refine wpAnyH_ready (rs := [1]) (by kernel_rfl) (by simp) ?_
              refine AllReadyH.cons rfl (fun K hK => ?_) AllReadyH.nil
              go_simp
              have bp8_4_1 : Below vp8_4.heap.size vp8_4 (vp8_4.alloc (.cells #[uv s] 22)) := (Below.refl _ vp8_4).alloc (Nat.le_refl _) _
              have Lp8_4_1 : Lies (vp8_4.alloc (.cells #[uv s] 22)) (vp8_4.alloc (.cells #[uv s] 22)).heap.size (some ⟨vp8_4.heap.size, 0, none⟩) [uv s] := (Lies.newN vp8_4 [uv s] _).more (by simp)
              have Bp8_4_1 := Bp8_4.trans (bp8_4_1.mono Bp8_4.size)
              have Wp8_4_1 := Wp8_4.below bp8_4_1 Wp8_4.lt
              have Zp8_4_1 := Zp8_4.below bp8_4_1 Zp8_4.lt
              generalize (vp8_4.alloc (.cells #[uv s] 22)) = vp8_4_1 at *
              clear hHeld
              refine hK.out _ _ (KS.out _ Bp8_4_1) (fun hHeld => ?_)
              clear hK K
              try simp only [Act.put, List.setIfInBounds_toArray, List.set_cons_zero, List.set_cons_succ]
              refine wpAnyH_ready (rs := [2]) (by kernel_rfl) (by simp) ?_
              refine AllReadyH.cons rfl (fun K hK => ?_) AllReadyH.nil
              go_simp
              (with_reducible refine (HPU.out vp8_4_1 _ Lp8_4_1).mono ?_); rintro e vp8_4_1_2 ⟨Ab, cb, rfl, op8_4_1_2, bp8_4_1_2⟩
              go_wp2_with fail
              have Bp8_4_1_2 := Bp8_4_1.trans (bp8_4_1_2.mono Bp8_4_1.size)
              have Wp8_4_1_2 := Wp8_4_1.below bp8_4_1_2 Wp8_4_1.lt
              have Zp8_4_1_2 := Zp8_4_1.below bp8_4_1_2 Zp8_4_1.lt
              have Op8_4_1_2 := own_base op8_4_1_2 Bp8_4_1.size
              clear hHeld
              refine hK.out _ _ (KS.out _ Bp8_4_1_2) (fun hHeld => ?_)
              clear hK K
              try simp only [Act.put, List.setIfInBounds_toArray, List.set_cons_zero, List.set_cons_succ]
              refine wpAnyH_ready (rs := [6]) (by kernel_rfl) (by simp) ?_
              refine AllReadyH.cons rfl (fun K hK => ?_) AllReadyH.nil
              have hgp8_4_1_2_6 : w4.heap.size ≤ vp8.heap.size := Bp8.size
              have rp8_4_1_2_6 : vp8_4_1_2.ownsRow vp8.heap.size 51 3 (.slice (some ⟨vp8.heap.size, 0, none⟩) 1 1) 1 [hv ta, .slice A la c, .slice Ak lka k] := own_whole18 Wp8_4_1_2 (Nat.le_refl _)
              have hlp8_4_1_2_6 := HL2.out
              refine wp_append_w18 (.tmp 37) (.tmp 38) 49 rfl vp8.heap.size 51 _ 3 56 Tryz.underlying49 ndinfo18 rfl (by omega) (.slice (some ⟨vp8.heap.size, 0, none⟩) 1 1) 1 _ rfl rp8_4_1_2_6 w.heap.size L ll m vs rfl HVN.out (HVS.out vp8_4_1_2 (B4.trans (Bp8_4_1_2.mono B4.size))) HON.out (by omega) (by unfold maxLen; omega) (Nat.le_of_lt Wp8_4_1_2.lt) ?_
              intro up8_4_1_2_6 vp8_4_1_2_6 ownp8_4_1_2_6 grp8_4_1_2_6
              obtain ⟨A6, c6, rfl⟩ := own_slice ownp8_4_1_2_6
              have Bp8_4_1_2_6 := Bp8_4_1_2.grown grp8_4_1_2_6 Bp8_4_1_2.size (fun r e => by have e2 := Option.some.inj (show some vp8.heap.size = some r from e); omega)
              have Op8_4_1_2_6 := Op8_4_1_2.kept grp8_4_1_2_6 (.inr (fun e => whole_row_ne Wp8_4_1_2 (by decide) Op8_4_1_2 e))
              have Np8_4_1_2_6 := own_baseR18 ownp8_4_1_2_6 hgp8_4_1_2_6
              have Zp8_4_1_2_6 := Zp8_4_1_2.grown grp8_4_1_2_6 (fun e => whole_row_ne Zp8_4_1_2 (by decide) rp8_4_1_2_6 e.symm)
              go_simp
              clear hHeld
              refine hK.out _ _ (KS.out _ Bp8_4_1_2_6) (fun hHeld => ?_)
              clear hK K
              try simp only [Act.put, List.setIfInBounds_toArray, List.set_cons_zero, List.set_cons_succ]
              refine take_at (i := 7) (v := ?_) (some 40) rfl (by kernel_rfl) (by kernel_rfl) (by kernel_rfl) (fun _ _ _ h => h) (by kernel_rfl) (Or.inl ⟨by kernel_rfl, ?_⟩) (by assumption) ?_
              rotate_left
              · (intro w hSw; (try dsimp only at hSw); go_simp <;> with_reducible rfl)
              simp only [Act.put, List.setIfInBounds_toArray, List.set_cons_zero, List.set_cons_succ]
              refine wpAnyH_ready (rs := [9]) (by kernel_rfl) (by simp) ?_
              refine AllReadyH.cons rfl (fun K hK => ?_) AllReadyH.nil
              refine wp_store_row 62 _ _ rfl vp.heap.size #[.int .u8 193, .int .u8 0, .slice Ab 4 cb, .slice A6 (1 + ll) c6] rfl rfl _ _ Zp8_4_1_2_6 (by kernel_rfl) rfl (by simp [Value.oneCell']) ?_
              have R9 := want18 (ll := ll) (X := X) Bp8_4_1_2_6 Bp.size Zp8_4_1_2_6 Op8_4_1_2_6 Np8_4_1_2_6 (HCK.out w4 B4 Ab A6 cb c6)
              clear hHeld
              refine hK.out _ _ (KS.out _ R9.low) (fun hHeld => ?_)
              clear hK K
              try simp only [Act.put, List.setIfInBounds_toArray, List.set_cons_zero, List.set_cons_succ]
              refine wpAnyH_done (by kernel_rfl) ?_ _
              go_wp2_with fail
              go_meet
              exact ⟨vp.heap.size, Ab, cb, A6, c6, rfl, Lib.hid R9⟩
        case rest =>
          obtain ⟨g, Ab, cb, A2, c2, rfl, hR⟩ := hcut
          have x5 := (KX.out wc hR.out.low).2
          have y5 := hR.out.box
          have B5 := B4.trans (hR.out.low.mono B4.size)
          have D5 := hR.out.chunk
          have C5 := C4.on hR.out.low
          clear C4
          clear KX KS B4 hR HCK HPU HVS
          have HI := Lib.hid (HIR.out (by trivial) (by trivial) wc Ab A2 cb c2 D5)
          obtain ⟨p0, p1, p2, p3⟩ := wh4 y5
          go_wp2_with fail
          refine HI.out.mono ?_
          rintro e w7 ⟨rfl, b7⟩
          have B7 := B5.trans (b7.mono B5.size)
          have x7 := x5.below b7 x5.lt
          have y7 := y5.below b7 y5.lt
          have C7 := C5.on b7
          have D7 := D5.on b7
          clear HI HIR x5 y5 C5 D5 B5 b7 p0 p1 p2 p3
          go_upto_region 7 with fail
          have HS := Lib.hid (HSE.out (by trivial) (by trivial) (by trivial) w7 A3 c3 K3 k3 B7 C7)
          obtain ⟨p0, p1, p2, p3⟩ := wh4 x7
          go_wp2_with fail
          refine HS.out.mono ?_
          rintro e w8 ⟨rfl, b8⟩
          have B8 := B7.trans (b8.mono B7.size)
          have x8 := x7.below b8 x7.lt
          have y8 := y7.below b8 y7.lt
          have C8 := C7.on b8
          have D8 := D7.on b8
          clear HS HSE x7 y7 C7 D7 B7 b8 p0 p1 p2 p3
          go_upto_region 8 with fail
          have HE := Lib.hid (HSM.out (by trivial) (by trivial) w8 A3 c3 K3 k3 Ab A2 cb c2 C8 D8)
          obtain ⟨p0, p1, p2, p3⟩ := wh4 x8
          obtain ⟨q0, q1, q2, q3⟩ := wh4 y8
          have e1 : ((s.toNat : Int) == (s.toNat : Int)) = true := by simp
          have HB8 := Lib.hid B8
          clear x8 y8 C8 D8 HSM B8
          go_wp2_with fail
          refine HE.out.mono ?_
          rintro e w9 ⟨rfl, b9⟩
          clear HE p0 p1 p2 p3 q0 q1 q2 q3
          go_wp2_with fail
          go_ret
          exact ⟨rfl, HB8.out.trans (b9.mono HB8.out.size)⟩
      · go_upto_region 4 with fail
        have b5 : Below wq.heap.size wq (wq.alloc (.cells #[.int .u8 0, .int .u8 0, .slice none 0 0, .slice none 0 0] 62)) := (Below.refl _ wq).alloc (Nat.le_refl _) _
        have B4 := Bq.trans (b5.mono Bq.size)
        have y4 := Whole.new wq 62 #[.int .u8 0, .int .u8 0, .slice none 0 0, .slice none 0 0]
        have x4 := xq.below b5 xq.lt
        clear Bq b5 xq HSE HSM
        generalize wq.alloc (.cells #[.int .u8 0, .int .u8 0, .slice none 0 0, .slice none 0 0] 62) = w4 at *
        generalize wq.heap.size = g4 at *
        have KX : Hid (∀ V, Below w4.heap.size w4 V → Whole V w.heap.size 51 #[hv ta, .slice A la c, .slice Ak lka k] ∧ Whole V g4 62 #[.int .u8 0, .int .u8 0, .slice none 0 0, .slice none 0 0]) := Lib.hid (fun V hV => ⟨x4.below hV x4.lt, y4.below hV y4.lt⟩)
        have KS : Hid (∀ V, Below w4.heap.size w4 V → V.cell? ⟨w.heap.size, 0, none⟩ = some (hv ta) ∧ V.cell? ⟨w.heap.size, 1, none⟩ = some (.slice A la c) ∧ V.cell? ⟨w.heap.size, 2, none⟩ = some (.slice Ak lka k)) := Lib.hid (fun V hV => wh318 (KX.out V hV).1)
        clear x4 y4
        go_cut [9] from 33 to 40 (fun v wx => ∃ (g : Nat) (Ab : Option Addr) (cb : Nat) (A2 : Option Addr) (c2 : Nat), v = .pointer (some ⟨g, 0, none⟩) ∧ Hid (Want18 w4 wx g ll X Ab cb A2 c2))
        case first =>
          refine wp_region_held_drew (S := (fun V => V.cell? ⟨w.heap.size, 0, none⟩ = some (hv ta) ∧ V.cell? ⟨w.heap.size, 1, none⟩ = some (.slice A la c) ∧ V.cell? ⟨w.heap.size, 2, none⟩ = some (.slice Ak lka k))) (by kernel_rfl) (KS.out _ (below_drew (Below.refl _ w4))) (fun hHeld => ?_)
          have Bp : Below w4.heap.size w4 w4.drew := below_drew (Below.refl _ w4)
          generalize w4.drew = vp at *
          refine take_at (i := 0) (v := ?_) (some 33) rfl (by kernel_rfl) (by kernel_rfl) (by kernel_rfl) (fun _ _ _ h => h) (by kernel_rfl) (Or.inl ⟨by kernel_rfl, ?_⟩) (by assumption) ?_
          rotate_left
          · (intro w hSw; (try dsimp only at hSw); go_simp <;> with_reducible rfl)
          simp only [Act.put, List.setIfInBounds_toArray, List.set_cons_zero, List.set_cons_succ]
          refine take_at (i := 3) (v := ?_) (some 36) rfl (by kernel_rfl) (by kernel_rfl) (by kernel_rfl) (fun _ _ _ h => h) (by kernel_rfl) (Or.inl ⟨by kernel_rfl, ?_⟩) (by assumption) ?_
          rotate_left
          · (intro w hSw; (try dsimp only at hSw); go_simp <;> with_reducible rfl)
          simp only [Act.put, List.setIfInBounds_toArray, List.set_cons_zero, List.set_cons_succ]
          refine take_at (i := 5) (v := ?_) (some 38) rfl (by kernel_rfl) (by kernel_rfl) (by kernel_rfl) (fun _ _ _ h => h) (by kernel_rfl) (Or.inl ⟨by kernel_rfl, ?_⟩) (by assumption) ?_
          rotate_left
          · (intro w hSw; (try dsimp only at hSw); go_simp <;> with_reducible rfl)
          simp only [Act.put, List.setIfInBounds_toArray, List.set_cons_zero, List.set_cons_succ]
          refine wpAnyH_ready (rs := [1, 4, 8]) (by kernel_rfl) (by simp) ?_
          refine AllReadyH.cons rfl (fun K hK => ?_) (AllReadyH.cons rfl (fun K hK => ?_) (AllReadyH.cons rfl (fun K hK => ?_) AllReadyH.nil))
          · go_simp
            have bp1 : Below vp.heap.size vp (vp.alloc (.cells #[uv s] 22)) := (Below.refl _ vp).alloc (Nat.le_refl _) _
            have Lp1 : Lies (vp.alloc (.cells #[uv s] 22)) (vp.alloc (.cells #[uv s] 22)).heap.size (some ⟨vp.heap.size, 0, none⟩) [uv s] := (Lies.newN vp [uv s] _).more (by simp)
            have Bp1 := Bp.trans (bp1.mono Bp.size)
            generalize (vp.alloc (.cells #[uv s] 22)) = vp1 at *
            clear hHeld
            refine hK.out _ _ (KS.out _ Bp1) (fun hHeld => ?_)
            clear hK K
            try simp only [Act.put, List.setIfInBounds_toArray, List.set_cons_zero, List.set_cons_succ]
            refine wpAnyH_ready (rs := [2, 4, 8]) (by kernel_rfl) (by simp) ?_
            refine AllReadyH.cons rfl (fun K hK => ?_) (AllReadyH.cons rfl (fun K hK => ?_) (AllReadyH.cons rfl (fun K hK => ?_) AllReadyH.nil))
            · go_simp
              (with_reducible refine (HPU.out vp1 _ Lp1).mono ?_); rintro e vp1_2 ⟨Ab, cb, rfl, op1_2, bp1_2⟩
              go_wp2_with fail
              have Bp1_2 := Bp1.trans (bp1_2.mono Bp1.size)
              have Op1_2 := own_base op1_2 Bp1.size
              clear hHeld
              refine hK.out _ _ (KS.out _ Bp1_2) (fun hHeld => ?_)
              clear hK K
              try simp only [Act.put, List.setIfInBounds_toArray, List.set_cons_zero, List.set_cons_succ]
              refine wpAnyH_ready (rs := [4, 8]) (by kernel_rfl) (by simp) ?_
              refine AllReadyH.cons rfl (fun K hK => ?_) (AllReadyH.cons rfl (fun K hK => ?_) AllReadyH.nil)
              · go_simp
                have bp1_2_4 : Below vp1_2.heap.size vp1_2 (vp1_2.alloc (.cells #[hv ta, .slice A la c, .slice Ak lka k] 51)) := (Below.refl _ vp1_2).alloc (Nat.le_refl _) _
                have Wp1_2_4 := Whole.new vp1_2 51 #[hv ta, .slice A la c, .slice Ak lka k]
                have Bp1_2_4 := Bp1_2.trans (bp1_2_4.mono Bp1_2.size)
                have Op1_2_4 := own_belowW18 Op1_2 bp1_2_4
                generalize (vp1_2.alloc (.cells #[hv ta, .slice A la c, .slice Ak lka k] 51)) = vp1_2_4 at *
                clear hHeld
                refine hK.out _ _ (KS.out _ Bp1_2_4) (fun hHeld => ?_)
                clear hK K
                try simp only [Act.put, List.setIfInBounds_toArray, List.set_cons_zero, List.set_cons_succ]
                refine wpAnyH_ready (rs := [6, 8]) (by kernel_rfl) (by simp) ?_
                refine AllReadyH.cons rfl (fun K hK => ?_) (AllReadyH.cons rfl (fun K hK => ?_) AllReadyH.nil)
                · have hgp1_2_4_6 : w4.heap.size ≤ vp1_2.heap.size := Bp1_2.size
                  have rp1_2_4_6 : vp1_2_4.ownsRow vp1_2.heap.size 51 3 (.slice (some ⟨vp1_2.heap.size, 0, none⟩) 1 1) 1 [hv ta, .slice A la c, .slice Ak lka k] := own_whole18 Wp1_2_4 (Nat.le_refl _)
                  have hlp1_2_4_6 := HL2.out
                  refine wp_append_w18 (.tmp 37) (.tmp 38) 49 rfl vp1_2.heap.size 51 _ 3 56 Tryz.underlying49 ndinfo18 rfl (by omega) (.slice (some ⟨vp1_2.heap.size, 0, none⟩) 1 1) 1 _ rfl rp1_2_4_6 w.heap.size L ll m vs rfl HVN.out (HVS.out vp1_2_4 (B4.trans (Bp1_2_4.mono B4.size))) HON.out (by omega) (by unfold maxLen; omega) (Nat.le_of_lt Wp1_2_4.lt) ?_
                  intro up1_2_4_6 vp1_2_4_6 ownp1_2_4_6 grp1_2_4_6
                  obtain ⟨A6, c6, rfl⟩ := own_slice ownp1_2_4_6
                  have Bp1_2_4_6 := Bp1_2_4.grown grp1_2_4_6 Bp1_2_4.size (fun r e => by have e2 := Option.some.inj (show some vp1_2.heap.size = some r from e); omega)
                  have Op1_2_4_6 := Op1_2_4.kept grp1_2_4_6 (.inr (fun e => whole_row_ne Wp1_2_4 (by decide) Op1_2_4 e))
                  have Np1_2_4_6 := own_baseR18 ownp1_2_4_6 hgp1_2_4_6
                  go_simp
                  clear hHeld
                  refine hK.out _ _ (KS.out _ Bp1_2_4_6) (fun hHeld => ?_)
                  clear hK K
                  try simp only [Act.put, List.setIfInBounds_toArray, List.set_cons_zero, List.set_cons_succ]
                  refine take_at (i := 7) (v := ?_) (some 40) rfl (by kernel_rfl) (by kernel_rfl) (by kernel_rfl) (fun _ _ _ h => h) (by kernel_rfl) (Or.inl ⟨by kernel_rfl, ?_⟩) (by assumption) ?_
                  rotate_left
                  · (intro w hSw; (try dsimp only at hSw); go_simp <;> with_reducible rfl)
                  simp only [Act.put, List.setIfInBounds_toArray, List.set_cons_zero, List.set_cons_succ]
                  refine wpAnyH_ready (rs := [8]) (by kernel_rfl) (by simp) ?_
                  refine AllReadyH.cons rfl (fun K hK => ?_) AllReadyH.nil
                  go_simp
                  have bp1_2_4_6_8 : Below vp1_2_4_6.heap.size vp1_2_4_6 (vp1_2_4_6.alloc (.cells #[.int .u8 0, .int .u8 0, .slice none 0 0, .slice none 0 0] 62)) := (Below.refl _ vp1_2_4_6).alloc (Nat.le_refl _) _
                  have Zp1_2_4_6_8 := Whole.new vp1_2_4_6 62 #[.int .u8 0, .int .u8 0, .slice none 0 0, .slice none 0 0]
                  have Bp1_2_4_6_8 := Bp1_2_4_6.trans (bp1_2_4_6_8.mono Bp1_2_4_6.size)
                  have Op1_2_4_6_8 := own_belowW18 Op1_2_4_6 bp1_2_4_6_8
                  have Np1_2_4_6_8 := own_belowW18 Np1_2_4_6 bp1_2_4_6_8
                  generalize (vp1_2_4_6.alloc (.cells #[.int .u8 0, .int .u8 0, .slice none 0 0, .slice none 0 0] 62)) = vp1_2_4_6_8 at *
                  clear hHeld
                  refine hK.out _ _ (KS.out _ Bp1_2_4_6_8) (fun hHeld => ?_)
                  clear hK K
                  try simp only [Act.put, List.setIfInBounds_toArray, List.set_cons_zero, List.set_cons_succ]
                  refine wpAnyH_ready (rs := [9]) (by kernel_rfl) (by simp) ?_
                  refine AllReadyH.cons rfl (fun K hK => ?_) AllReadyH.nil
                  refine wp_store_row 62 _ _ rfl vp1_2_4_6.heap.size #[.int .u8 193, .int .u8 0, .slice Ab 4 cb, .slice A6 (1 + ll) c6] rfl rfl _ _ Zp1_2_4_6_8 (by kernel_rfl) rfl (by simp [Value.oneCell']) ?_
                  have R9 := want18 (ll := ll) (X := X) Bp1_2_4_6_8 Bp1_2_4_6.size Zp1_2_4_6_8 Op1_2_4_6_8 Np1_2_4_6_8 (HCK.out w4 B4 Ab A6 cb c6)
                  clear hHeld
                  refine hK.out _ _ (KS.out _ R9.low) (fun hHeld => ?_)
                  clear hK K
                  try simp only [Act.put, List.setIfInBounds_toArray, List.set_cons_zero, List.set_cons_succ]
                  refine wpAnyH_done (by kernel_rfl) ?_ _
                  go_wp2_with fail
                  go_meet
                  exact ⟨vp1_2_4_6.heap.size, Ab, cb, A6, c6, rfl, Lib.hid R9⟩
                · go_simp
                  have bp1_2_4_8 : Below vp1_2_4.heap.size vp1_2_4 (vp1_2_4.alloc (.cells #[.int .u8 0, .int .u8 0, .slice none 0 0, .slice none 0 0] 62)) := (Below.refl _ vp1_2_4).alloc (Nat.le_refl _) _
                  have Zp1_2_4_8 := Whole.new vp1_2_4 62 #[.int .u8 0, .int .u8 0, .slice none 0 0, .slice none 0 0]
                  have Bp1_2_4_8 := Bp1_2_4.trans (bp1_2_4_8.mono Bp1_2_4.size)
                  have Op1_2_4_8 := own_belowW18 Op1_2_4 bp1_2_4_8
                  have Wp1_2_4_8 := Wp1_2_4.below bp1_2_4_8 Wp1_2_4.lt
                  generalize (vp1_2_4.alloc (.cells #[.int .u8 0, .int .u8 0, .slice none 0 0, .slice none 0 0] 62)) = vp1_2_4_8 at *
                  clear hHeld
                  refine hK.out _ _ (KS.out _ Bp1_2_4_8) (fun hHeld => ?_)
                  clear hK K
                  try simp only [Act.put, List.setIfInBounds_toArray, List.set_cons_zero, List.set_cons_succ]
                  refine wpAnyH_ready (rs := [6]) (by kernel_rfl) (by simp) ?_
                  refine AllReadyH.cons rfl (fun K hK => ?_) AllReadyH.nil
                  have hgp1_2_4_8_6 : w4.heap.size ≤ vp1_2.heap.size := Bp1_2.size
                  have rp1_2_4_8_6 : vp1_2_4_8.ownsRow vp1_2.heap.size 51 3 (.slice (some ⟨vp1_2.heap.size, 0, none⟩) 1 1) 1 [hv ta, .slice A la c, .slice Ak lka k] := own_whole18 Wp1_2_4_8 (Nat.le_refl _)
                  have hlp1_2_4_8_6 := HL2.out
                  refine wp_append_w18 (.tmp 37) (.tmp 38) 49 rfl vp1_2.heap.size 51 _ 3 56 Tryz.underlying49 ndinfo18 rfl (by omega) (.slice (some ⟨vp1_2.heap.size, 0, none⟩) 1 1) 1 _ rfl rp1_2_4_8_6 w.heap.size L ll m vs rfl HVN.out (HVS.out vp1_2_4_8 (B4.trans (Bp1_2_4_8.mono B4.size))) HON.out (by omega) (by unfold maxLen; omega) (Nat.le_of_lt Wp1_2_4_8.lt) ?_
                  intro up1_2_4_8_6 vp1_2_4_8_6 ownp1_2_4_8_6 grp1_2_4_8_6
                  obtain ⟨A6, c6, rfl⟩ := own_slice ownp1_2_4_8_6
                  have Bp1_2_4_8_6 := Bp1_2_4_8.grown grp1_2_4_8_6 Bp1_2_4_8.size (fun r e => by have e2 := Option.some.inj (show some vp1_2.heap.size = some r from e); omega)
                  have Op1_2_4_8_6 := Op1_2_4_8.kept grp1_2_4_8_6 (.inr (fun e => whole_row_ne Wp1_2_4_8 (by decide) Op1_2_4_8 e))
                  have Np1_2_4_8_6 := own_baseR18 ownp1_2_4_8_6 hgp1_2_4_8_6
                  have Zp1_2_4_8_6 := Zp1_2_4_8.grown grp1_2_4_8_6 (fun e => whole_row_ne Zp1_2_4_8 (by decide) rp1_2_4_8_6 e.symm)
                  go_simp
                  clear hHeld
                  refine hK.out _ _ (KS.out _ Bp1_2_4_8_6) (fun hHeld => ?_)
                  clear hK K
                  try simp only [Act.put, List.setIfInBounds_toArray, List.set_cons_zero, List.set_cons_succ]
                  refine take_at (i := 7) (v := ?_) (some 40) rfl (by kernel_rfl) (by kernel_rfl) (by kernel_rfl) (fun _ _ _ h => h) (by kernel_rfl) (Or.inl ⟨by kernel_rfl, ?_⟩) (by assumption) ?_
                  rotate_left
                  · (intro w hSw; (try dsimp only at hSw); go_simp <;> with_reducible rfl)
                  simp only [Act.put, List.setIfInBounds_toArray, List.set_cons_zero, List.set_cons_succ]
                  refine wpAnyH_ready (rs := [9]) (by kernel_rfl) (by simp) ?_
                  refine AllReadyH.cons rfl (fun K hK => ?_) AllReadyH.nil
                  refine wp_store_row 62 _ _ rfl vp1_2_4.heap.size #[.int .u8 193, .int .u8 0, .slice Ab 4 cb, .slice A6 (1 + ll) c6] rfl rfl _ _ Zp1_2_4_8_6 (by kernel_rfl) rfl (by simp [Value.oneCell']) ?_
                  have R9 := want18 (ll := ll) (X := X) Bp1_2_4_8_6 Bp1_2_4.size Zp1_2_4_8_6 Op1_2_4_8_6 Np1_2_4_8_6 (HCK.out w4 B4 Ab A6 cb c6)
                  clear hHeld
                  refine hK.out _ _ (KS.out _ R9.low) (fun hHeld => ?_)
                  clear hK K
                  try simp only [Act.put, List.setIfInBounds_toArray, List.set_cons_zero, List.set_cons_succ]
                  refine wpAnyH_done (by kernel_rfl) ?_ _
                  go_wp2_with fail
                  go_meet
                  exact ⟨vp1_2_4.heap.size, Ab, cb, A6, c6, rfl, Lib.hid R9⟩
              · go_simp
                have bp1_2_8 : Below vp1_2.heap.size vp1_2 (vp1_2.alloc (.cells #[.int .u8 0, .int .u8 0, .slice none 0 0, .slice none 0 0] 62)) := (Below.refl _ vp1_2).alloc (Nat.le_refl _) _
                have Zp1_2_8 := Whole.new vp1_2 62 #[.int .u8 0, .int .u8 0, .slice none 0 0, .slice none 0 0]
                have Bp1_2_8 := Bp1_2.trans (bp1_2_8.mono Bp1_2.size)
                have Op1_2_8 := own_belowW18 Op1_2 bp1_2_8
                generalize (vp1_2.alloc (.cells #[.int .u8 0, .int .u8 0, .slice none 0 0, .slice none 0 0] 62)) = vp1_2_8 at *
                clear hHeld
                refine hK.out _ _ (KS.out _ Bp1_2_8) (fun hHeld => ?_)
                clear hK K
                try simp only [Act.put, List.setIfInBounds_toArray, List.set_cons_zero, List.set_cons_succ]
                refine wpAnyH_ready (rs := [4]) (by kernel_rfl) (by simp) ?_
                refine AllReadyH.cons rfl (fun K hK => ?_) AllReadyH.nil
                go_simp
                have bp1_2_8_4 : Below vp1_2_8.heap.size vp1_2_8 (vp1_2_8.alloc (.cells #[hv ta, .slice A la c, .slice Ak lka k] 51)) := (Below.refl _ vp1_2_8).alloc (Nat.le_refl _) _
                have Wp1_2_8_4 := Whole.new vp1_2_8 51 #[hv ta, .slice A la c, .slice Ak lka k]
                have Bp1_2_8_4 := Bp1_2_8.trans (bp1_2_8_4.mono Bp1_2_8.size)
                have Op1_2_8_4 := own_belowW18 Op1_2_8 bp1_2_8_4
                have Zp1_2_8_4 := Zp1_2_8.below bp1_2_8_4 Zp1_2_8.lt
                generalize (vp1_2_8.alloc (.cells #[hv ta, .slice A la c, .slice Ak lka k] 51)) = vp1_2_8_4 at *
                clear hHeld
                refine hK.out _ _ (KS.out _ Bp1_2_8_4) (fun hHeld => ?_)
                clear hK K
                try simp only [Act.put, List.setIfInBounds_toArray, List.set_cons_zero, List.set_cons_succ]
                refine wpAnyH_ready (rs := [6]) (by kernel_rfl) (by simp) ?_
                refine AllReadyH.cons rfl (fun K hK => ?_) AllReadyH.nil
                have hgp1_2_8_4_6 : w4.heap.size ≤ vp1_2_8.heap.size := Bp1_2_8.size
                have rp1_2_8_4_6 : vp1_2_8_4.ownsRow vp1_2_8.heap.size 51 3 (.slice (some ⟨vp1_2_8.heap.size, 0, none⟩) 1 1) 1 [hv ta, .slice A la c, .slice Ak lka k] := own_whole18 Wp1_2_8_4 (Nat.le_refl _)
                have hlp1_2_8_4_6 := HL2.out
                refine wp_append_w18 (.tmp 37) (.tmp 38) 49 rfl vp1_2_8.heap.size 51 _ 3 56 Tryz.underlying49 ndinfo18 rfl (by omega) (.slice (some ⟨vp1_2_8.heap.size, 0, none⟩) 1 1) 1 _ rfl rp1_2_8_4_6 w.heap.size L ll m vs rfl HVN.out (HVS.out vp1_2_8_4 (B4.trans (Bp1_2_8_4.mono B4.size))) HON.out (by omega) (by unfold maxLen; omega) (Nat.le_of_lt Wp1_2_8_4.lt) ?_
                intro up1_2_8_4_6 vp1_2_8_4_6 ownp1_2_8_4_6 grp1_2_8_4_6
                obtain ⟨A6, c6, rfl⟩ := own_slice ownp1_2_8_4_6
                have Bp1_2_8_4_6 := Bp1_2_8_4.grown grp1_2_8_4_6 Bp1_2_8_4.size (fun r e => by have e2 := Option.some.inj (show some vp1_2_8.heap.size = some r from e); omega)
                have Op1_2_8_4_6 := Op1_2_8_4.kept grp1_2_8_4_6 (.inr (fun e => whole_row_ne Wp1_2_8_4 (by decide) Op1_2_8_4 e))
                have Np1_2_8_4_6 := own_baseR18 ownp1_2_8_4_6 hgp1_2_8_4_6
                have Zp1_2_8_4_6 := Zp1_2_8_4.grown grp1_2_8_4_6 (fun e => whole_row_ne Zp1_2_8_4 (by decide) rp1_2_8_4_6 e.symm)
                go_simp
                clear hHeld
                refine hK.out _ _ (KS.out _ Bp1_2_8_4_6) (fun hHeld => ?_)
                clear hK K
                try simp only [Act.put, List.setIfInBounds_toArray, List.set_cons_zero, List.set_cons_succ]
                refine take_at (i := 7) (v := ?_) (some 40) rfl (by kernel_rfl) (by kernel_rfl) (by kernel_rfl) (fun _ _ _ h => h) (by kernel_rfl) (Or.inl ⟨by kernel_rfl, ?_⟩) (by assumption) ?_
                rotate_left
                · (intro w hSw; (try dsimp only at hSw); go_simp <;> with_reducible rfl)
                simp only [Act.put, List.setIfInBounds_toArray, List.set_cons_zero, List.set_cons_succ]
                refine wpAnyH_ready (rs := [9]) (by kernel_rfl) (by simp) ?_
                refine AllReadyH.cons rfl (fun K hK => ?_) AllReadyH.nil
                refine wp_store_row 62 _ _ rfl vp1_2.heap.size #[.int .u8 193, .int .u8 0, .slice Ab 4 cb, .slice A6 (1 + ll) c6] rfl rfl _ _ Zp1_2_8_4_6 (by kernel_rfl) rfl (by simp [Value.oneCell']) ?_
                have R9 := want18 (ll := ll) (X := X) Bp1_2_8_4_6 Bp1_2.size Zp1_2_8_4_6 Op1_2_8_4_6 Np1_2_8_4_6 (HCK.out w4 B4 Ab A6 cb c6)
                clear hHeld
                refine hK.out _ _ (KS.out _ R9.low) (fun hHeld => ?_)
                clear hK K
                try simp only [Act.put, List.setIfInBounds_toArray, List.set_cons_zero, List.set_cons_succ]
                refine wpAnyH_done (by kernel_rfl) ?_ _
                go_wp2_with fail
                go_meet
                exact ⟨vp1_2.heap.size, Ab, cb, A6, c6, rfl, Lib.hid R9⟩
            · go_simp
              have bp1_4 : Below vp1.heap.size vp1 (vp1.alloc (.cells #[hv ta, .slice A la c, .slice Ak lka k] 51)) := (Below.refl _ vp1).alloc (Nat.le_refl _) _
              have Wp1_4 := Whole.new vp1 51 #[hv ta, .slice A la c, .slice Ak lka k]
              have Bp1_4 := Bp1.trans (bp1_4.mono Bp1.size)
              have Lp1_4 := (Lp1.below bp1_4).more bp1_4.size
              generalize (vp1.alloc (.cells #[hv ta, .slice A la c, .slice Ak lka k] 51)) = vp1_4 at *
              clear hHeld
              refine hK.out _ _ (KS.out _ Bp1_4) (fun hHeld => ?_)
              clear hK K
              try simp only [Act.put, List.setIfInBounds_toArray, List.set_cons_zero, List.set_cons_succ]
              refine wpAnyH_ready (rs := [2, 8]) (by kernel_rfl) (by simp) ?_
              refine AllReadyH.cons rfl (fun K hK => ?_) (AllReadyH.cons rfl (fun K hK => ?_) AllReadyH.nil)
              · go_simp
                (with_reducible refine (HPU.out vp1_4 _ Lp1_4).mono ?_); rintro e vp1_4_2 ⟨Ab, cb, rfl, op1_4_2, bp1_4_2⟩
                go_wp2_with fail
                have Bp1_4_2 := Bp1_4.trans (bp1_4_2.mono Bp1_4.size)
                have Wp1_4_2 := Wp1_4.below bp1_4_2 Wp1_4.lt
                have Op1_4_2 := own_base op1_4_2 Bp1_4.size
                clear hHeld
                refine hK.out _ _ (KS.out _ Bp1_4_2) (fun hHeld => ?_)
                clear hK K
                try simp only [Act.put, List.setIfInBounds_toArray, List.set_cons_zero, List.set_cons_succ]
                refine wpAnyH_ready (rs := [6, 8]) (by kernel_rfl) (by simp) ?_
                refine AllReadyH.cons rfl (fun K hK => ?_) (AllReadyH.cons rfl (fun K hK => ?_) AllReadyH.nil)
                · have hgp1_4_2_6 : w4.heap.size ≤ vp1.heap.size := Bp1.size
                  have rp1_4_2_6 : vp1_4_2.ownsRow vp1.heap.size 51 3 (.slice (some ⟨vp1.heap.size, 0, none⟩) 1 1) 1 [hv ta, .slice A la c, .slice Ak lka k] := own_whole18 Wp1_4_2 (Nat.le_refl _)
                  have hlp1_4_2_6 := HL2.out
                  refine wp_append_w18 (.tmp 37) (.tmp 38) 49 rfl vp1.heap.size 51 _ 3 56 Tryz.underlying49 ndinfo18 rfl (by omega) (.slice (some ⟨vp1.heap.size, 0, none⟩) 1 1) 1 _ rfl rp1_4_2_6 w.heap.size L ll m vs rfl HVN.out (HVS.out vp1_4_2 (B4.trans (Bp1_4_2.mono B4.size))) HON.out (by omega) (by unfold maxLen; omega) (Nat.le_of_lt Wp1_4_2.lt) ?_
                  intro up1_4_2_6 vp1_4_2_6 ownp1_4_2_6 grp1_4_2_6
                  obtain ⟨A6, c6, rfl⟩ := own_slice ownp1_4_2_6
                  have Bp1_4_2_6 := Bp1_4_2.grown grp1_4_2_6 Bp1_4_2.size (fun r e => by have e2 := Option.some.inj (show some vp1.heap.size = some r from e); omega)
                  have Op1_4_2_6 := Op1_4_2.kept grp1_4_2_6 (.inr (fun e => whole_row_ne Wp1_4_2 (by decide) Op1_4_2 e))
                  have Np1_4_2_6 := own_baseR18 ownp1_4_2_6 hgp1_4_2_6
                  go_simp
                  clear hHeld
                  refine hK.out _ _ (KS.out _ Bp1_4_2_6) (fun hHeld => ?_)
                  clear hK K
                  try simp only [Act.put, List.setIfInBounds_toArray, List.set_cons_zero, List.set_cons_succ]
                  refine take_at (i := 7) (v := ?_) (some 40) rfl (by kernel_rfl) (by kernel_rfl) (by kernel_rfl) (fun _ _ _ h => h) (by kernel_rfl) (Or.inl ⟨by kernel_rfl, ?_⟩) (by assumption) ?_
                  rotate_left
                  · (intro w hSw; (try dsimp only at hSw); go_simp <;> with_reducible rfl)
                  simp only [Act.put, List.setIfInBounds_toArray, List.set_cons_zero, List.set_cons_succ]
                  refine wpAnyH_ready (rs := [8]) (by kernel_rfl) (by simp) ?_
                  refine AllReadyH.cons rfl (fun K hK => ?_) AllReadyH.nil
                  go_simp
                  have bp1_4_2_6_8 : Below vp1_4_2_6.heap.size vp1_4_2_6 (vp1_4_2_6.alloc (.cells #[.int .u8 0, .int .u8 0, .slice none 0 0, .slice none 0 0] 62)) := (Below.refl _ vp1_4_2_6).alloc (Nat.le_refl _) _
                  have Zp1_4_2_6_8 := Whole.new vp1_4_2_6 62 #[.int .u8 0, .int .u8 0, .slice none 0 0, .slice none 0 0]
                  have Bp1_4_2_6_8 := Bp1_4_2_6.trans (bp1_4_2_6_8.mono Bp1_4_2_6.size)
                  have Op1_4_2_6_8 := own_belowW18 Op1_4_2_6 bp1_4_2_6_8
                  have Np1_4_2_6_8 := own_belowW18 Np1_4_2_6 bp1_4_2_6_8
                  generalize (vp1_4_2_6.alloc (.cells #[.int .u8 0, .int .u8 0, .slice none 0 0, .slice none 0 0] 62)) = vp1_4_2_6_8 at *
                  clear hHeld
                  refine hK.out _ _ (KS.out _ Bp1_4_2_6_8) (fun hHeld => ?_)
                  clear hK K
                  try simp only [Act.put, List.setIfInBounds_toArray, List.set_cons_zero, List.set_cons_succ]
                  refine wpAnyH_ready (rs := [9]) (by kernel_rfl) (by simp) ?_
                  refine AllReadyH.cons rfl (fun K hK => ?_) AllReadyH.nil
                  refine wp_store_row 62 _ _ rfl vp1_4_2_6.heap.size #[.int .u8 193, .int .u8 0, .slice Ab 4 cb, .slice A6 (1 + ll) c6] rfl rfl _ _ Zp1_4_2_6_8 (by kernel_rfl) rfl (by simp [Value.oneCell']) ?_
                  have R9 := want18 (ll := ll) (X := X) Bp1_4_2_6_8 Bp1_4_2_6.size Zp1_4_2_6_8 Op1_4_2_6_8 Np1_4_2_6_8 (HCK.out w4 B4 Ab A6 cb c6)
                  clear hHeld
                  refine hK.out _ _ (KS.out _ R9.low) (fun hHeld => ?_)
                  clear hK K
                  try simp only [Act.put, List.setIfInBounds_toArray, List.set_cons_zero, List.set_cons_succ]
                  refine wpAnyH_done (by kernel_rfl) ?_ _
                  go_wp2_with fail
                  go_meet
                  exact ⟨vp1_4_2_6.heap.size, Ab, cb, A6, c6, rfl, Lib.hid R9⟩
                · go_simp
                  have bp1_4_2_8 : Below vp1_4_2.heap.size vp1_4_2 (vp1_4_2.alloc (.cells #[.int .u8 0, .int .u8 0, .slice none 0 0, .slice none 0 0] 62)) := (Below.refl _ vp1_4_2).alloc (Nat.le_refl _) _
                  have Zp1_4_2_8 := Whole.new vp1_4_2 62 #[.int .u8 0, .int .u8 0, .slice none 0 0, .slice none 0 0]
                  have Bp1_4_2_8 := Bp1_4_2.trans (bp1_4_2_8.mono Bp1_4_2.size)
                  have Op1_4_2_8 := own_belowW18 Op1_4_2 bp1_4_2_8
                  have Wp1_4_2_8 := Wp1_4_2.below bp1_4_2_8 Wp1_4_2.lt
                  generalize (vp1_4_2.alloc (.cells #[.int .u8 0, .int .u8 0, .slice none 0 0, .slice none 0 0] 62)) = vp1_4_2_8 at *
                  clear hHeld
                  refine hK.out _ _ (KS.out _ Bp1_4_2_8) (fun hHeld => ?_)
                  clear hK K
                  try simp only [Act.put, List.setIfInBounds_toArray, List.set_cons_zero, List.set_cons_succ]
                  refine wpAnyH_ready (rs := [6]) (by kernel_rfl) (by simp) ?_
                  refine AllReadyH.cons rfl (fun K hK => ?_) AllReadyH.nil
                  have hgp1_4_2_8_6 : w4.heap.size ≤ vp1.heap.size := Bp1.size
                  have rp1_4_2_8_6 : vp1_4_2_8.ownsRow vp1.heap.size 51 3 (.slice (some ⟨vp1.heap.size, 0, none⟩) 1 1) 1 [hv ta, .slice A la c, .slice Ak lka k] := own_whole18 Wp1_4_2_8 (Nat.le_refl _)
                  have hlp1_4_2_8_6 := HL2.out
                  refine wp_append_w18 (.tmp 37) (.tmp 38) 49 rfl vp1.heap.size 51 _ 3 56 Tryz.underlying49 ndinfo18 rfl (by omega) (.slice (some ⟨vp1.heap.size, 0, none⟩) 1 1) 1 _ rfl rp1_4_2_8_6 w.heap.size L ll m vs rfl HVN.out (HVS.out vp1_4_2_8 (B4.trans (Bp1_4_2_8.mono B4.size))) HON.out (by omega) (by unfold maxLen; omega) (Nat.le_of_lt Wp1_4_2_8.lt) ?_
                  intro up1_4_2_8_6 vp1_4_2_8_6 ownp1_4_2_8_6 grp1_4_2_8_6
                  obtain ⟨A6, c6, rfl⟩ := own_slice ownp1_4_2_8_6
                  have Bp1_4_2_8_6 := Bp1_4_2_8.grown grp1_4_2_8_6 Bp1_4_2_8.size (fun r e => by have e2 := Option.some.inj (show some vp1.heap.size = some r from e); omega)
                  have Op1_4_2_8_6 := Op1_4_2_8.kept grp1_4_2_8_6 (.inr (fun e => whole_row_ne Wp1_4_2_8 (by decide) Op1_4_2_8 e))
                  have Np1_4_2_8_6 := own_baseR18 ownp1_4_2_8_6 hgp1_4_2_8_6
                  have Zp1_4_2_8_6 := Zp1_4_2_8.grown grp1_4_2_8_6 (fun e => whole_row_ne Zp1_4_2_8 (by decide) rp1_4_2_8_6 e.symm)
                  go_simp
                  clear hHeld
                  refine hK.out _ _ (KS.out _ Bp1_4_2_8_6) (fun hHeld => ?_)
                  clear hK K
                  try simp only [Act.put, List.setIfInBounds_toArray, List.set_cons_zero, List.set_cons_succ]
                  refine take_at (i := 7) (v := ?_) (some 40) rfl (by kernel_rfl) (by kernel_rfl) (by kernel_rfl) (fun _ _ _ h => h) (by kernel_rfl) (Or.inl ⟨by kernel_rfl, ?_⟩) (by assumption) ?_
                  rotate_left
                  · (intro w hSw; (try dsimp only at hSw); go_simp <;> with_reducible rfl)
                  simp only [Act.put, List.setIfInBounds_toArray, List.set_cons_zero, List.set_cons_succ]
                  refine wpAnyH_ready (rs := [9]) (by kernel_rfl) (by simp) ?_
                  refine AllReadyH.cons rfl (fun K hK => ?_) AllReadyH.nil
                  refine wp_store_row 62 _ _ rfl vp1_4_2.heap.size #[.int .u8 193, .int .u8 0, .slice Ab 4 cb, .slice A6 (1 + ll) c6] rfl rfl _ _ Zp1_4_2_8_6 (by kernel_rfl) rfl (by simp [Value.oneCell']) ?_
                  have R9 := want18 (ll := ll) (X := X) Bp1_4_2_8_6 Bp1_4_2.size Zp1_4_2_8_6 Op1_4_2_8_6 Np1_4_2_8_6 (HCK.out w4 B4 Ab A6 cb c6)
                  clear hHeld
                  refine hK.out _ _ (KS.out _ R9.low) (fun hHeld => ?_)
                  clear hK K
                  try simp only [Act.put, List.setIfInBounds_toArray, List.set_cons_zero, List.set_cons_succ]
                  refine wpAnyH_done (by kernel_rfl) ?_ _
                  go_wp2_with fail
                  go_meet
                  exact ⟨vp1_4_2.heap.size, Ab, cb, A6, c6, rfl, Lib.hid R9⟩
              · go_simp
                have bp1_4_8 : Below vp1_4.heap.size vp1_4 (vp1_4.alloc (.cells #[.int .u8 0, .int .u8 0, .slice none 0 0, .slice none 0 0] 62)) := (Below.refl _ vp1_4).alloc (Nat.le_refl _) _
                have Zp1_4_8 := Whole.new vp1_4 62 #[.int .u8 0, .int .u8 0, .slice none 0 0, .slice none 0 0]
                have Bp1_4_8 := Bp1_4.trans (bp1_4_8.mono Bp1_4.size)
                have Lp1_4_8 := (Lp1_4.below bp1_4_8).more bp1_4_8.size
                have Wp1_4_8 := Wp1_4.below bp1_4_8 Wp1_4.lt
                generalize (vp1_4.alloc (.cells #[.int .u8 0, .int .u8 0, .slice none 0 0, .slice none 0 0] 62)) = vp1_4_8 at *
                clear hHeld
                refine hK.out _ _ (KS.out _ Bp1_4_8) (fun hHeld => ?_)
                clear hK K
                try simp only [Act.put, List.setIfInBounds_toArray, List.set_cons_zero, List.set_cons_succ]
                refine wpAnyH_ready (rs := [2]) (by kernel_rfl) (by simp) ?_
                refine AllReadyH.cons rfl (fun K hK => ?_) AllReadyH.nil
                go_simp
                (with_reducible refine (HPU.out vp1_4_8 _ Lp1_4_8).mono ?_); rintro e vp1_4_8_2 ⟨Ab, cb, rfl, op1_4_8_2, bp1_4_8_2⟩
                go_wp2_with fail
                have Bp1_4_8_2 := Bp1_4_8.trans (bp1_4_8_2.mono Bp1_4_8.size)
                have Wp1_4_8_2 := Wp1_4_8.below bp1_4_8_2 Wp1_4_8.lt
                have Zp1_4_8_2 := Zp1_4_8.below bp1_4_8_2 Zp1_4_8.lt
                have Op1_4_8_2 := own_base op1_4_8_2 Bp1_4_8.size
                clear hHeld
                refine hK.out _ _ (KS.out _ Bp1_4_8_2) (fun hHeld => ?_)
                clear hK K
                try simp only [Act.put, List.setIfInBounds_toArray, List.set_cons_zero, List.set_cons_succ]
                refine wpAnyH_ready (rs := [6]) (by kernel_rfl) (by simp) ?_
                refine AllReadyH.cons rfl (fun K hK => ?_) AllReadyH.nil
                have hgp1_4_8_2_6 : w4.heap.size ≤ vp1.heap.size := Bp1.size
                have rp1_4_8_2_6 : vp1_4_8_2.ownsRow vp1.heap.size 51 3 (.slice (some ⟨vp1.heap.size, 0, none⟩) 1 1) 1 [hv ta, .slice A la c, .slice Ak lka k] := own_whole18 Wp1_4_8_2 (Nat.le_refl _)
                have hlp1_4_8_2_6 := HL2.out
                refine wp_append_w18 (.tmp 37) (.tmp 38) 49 rfl vp1.heap.size 51 _ 3 56 Tryz.underlying49 ndinfo18 rfl (by omega) (.slice (some ⟨vp1.heap.size, 0, none⟩) 1 1) 1 _ rfl rp1_4_8_2_6 w.heap.size L ll m vs rfl HVN.out (HVS.out vp1_4_8_2 (B4.trans (Bp1_4_8_2.mono B4.size))) HON.out (by omega) (by unfold maxLen; omega) (Nat.le_of_lt Wp1_4_8_2.lt) ?_
                intro up1_4_8_2_6 vp1_4_8_2_6 ownp1_4_8_2_6 grp1_4_8_2_6
                obtain ⟨A6, c6, rfl⟩ := own_slice ownp1_4_8_2_6
                have Bp1_4_8_2_6 := Bp1_4_8_2.grown grp1_4_8_2_6 Bp1_4_8_2.size (fun r e => by have e2 := Option.some.inj (show some vp1.heap.size = some r from e); omega)
                have Op1_4_8_2_6 := Op1_4_8_2.kept grp1_4_8_2_6 (.inr (fun e => whole_row_ne Wp1_4_8_2 (by decide) Op1_4_8_2 e))
                have Np1_4_8_2_6 := own_baseR18 ownp1_4_8_2_6 hgp1_4_8_2_6
                have Zp1_4_8_2_6 := Zp1_4_8_2.grown grp1_4_8_2_6 (fun e => whole_row_ne Zp1_4_8_2 (by decide) rp1_4_8_2_6 e.symm)
                go_simp
                clear hHeld
                refine hK.out _ _ (KS.out _ Bp1_4_8_2_6) (fun hHeld => ?_)
                clear hK K
                try simp only [Act.put, List.setIfInBounds_toArray, List.set_cons_zero, List.set_cons_succ]
                refine take_at (i := 7) (v := ?_) (some 40) rfl (by kernel_rfl) (by kernel_rfl) (by kernel_rfl) (fun _ _ _ h => h) (by kernel_rfl) (Or.inl ⟨by kernel_rfl, ?_⟩) (by assumption) ?_
                rotate_left
                · (intro w hSw; (try dsimp only at hSw); go_simp <;> with_reducible rfl)
                simp only [Act.put, List.setIfInBounds_toArray, List.set_cons_zero, List.set_cons_succ]
                refine wpAnyH_ready (rs := [9]) (by kernel_rfl) (by simp) ?_
                refine AllReadyH.cons rfl (fun K hK => ?_) AllReadyH.nil
                refine wp_store_row 62 _ _ rfl vp1_4.heap.size #[.int .u8 193, .int .u8 0, .slice Ab 4 cb, .slice A6 (1 + ll) c6] rfl rfl _ _ Zp1_4_8_2_6 (by kernel_rfl) rfl (by simp [Value.oneCell']) ?_
                have R9 := want18 (ll := ll) (X := X) Bp1_4_8_2_6 Bp1_4.size Zp1_4_8_2_6 Op1_4_8_2_6 Np1_4_8_2_6 (HCK.out w4 B4 Ab A6 cb c6)
                clear hHeld
                refine hK.out _ _ (KS.out _ R9.low) (fun hHeld => ?_)
                clear hK K
                try simp only [Act.put, List.setIfInBounds_toArray, List.set_cons_zero, List.set_cons_succ]
                refine wpAnyH_done (by kernel_rfl) ?_ _
                go_wp2_with fail
                go_meet
                exact ⟨vp1_4.heap.size, Ab, cb, A6, c6, rfl, Lib.hid R9⟩
            · go_simp
              have bp1_8 : Below vp1.heap.size vp1 (vp1.alloc (.cells #[.int .u8 0, .int .u8 0, .slice none 0 0, .slice none 0 0] 62)) := (Below.refl _ vp1).alloc (Nat.le_refl _) _
              have Zp1_8 := Whole.new vp1 62 #[.int .u8 0, .int .u8 0, .slice none 0 0, .slice none 0 0]
              have Bp1_8 := Bp1.trans (bp1_8.mono Bp1.size)
              have Lp1_8 := (Lp1.below bp1_8).more bp1_8.size
              generalize (vp1.alloc (.cells #[.int .u8 0, .int .u8 0, .slice none 0 0, .slice none 0 0] 62)) = vp1_8 at *
              clear hHeld
              refine hK.out _ _ (KS.out _ Bp1_8) (fun hHeld => ?_)
              clear hK K
              try simp only [Act.put, List.setIfInBounds_toArray, List.set_cons_zero, List.set_cons_succ]
              refine wpAnyH_ready (rs := [2, 4]) (by kernel_rfl) (by simp) ?_
              refine AllReadyH.cons rfl (fun K hK => ?_) (AllReadyH.cons rfl (fun K hK => ?_) AllReadyH.nil)
              · go_simp
                (with_reducible refine (HPU.out vp1_8 _ Lp1_8).mono ?_); rintro e vp1_8_2 ⟨Ab, cb, rfl, op1_8_2, bp1_8_2⟩
                go_wp2_with fail
                have Bp1_8_2 := Bp1_8.trans (bp1_8_2.mono Bp1_8.size)
                have Zp1_8_2 := Zp1_8.below bp1_8_2 Zp1_8.lt
                have Op1_8_2 := own_base op1_8_2 Bp1_8.size
                clear hHeld
                refine hK.out _ _ (KS.out _ Bp1_8_2) (fun hHeld => ?_)
                clear hK K
                try simp only [Act.put, List.setIfInBounds_toArray, List.set_cons_zero, List.set_cons_succ]
                refine wpAnyH_ready (rs := [4]) (by kernel_rfl) (by simp) ?_
                refine AllReadyH.cons rfl (fun K hK => ?_) AllReadyH.nil
                go_simp
                have bp1_8_2_4 : Below vp1_8_2.heap.size vp1_8_2 (vp1_8_2.alloc (.cells #[hv ta, .slice A la c, .slice Ak lka k] 51)) := (Below.refl _ vp1_8_2).alloc (Nat.le_refl _) _
                have Wp1_8_2_4 := Whole.new vp1_8_2 51 #[hv ta, .slice A la c, .slice Ak lka k]
                have Bp1_8_2_4 := Bp1_8_2.trans (bp1_8_2_4.mono Bp1_8_2.size)
                have Op1_8_2_4 := own_belowW18 Op1_8_2 bp1_8_2_4
                have Zp1_8_2_4 := Zp1_8_2.below bp1_8_2_4 Zp1_8_2.lt
                generalize (vp1_8_2.alloc (.cells #[hv ta, .slice A la c, .slice Ak lka k] 51)) = vp1_8_2_4 at *
                clear hHeld
                refine hK.out _ _ (KS.out _ Bp1_8_2_4) (fun hHeld => ?_)
                clear hK K
                try simp only [Act.put, List.setIfInBounds_toArray, List.set_cons_zero, List.set_cons_succ]
                refine wpAnyH_ready (rs := [6]) (by kernel_rfl) (by simp) ?_
                refine AllReadyH.cons rfl (fun K hK => ?_) AllReadyH.nil
                have hgp1_8_2_4_6 : w4.heap.size ≤ vp1_8_2.heap.size := Bp1_8_2.size
                have rp1_8_2_4_6 : vp1_8_2_4.ownsRow vp1_8_2.heap.size 51 3 (.slice (some ⟨vp1_8_2.heap.size, 0, none⟩) 1 1) 1 [hv ta, .slice A la c, .slice Ak lka k] := own_whole18 Wp1_8_2_4 (Nat.le_refl _)
                have hlp1_8_2_4_6 := HL2.out
                refine wp_append_w18 (.tmp 37) (.tmp 38) 49 rfl vp1_8_2.heap.size 51 _ 3 56 Tryz.underlying49 ndinfo18 rfl (by omega) (.slice (some ⟨vp1_8_2.heap.size, 0, none⟩) 1 1) 1 _ rfl rp1_8_2_4_6 w.heap.size L ll m vs rfl HVN.out (HVS.out vp1_8_2_4 (B4.trans (Bp1_8_2_4.mono B4.size))) HON.out (by omega) (by unfold maxLen; omega) (Nat.le_of_lt Wp1_8_2_4.lt) ?_
                intro up1_8_2_4_6 vp1_8_2_4_6 ownp1_8_2_4_6 grp1_8_2_4_6
                obtain ⟨A6, c6, rfl⟩ := own_slice ownp1_8_2_4_6
                have Bp1_8_2_4_6 := Bp1_8_2_4.grown grp1_8_2_4_6 Bp1_8_2_4.size (fun r e => by have e2 := Option.some.inj (show some vp1_8_2.heap.size = some r from e); omega)
                have Op1_8_2_4_6 := Op1_8_2_4.kept grp1_8_2_4_6 (.inr (fun e => whole_row_ne Wp1_8_2_4 (by decide) Op1_8_2_4 e))
                have Np1_8_2_4_6 := own_baseR18 ownp1_8_2_4_6 hgp1_8_2_4_6
                have Zp1_8_2_4_6 := Zp1_8_2_4.grown grp1_8_2_4_6 (fun e => whole_row_ne Zp1_8_2_4 (by decide) rp1_8_2_4_6 e.symm)
                go_simp
                clear hHeld
                refine hK.out _ _ (KS.out _ Bp1_8_2_4_6) (fun hHeld => ?_)
                clear hK K
                try simp only [Act.put, List.setIfInBounds_toArray, List.set_cons_zero, List.set_cons_succ]
                refine take_at (i := 7) (v := ?_) (some 40) rfl (by kernel_rfl) (by kernel_rfl) (by kernel_rfl) (fun _ _ _ h => h) (by kernel_rfl) (Or.inl ⟨by kernel_rfl, ?_⟩) (by assumption) ?_
                rotate_left
                · (intro w hSw; (try dsimp only at hSw); go_simp <;> with_reducible rfl)
                simp only [Act.put, List.setIfInBounds_toArray, List.set_cons_zero, List.set_cons_succ]
                refine wpAnyH_ready (rs := [9]) (by kernel_rfl) (by simp) ?_
                refine AllReadyH.cons rfl (fun K hK => ?_) AllReadyH.nil
                refine wp_store_row 62 _ _ rfl vp1.heap.size #[.int .u8 193, .int .u8 0, .slice Ab 4 cb, .slice A6 (1 + ll) c6] rfl rfl _ _ Zp1_8_2_4_6 (by kernel_rfl) rfl (by simp [Value.oneCell']) ?_
                have R9 := want18 (ll := ll) (X := X) Bp1_8_2_4_6 Bp1.size Zp1_8_2_4_6 Op1_8_2_4_6 Np1_8_2_4_6 (HCK.out w4 B4 Ab A6 cb c6)
                clear hHeld
                refine hK.out _ _ (KS.out _ R9.low) (fun hHeld => ?_)
                clear hK K
                try simp only [Act.put, List.setIfInBounds_toArray, List.set_cons_zero, List.set_cons_succ]
                refine wpAnyH_done (by kernel_rfl) ?_ _
                go_wp2_with fail
                go_meet
                exact ⟨vp1.heap.size, Ab, cb, A6, c6, rfl, Lib.hid R9⟩
              · go_simp
                have bp1_8_4 : Below vp1_8.heap.size vp1_8 (vp1_8.alloc (.cells #[hv ta, .slice A la c, .slice Ak lka k] 51)) := (Below.refl _ vp1_8).alloc (Nat.le_refl _) _
                have Wp1_8_4 := Whole.new vp1_8 51 #[hv ta, .slice A la c, .slice Ak lka k]
                have Bp1_8_4 := Bp1_8.trans (bp1_8_4.mono Bp1_8.size)
                have Lp1_8_4 := (Lp1_8.below bp1_8_4).more bp1_8_4.size
                have Zp1_8_4 := Zp1_8.below bp1_8_4 Zp1_8.lt
                generalize (vp1_8.alloc (.cells #[hv ta, .slice A la c, .slice Ak lka k] 51)) = vp1_8_4 at *
                clear hHeld
                refine hK.out _ _ (KS.out _ Bp1_8_4) (fun hHeld => ?_)
                clear hK K
                try simp only [Act.put, List.setIfInBounds_toArray, List.set_cons_zero, List.set_cons_succ]
                refine wpAnyH_ready (rs := [2]) (by kernel_rfl) (by simp) ?_
                refine AllReadyH.cons rfl (fun K hK => ?_) AllReadyH.nil
                go_simp
                (with_reducible refine (HPU.out vp1_8_4 _ Lp1_8_4).mono ?_); rintro e vp1_8_4_2 ⟨Ab, cb, rfl, op1_8_4_2, bp1_8_4_2⟩
                go_wp2_with fail
                have Bp1_8_4_2 := Bp1_8_4.trans (bp1_8_4_2.mono Bp1_8_4.size)
                have Wp1_8_4_2 := Wp1_8_4.below bp1_8_4_2 Wp1_8_4.lt
                have Zp1_8_4_2 := Zp1_8_4.below bp1_8_4_2 Zp1_8_4.lt
                have Op1_8_4_2 := own_base op1_8_4_2 Bp1_8_4.size
                clear hHeld
                refine hK.out _ _ (KS.out _ Bp1_8_4_2) (fun hHeld => ?_)
                clear hK K
                try simp only [Act.put, List.setIfInBounds_toArray, List.set_cons_zero, List.set_cons_succ]
                refine wpAnyH_ready (rs := [6]) (by kernel_rfl) (by simp) ?_
                refine AllReadyH.cons rfl (fun K hK => ?_) AllReadyH.nil
                have hgp1_8_4_2_6 : w4.heap.size ≤ vp1_8.heap.size := Bp1_8.size
                have rp1_8_4_2_6 : vp1_8_4_2.ownsRow vp1_8.heap.size 51 3 (.slice (some ⟨vp1_8.heap.size, 0, none⟩) 1 1) 1 [hv ta, .slice A la c, .slice Ak lka k] := own_whole18 Wp1_8_4_2 (Nat.le_refl _)
                have hlp1_8_4_2_6 := HL2.out
                refine wp_append_w18 (.tmp 37) (.tmp 38) 49 rfl vp1_8.heap.size 51 _ 3 56 Tryz.underlying49 ndinfo18 rfl (by omega) (.slice (some ⟨vp1_8.heap.size, 0, none⟩) 1 1) 1 _ rfl rp1_8_4_2_6 w.heap.size L ll m vs rfl HVN.out (HVS.out vp1_8_4_2 (B4.trans (Bp1_8_4_2.mono B4.size))) HON.out (by omega) (by unfold maxLen; omega) (Nat.le_of_lt Wp1_8_4_2.lt) ?_
                intro up1_8_4_2_6 vp1_8_4_2_6 ownp1_8_4_2_6 grp1_8_4_2_6
                obtain ⟨A6, c6, rfl⟩ := own_slice ownp1_8_4_2_6
                have Bp1_8_4_2_6 := Bp1_8_4_2.grown grp1_8_4_2_6 Bp1_8_4_2.size (fun r e => by have e2 := Option.some.inj (show some vp1_8.heap.size = some r from e); omega)
                have Op1_8_4_2_6 := Op1_8_4_2.kept grp1_8_4_2_6 (.inr (fun e => whole_row_ne Wp1_8_4_2 (by decide) Op1_8_4_2 e))
                have Np1_8_4_2_6 := own_baseR18 ownp1_8_4_2_6 hgp1_8_4_2_6
                have Zp1_8_4_2_6 := Zp1_8_4_2.grown grp1_8_4_2_6 (fun e => whole_row_ne Zp1_8_4_2 (by decide) rp1_8_4_2_6 e.symm)
                go_simp
                clear hHeld
                refine hK.out _ _ (KS.out _ Bp1_8_4_2_6) (fun hHeld => ?_)
                clear hK K
                try simp only [Act.put, List.setIfInBounds_toArray, List.set_cons_zero, List.set_cons_succ]
                refine take_at (i := 7) (v := ?_) (some 40) rfl (by kernel_rfl) (by kernel_rfl) (by kernel_rfl) (fun _ _ _ h => h) (by kernel_rfl) (Or.inl ⟨by kernel_rfl, ?_⟩) (by assumption) ?_
                rotate_left
                · (intro w hSw; (try dsimp only at hSw); go_simp <;> with_reducible rfl)
                simp only [Act.put, List.setIfInBounds_toArray, List.set_cons_zero, List.set_cons_succ]
                refine wpAnyH_ready (rs := [9]) (by kernel_rfl) (by simp) ?_
                refine AllReadyH.cons rfl (fun K hK => ?_) AllReadyH.nil
                refine wp_store_row 62 _ _ rfl vp1.heap.size #[.int .u8 193, .int .u8 0, .slice Ab 4 cb, .slice A6 (1 + ll) c6] rfl rfl _ _ Zp1_8_4_2_6 (by kernel_rfl) rfl (by simp [Value.oneCell']) ?_
                have R9 := want18 (ll := ll) (X := X) Bp1_8_4_2_6 Bp1.size Zp1_8_4_2_6 Op1_8_4_2_6 Np1_8_4_2_6 (HCK.out w4 B4 Ab A6 cb c6)
                clear hHeld
                refine hK.out _ _ (KS.out _ R9.low) (fun hHeld => ?_)
                clear hK K
                try simp only [Act.put, List.setIfInBounds_toArray, List.set_cons_zero, List.set_cons_succ]
                refine wpAnyH_done (by kernel_rfl) ?_ _
                go_wp2_with fail
                go_meet
                exact ⟨vp1.heap.size, Ab, cb, A6, c6, rfl, Lib.hid R9⟩
          · go_simp
            have bp4 : Below vp.heap.size vp (vp.alloc (.cells #[hv ta, .slice A la c, .slice Ak lka k] 51)) := (Below.refl _ vp).alloc (Nat.le_refl _) _
            have Wp4 := Whole.new vp 51 #[hv ta, .slice A la c, .slice Ak lka k]
            have Bp4 := Bp.trans (bp4.mono Bp.size)
            generalize (vp.alloc (.cells #[hv ta, .slice A la c, .slice Ak lka k] 51)) = vp4 at *
            clear hHeld
            refine hK.out _ _ (KS.out _ Bp4) (fun hHeld => ?_)
            clear hK K
            try simp only [Act.put, List.setIfInBounds_toArray, List.set_cons_zero, List.set_cons_succ]
            refine wpAnyH_ready (rs := [1, 8]) (by kernel_rfl) (by simp) ?_
            refine AllReadyH.cons rfl (fun K hK => ?_) (AllReadyH.cons rfl (fun K hK => ?_) AllReadyH.nil)
            · go_simp
              have bp4_1 : Below vp4.heap.size vp4 (vp4.alloc (.cells #[uv s] 22)) := (Below.refl _ vp4).alloc (Nat.le_refl _) _
              have Lp4_1 : Lies (vp4.alloc (.cells #[uv s] 22)) (vp4.alloc (.cells #[uv s] 22)).heap.size (some ⟨vp4.heap.size, 0, none⟩) [uv s] := (Lies.newN vp4 [uv s] _).more (by simp)
              have Bp4_1 := Bp4.trans (bp4_1.mono Bp4.size)
              have Wp4_1 := Wp4.below bp4_1 Wp4.lt
              generalize (vp4.alloc (.cells #[uv s] 22)) = vp4_1 at *
              clear hHeld
              refine hK.out _ _ (KS.out _ Bp4_1) (fun hHeld => ?_)
              clear hK K
              try simp only [Act.put, List.setIfInBounds_toArray, List.set_cons_zero, List.set_cons_succ]
              refine wpAnyH_ready (rs := [2, 8]) (by kernel_rfl) (by simp) ?_
              refine AllReadyH.cons rfl (fun K hK => ?_) (AllReadyH.cons rfl (fun K hK => ?_) AllReadyH.nil)
              · go_simp
                (with_reducible refine (HPU.out vp4_1 _ Lp4_1).mono ?_); rintro e vp4_1_2 ⟨Ab, cb, rfl, op4_1_2, bp4_1_2⟩
                go_wp2_with fail
                have Bp4_1_2 := Bp4_1.trans (bp4_1_2.mono Bp4_1.size)
                have Wp4_1_2 := Wp4_1.below bp4_1_2 Wp4_1.lt
                have Op4_1_2 := own_base op4_1_2 Bp4_1.size
                clear hHeld
                refine hK.out _ _ (KS.out _ Bp4_1_2) (fun hHeld => ?_)
                clear hK K
                try simp only [Act.put, List.setIfInBounds_toArray, List.set_cons_zero, List.set_cons_succ]
                refine wpAnyH_ready (rs := [6, 8]) (by kernel_rfl) (by simp) ?_
                refine AllReadyH.cons rfl (fun K hK => ?_) (AllReadyH.cons rfl (fun K hK => ?_) AllReadyH.nil)
                · have hgp4_1_2_6 : w4.heap.size ≤ vp.heap.size := Bp.size
                  have rp4_1_2_6 : vp4_1_2.ownsRow vp.heap.size 51 3 (.slice (some ⟨vp.heap.size, 0, none⟩) 1 1) 1 [hv ta, .slice A la c, .slice Ak lka k] := own_whole18 Wp4_1_2 (Nat.le_refl _)
                  have hlp4_1_2_6 := HL2.out
                  refine wp_append_w18 (.tmp 37) (.tmp 38) 49 rfl vp.heap.size 51 _ 3 56 Tryz.underlying49 ndinfo18 rfl (by omega) (.slice (some ⟨vp.heap.size, 0, none⟩) 1 1) 1 _ rfl rp4_1_2_6 w.heap.size L ll m vs rfl HVN.out (HVS.out vp4_1_2 (B4.trans (Bp4_1_2.mono B4.size))) HON.out (by omega) (by unfold maxLen; omega) (Nat.le_of_lt Wp4_1_2.lt) ?_
                  intro up4_1_2_6 vp4_1_2_6 ownp4_1_2_6 grp4_1_2_6
                  obtain ⟨A6, c6, rfl⟩ := own_slice ownp4_1_2_6
                  have Bp4_1_2_6 := Bp4_1_2.grown grp4_1_2_6 Bp4_1_2.size (fun r e => by have e2 := Option.some.inj (show some vp.heap.size = some r from e); omega)
                  have Op4_1_2_6 := Op4_1_2.kept grp4_1_2_6 (.inr (fun e => whole_row_ne Wp4_1_2 (by decide) Op4_1_2 e))
                  have Np4_1_2_6 := own_baseR18 ownp4_1_2_6 hgp4_1_2_6
                  go_simp
                  clear hHeld
                  refine hK.out _ _ (KS.out _ Bp4_1_2_6) (fun hHeld => ?_)
                  clear hK K
                  try simp only [Act.put, List.setIfInBounds_toArray, List.set_cons_zero, List.set_cons_succ]
                  refine take_at (i := 7) (v := ?_) (some 40) rfl (by kernel_rfl) (by kernel_rfl) (by kernel_rfl) (fun _ _ _ h => h) (by kernel_rfl) (Or.inl ⟨by kernel_rfl, ?_⟩) (by assumption) ?_
                  rotate_left
                  · (intro w hSw; (try dsimp only at hSw); go_simp <;> with_reducible rfl)
                  simp only [Act.put, List.setIfInBounds_toArray, List.set_cons_zero, List.set_cons_succ]
                  refine wpAnyH_ready (rs := [8]) (by kernel_rfl) (by simp) ?_
                  refine AllReadyH.cons rfl (fun K hK => ?_) AllReadyH.nil
                  go_simp
                  have bp4_1_2_6_8 : Below vp4_1_2_6.heap.size vp4_1_2_6 (vp4_1_2_6.alloc (.cells #[.int .u8 0, .int .u8 0, .slice none 0 0, .slice none 0 0] 62)) := (Below.refl _ vp4_1_2_6).alloc (Nat.le_refl _) _
                  have Zp4_1_2_6_8 := Whole.new vp4_1_2_6 62 #[.int .u8 0, .int .u8 0, .slice none 0 0, .slice none 0 0]
                  have Bp4_1_2_6_8 := Bp4_1_2_6.trans (bp4_1_2_6_8.mono Bp4_1_2_6.size)
                  have Op4_1_2_6_8 := own_belowW18 Op4_1_2_6 bp4_1_2_6_8
                  have Np4_1_2_6_8 := own_belowW18 Np4_1_2_6 bp4_1_2_6_8
                  generalize (vp4_1_2_6.alloc (.cells #[.int .u8 0, .int .u8 0, .slice none 0 0, .slice none 0 0] 62)) = vp4_1_2_6_8 at *
                  clear hHeld
                  refine hK.out _ _ (KS.out _ Bp4_1_2_6_8) (fun hHeld => ?_)
                  clear hK K
                  try simp only [Act.put, List.setIfInBounds_toArray, List.set_cons_zero, List.set_cons_succ]
                  refine wpAnyH_ready (rs := [9]) (by kernel_rfl) (by simp) ?_
                  refine AllReadyH.cons rfl (fun K hK => ?_) AllReadyH.nil
                  refine wp_store_row 62 _ _ rfl vp4_1_2_6.heap.size #[.int .u8 193, .int .u8 0, .slice Ab 4 cb, .slice A6 (1 + ll) c6] rfl rfl _ _ Zp4_1_2_6_8 (by kernel_rfl) rfl (by simp [Value.oneCell']) ?_
                  have R9 := want18 (ll := ll) (X := X) Bp4_1_2_6_8 Bp4_1_2_6.size Zp4_1_2_6_8 Op4_1_2_6_8 Np4_1_2_6_8 (HCK.out w4 B4 Ab A6 cb c6)
                  clear hHeld
                  refine hK.out _ _ (KS.out _ R9.low) (fun hHeld => ?_)
                  clear hK K
                  try simp only [Act.put, List.setIfInBounds_toArray, List.set_cons_zero, List.set_cons_succ]
                  refine wpAnyH_done (by kernel_rfl) ?_ _
                  go_wp2_with fail
                  go_meet
                  exact ⟨vp4_1_2_6.heap.size, Ab, cb, A6, c6, rfl, Lib.hid R9⟩
                · go_simp
                  have bp4_1_2_8 : Below vp4_1_2.heap.size vp4_1_2 (vp4_1_2.alloc (.cells #[.int .u8 0, .int .u8 0, .slice none 0 0, .slice none 0 0] 62)) := (Below.refl _ vp4_1_2).alloc (Nat.le_refl _) _
                  have Zp4_1_2_8 := Whole.new vp4_1_2 62 #[.int .u8 0, .int .u8 0, .slice none 0 0, .slice none 0 0]
                  have Bp4_1_2_8 := Bp4_1_2.trans (bp4_1_2_8.mono Bp4_1_2.size)
                  have Op4_1_2_8 := own_belowW18 Op4_1_2 bp4_1_2_8
                  have Wp4_1_2_8 := Wp4_1_2.below bp4_1_2_8 Wp4_1_2.lt
                  generalize (vp4_1_2.alloc (.cells #[.int .u8 0, .int .u8 0, .slice none 0 0, .slice none 0 0] 62)) = vp4_1_2_8 at *
                  clear hHeld
                  refine hK.out _ _ (KS.out _ Bp4_1_2_8) (fun hHeld => ?_)
                  clear hK K
                  try simp only [Act.put, List.setIfInBounds_toArray, List.set_cons_zero, List.set_cons_succ]
                  refine wpAnyH_ready (rs := [6]) (by kernel_rfl) (by simp) ?_
                  refine AllReadyH.cons rfl (fun K hK => ?_) AllReadyH.nil
                  have hgp4_1_2_8_6 : w4.heap.size ≤ vp.heap.size := Bp.size
                  have rp4_1_2_8_6 : vp4_1_2_8.ownsRow vp.heap.size 51 3 (.slice (some ⟨vp.heap.size, 0, none⟩) 1 1) 1 [hv ta, .slice A la c, .slice Ak lka k] := own_whole18 Wp4_1_2_8 (Nat.le_refl _)
                  have hlp4_1_2_8_6 := HL2.out
                  refine wp_append_w18 (.tmp 37) (.tmp 38) 49 rfl vp.heap.size 51 _ 3 56 Tryz.underlying49 ndinfo18 rfl (by omega) (.slice (some ⟨vp.heap.size, 0, none⟩) 1 1) 1 _ rfl rp4_1_2_8_6 w.heap.size L ll m vs rfl HVN.out (HVS.out vp4_1_2_8 (B4.trans (Bp4_1_2_8.mono B4.size))) HON.out (by omega) (by unfold maxLen; omega) (Nat.le_of_lt Wp4_1_2_8.lt) ?_
                  intro up4_1_2_8_6 vp4_1_2_8_6 ownp4_1_2_8_6 grp4_1_2_8_6
                  obtain ⟨A6, c6, rfl⟩ := own_slice ownp4_1_2_8_6
                  have Bp4_1_2_8_6 := Bp4_1_2_8.grown grp4_1_2_8_6 Bp4_1_2_8.size (fun r e => by have e2 := Option.some.inj (show some vp.heap.size = some r from e); omega)
                  have Op4_1_2_8_6 := Op4_1_2_8.kept grp4_1_2_8_6 (.inr (fun e => whole_row_ne Wp4_1_2_8 (by decide) Op4_1_2_8 e))
                  have Np4_1_2_8_6 := own_baseR18 ownp4_1_2_8_6 hgp4_1_2_8_6
                  have Zp4_1_2_8_6 := Zp4_1_2_8.grown grp4_1_2_8_6 (fun e => whole_row_ne Zp4_1_2_8 (by decide) rp4_1_2_8_6 e.symm)
                  go_simp
                  clear hHeld
                  refine hK.out _ _ (KS.out _ Bp4_1_2_8_6) (fun hHeld => ?_)
                  clear hK K
                  try simp only [Act.put, List.setIfInBounds_toArray, List.set_cons_zero, List.set_cons_succ]
                  refine take_at (i := 7) (v := ?_) (some 40) rfl (by kernel_rfl) (by kernel_rfl) (by kernel_rfl) (fun _ _ _ h => h) (by kernel_rfl) (Or.inl ⟨by kernel_rfl, ?_⟩) (by assumption) ?_
                  rotate_left
                  · (intro w hSw; (try dsimp only at hSw); go_simp <;> with_reducible rfl)
                  simp only [Act.put, List.setIfInBounds_toArray, List.set_cons_zero, List.set_cons_succ]
                  refine wpAnyH_ready (rs := [9]) (by kernel_rfl) (by simp) ?_
                  refine AllReadyH.cons rfl (fun K hK => ?_) AllReadyH.nil
                  refine wp_store_row 62 _ _ rfl vp4_1_2.heap.size #[.int .u8 193, .int .u8 0, .slice Ab 4 cb, .slice A6 (1 + ll) c6] rfl rfl _ _ Zp4_1_2_8_6 (by kernel_rfl) rfl (by simp [Value.oneCell']) ?_
                  have R9 := want18 (ll := ll) (X := X) Bp4_1_2_8_6 Bp4_1_2.size Zp4_1_2_8_6 Op4_1_2_8_6 Np4_1_2_8_6 (HCK.out w4 B4 Ab A6 cb c6)
                  clear hHeld
                  refine hK.out _ _ (KS.out _ R9.low) (fun hHeld => ?_)
                  clear hK K
                  try simp only [Act.put, List.setIfInBounds_toArray, List.set_cons_zero, List.set_cons_succ]
                  refine wpAnyH_done (by kernel_rfl) ?_ _
                  go_wp2_with fail
                  go_meet
                  exact ⟨vp4_1_2.heap.size, Ab, cb, A6, c6, rfl, Lib.hid R9⟩
              · go_simp
                have bp4_1_8 : Below vp4_1.heap.size vp4_1 (vp4_1.alloc (.cells #[.int .u8 0, .int .u8 0, .slice none 0 0, .slice none 0 0] 62)) := (Below.refl _ vp4_1).alloc (Nat.le_refl _) _
                have Zp4_1_8 := Whole.new vp4_1 62 #[.int .u8 0, .int .u8 0, .slice none 0 0, .slice none 0 0]
                have Bp4_1_8 := Bp4_1.trans (bp4_1_8.mono Bp4_1.size)
                have Lp4_1_8 := (Lp4_1.below bp4_1_8).more bp4_1_8.size
                have Wp4_1_8 := Wp4_1.below bp4_1_8 Wp4_1.lt
                generalize (vp4_1.alloc (.cells #[.int .u8 0, .int .u8 0, .slice none 0 0, .slice none 0 0] 62)) = vp4_1_8 at *
                clear hHeld
                refine hK.out _ _ (KS.out _ Bp4_1_8) (fun hHeld => ?_)
                clear hK K
                try simp only [Act.put, List.setIfInBounds_toArray, List.set_cons_zero, List.set_cons_succ]
                refine wpAnyH_ready (rs := [2]) (by kernel_rfl) (by simp) ?_
                refine AllReadyH.cons rfl (fun K hK => ?_) AllReadyH.nil
                go_simp
                (with_reducible refine (HPU.out vp4_1_8 _ Lp4_1_8).mono ?_); rintro e vp4_1_8_2 ⟨Ab, cb, rfl, op4_1_8_2, bp4_1_8_2⟩
                go_wp2_with fail
                have Bp4_1_8_2 := Bp4_1_8.trans (bp4_1_8_2.mono Bp4_1_8.size)
                have Wp4_1_8_2 := Wp4_1_8.below bp4_1_8_2 Wp4_1_8.lt
                have Zp4_1_8_2 := Zp4_1_8.below bp4_1_8_2 Zp4_1_8.lt
                have Op4_1_8_2 := own_base op4_1_8_2 Bp4_1_8.size
                clear hHeld
                refine hK.out _ _ (KS.out _ Bp4_1_8_2) (fun hHeld => ?_)
                clear hK K
                try simp only [Act.put, List.setIfInBounds_toArray, List.set_cons_zero, List.set_cons_succ]
                refine wpAnyH_ready (rs := [6]) (by kernel_rfl) (by simp) ?_
                refine AllReadyH.cons rfl (fun K hK => ?_) AllReadyH.nil
                have hgp4_1_8_2_6 : w4.heap.size ≤ vp.heap.size := Bp.size
                have rp4_1_8_2_6 : vp4_1_8_2.ownsRow vp.heap.size 51 3 (.slice (some ⟨vp.heap.size, 0, none⟩) 1 1) 1 [hv ta, .slice A la c, .slice Ak lka k] := own_whole18 Wp4_1_8_2 (Nat.le_refl _)
                have hlp4_1_8_2_6 := HL2.out
                refine wp_append_w18 (.tmp 37) (.tmp 38) 49 rfl vp.heap.size 51 _ 3 56 Tryz.underlying49 ndinfo18 rfl (by omega) (.slice (some ⟨vp.heap.size, 0, none⟩) 1 1) 1 _ rfl rp4_1_8_2_6 w.heap.size L ll m vs rfl HVN.out (HVS.out vp4_1_8_2 (B4.trans (Bp4_1_8_2.mono B4.size))) HON.out (by omega) (by unfold maxLen; omega) (Nat.le_of_lt Wp4_1_8_2.lt) ?_
                intro up4_1_8_2_6 vp4_1_8_2_6 ownp4_1_8_2_6 grp4_1_8_2_6
                obtain ⟨A6, c6, rfl⟩ := own_slice ownp4_1_8_2_6
                have Bp4_1_8_2_6 := Bp4_1_8_2.grown grp4_1_8_2_6 Bp4_1_8_2.size (fun r e => by have e2 := Option.some.inj (show some vp.heap.size = some r from e); omega)
                have Op4_1_8_2_6 := Op4_1_8_2.kept grp4_1_8_2_6 (.inr (fun e => whole_row_ne Wp4_1_8_2 (by decide) Op4_1_8_2 e))
                have Np4_1_8_2_6 := own_baseR18 ownp4_1_8_2_6 hgp4_1_8_2_6
                have Zp4_1_8_2_6 := Zp4_1_8_2.grown grp4_1_8_2_6 (fun e => whole_row_ne Zp4_1_8_2 (by decide) rp4_1_8_2_6 e.symm)
                go_simp
                clear hHeld
                refine hK.out _ _ (KS.out _ Bp4_1_8_2_6) (fun hHeld => ?_)
                clear hK K
                try simp only [Act.put, List.setIfInBounds_toArray, List.set_cons_zero, List.set_cons_succ]
                refine take_at (i := 7) (v := ?_) (some 40) rfl (by kernel_rfl) (by kernel_rfl) (by kernel_rfl) (fun _ _ _ h => h) (by kernel_rfl) (Or.inl ⟨by kernel_rfl, ?_⟩) (by assumption) ?_
                rotate_left
                · (intro w hSw; (try dsimp only at hSw); go_simp <;> with_reducible rfl)
                simp only [Act.put, List.setIfInBounds_toArray, List.set_cons_zero, List.set_cons_succ]
                refine wpAnyH_ready (rs := [9]) (by kernel_rfl) (by simp) ?_
                refine AllReadyH.cons rfl (fun K hK => ?_) AllReadyH.nil
                refine wp_store_row 62 _ _ rfl vp4_1.heap.size #[.int .u8 193, .int .u8 0, .slice Ab 4 cb, .slice A6 (1 + ll) c6] rfl rfl _ _ Zp4_1_8_2_6 (by kernel_rfl) rfl (by simp [Value.oneCell']) ?_
                have R9 := want18 (ll := ll) (X := X) Bp4_1_8_2_6 Bp4_1.size Zp4_1_8_2_6 Op4_1_8_2_6 Np4_1_8_2_6 (HCK.out w4 B4 Ab A6 cb c6)
                clear hHeld
                refine hK.out _ _ (KS.out _ R9.low) (fun hHeld => ?_)
                clear hK K
                try simp only [Act.put, List.setIfInBounds_toArray, List.set_cons_zero, List.set_cons_succ]
                refine wpAnyH_done (by kernel_rfl) ?_ _
                go_wp2_with fail
                go_meet
                exact ⟨vp4_1.heap.size, Ab, cb, A6, c6, rfl, Lib.hid R9⟩
            · go_simp
              have bp4_8 : Below vp4.heap.size vp4 (vp4.alloc (.cells #[.int .u8 0, .int .u8 0, .slice none 0 0, .slice none 0 0] 62)) := (Below.refl _ vp4).alloc (Nat.le_refl _) _
              have Zp4_8 := Whole.new vp4 62 #[.int .u8 0, .int .u8 0, .slice none 0 0, .slice none 0 0]
              have Bp4_8 := Bp4.trans (bp4_8.mono Bp4.size)
              have Wp4_8 := Wp4.below bp4_8 Wp4.lt
              generalize (vp4.alloc (.cells #[.int .u8 0, .int .u8 0, .slice none 0 0, .slice none 0 0] 62)) = vp4_8 at *
              clear hHeld
              refine hK.out _ _ (KS.out _ Bp4_8) (fun hHeld => ?_)
              clear hK K
              try simp only [Act.put, List.setIfInBounds_toArray, List.set_cons_zero, List.set_cons_succ]
              refine wpAnyH_ready (rs := [1]) (by kernel_rfl) (by simp) ?_
              refine AllReadyH.cons rfl (fun K hK => ?_) AllReadyH.nil
              go_simp
              have bp4_8_1 : Below vp4_8.heap.size vp4_8 (vp4_8.alloc (.cells #[uv s] 22)) := (Below.refl _ vp4_8).alloc (Nat.le_refl _) _
              have Lp4_8_1 : Lies (vp4_8.alloc (.cells #[uv s] 22)) (vp4_8.alloc (.cells #[uv s] 22)).heap.size (some ⟨vp4_8.heap.size, 0, none⟩) [uv s] := (Lies.newN vp4_8 [uv s] _).more (by simp)
              have Bp4_8_1 := Bp4_8.trans (bp4_8_1.mono Bp4_8.size)
              have Wp4_8_1 := Wp4_8.below bp4_8_1 Wp4_8.lt
              have Zp4_8_1 := Zp4_8.below bp4_8_1 Zp4_8.lt
              generalize (vp4_8.alloc (.cells #[uv s] 22)) = vp4_8_1 at *
              clear hHeld
              refine hK.out _ _ (KS.out _ Bp4_8_1) (fun hHeld => ?_)
              clear hK K
              try simp only [Act.put, List.setIfInBounds_toArray, List.set_cons_zero, List.set_cons_succ]
              refine wpAnyH_ready (rs := [2]) (by kernel_rfl) (by simp) ?_
              refine AllReadyH.cons rfl (fun K hK => ?_) AllReadyH.nil
              go_simp
              (with_reducible refine (HPU.out vp4_8_1 _ Lp4_8_1).mono ?_); rintro e vp4_8_1_2 ⟨Ab, cb, rfl, op4_8_1_2, bp4_8_1_2⟩
              go_wp2_with fail
              have Bp4_8_1_2 := Bp4_8_1.trans (bp4_8_1_2.mono Bp4_8_1.size)
              have Wp4_8_1_2 := Wp4_8_1.below bp4_8_1_2 Wp4_8_1.lt
              have Zp4_8_1_2 := Zp4_8_1.below bp4_8_1_2 Zp4_8_1.lt
              have Op4_8_1_2 := own_base op4_8_1_2 Bp4_8_1.size
              clear hHeld
              refine hK.out _ _ (KS.out _ Bp4_8_1_2) (fun hHeld => ?_)
              clear hK K
              try simp only [Act.put, List.setIfInBounds_toArray, List.set_cons_zero, List.set_cons_succ]
              refine wpAnyH_ready (rs := [6]) (by kernel_rfl) (by simp) ?_
              refine AllReadyH.cons rfl (fun K hK => ?_) AllReadyH.nil
              have hgp4_8_1_2_6 : w4.heap.size ≤ vp.heap.size := Bp.size
              have rp4_8_1_2_6 : vp4_8_1_2.ownsRow vp.heap.size 51 3 (.slice (some ⟨vp.heap.size, 0, none⟩) 1 1) 1 [hv ta, .slice A la c, .slice Ak lka k] := own_whole18 Wp4_8_1_2 (Nat.le_refl _)
              have hlp4_8_1_2_6 := HL2.out
              refine wp_append_w18 (.tmp 37) (.tmp 38) 49 rfl vp.heap.size 51 _ 3 56 Tryz.underlying49 ndinfo18 rfl (by omega) (.slice (some ⟨vp.heap.size, 0, none⟩) 1 1) 1 _ rfl rp4_8_1_2_6 w.heap.size L ll m vs rfl HVN.out (HVS.out vp4_8_1_2 (B4.trans (Bp4_8_1_2.mono B4.size))) HON.out (by omega) (by unfold maxLen; omega) (Nat.le_of_lt Wp4_8_1_2.lt) ?_
              intro up4_8_1_2_6 vp4_8_1_2_6 ownp4_8_1_2_6 grp4_8_1_2_6
              obtain ⟨A6, c6, rfl⟩ := own_slice ownp4_8_1_2_6
              have Bp4_8_1_2_6 := Bp4_8_1_2.grown grp4_8_1_2_6 Bp4_8_1_2.size (fun r e => by have e2 := Option.some.inj (show some vp.heap.size = some r from e); omega)
              have Op4_8_1_2_6 := Op4_8_1_2.kept grp4_8_1_2_6 (.inr (fun e => whole_row_ne Wp4_8_1_2 (by decide) Op4_8_1_2 e))
              have Np4_8_1_2_6 := own_baseR18 ownp4_8_1_2_6 hgp4_8_1_2_6
              have Zp4_8_1_2_6 := Zp4_8_1_2.grown grp4_8_1_2_6 (fun e => whole_row_ne Zp4_8_1_2 (by decide) rp4_8_1_2_6 e.symm)
              go_simp
              clear hHeld
              refine hK.out _ _ (KS.out _ Bp4_8_1_2_6) (fun hHeld => ?_)
              clear hK K
              try simp only [Act.put, List.setIfInBounds_toArray, List.set_cons_zero, List.set_cons_succ]
              refine take_at (i := 7) (v := ?_) (some 40) rfl (by kernel_rfl) (by kernel_rfl) (by kernel_rfl) (fun _ _ _ h => h) (by kernel_rfl) (Or.inl ⟨by kernel_rfl, ?_⟩) (by assumption) ?_
              rotate_left
              · (intro w hSw; (try dsimp only at hSw); go_simp <;> with_reducible rfl)
              simp only [Act.put, List.setIfInBounds_toArray, List.set_cons_zero, List.set_cons_succ]
              refine wpAnyH_ready (rs := [9]) (by kernel_rfl) (by simp) ?_
              refine AllReadyH.cons rfl (fun K hK => ?_) AllReadyH.nil
              refine wp_store_row 62 _ _ rfl vp4.heap.size #[.int .u8 193, .int .u8 0, .slice Ab 4 cb, .slice A6 (1 + ll) c6] rfl rfl _ _ Zp4_8_1_2_6 (by kernel_rfl) rfl (by simp [Value.oneCell']) ?_
              have R9 := want18 (ll := ll) (X := X) Bp4_8_1_2_6 Bp4.size Zp4_8_1_2_6 Op4_8_1_2_6 Np4_8_1_2_6 (HCK.out w4 B4 Ab A6 cb c6)
              clear hHeld
              refine hK.out _ _ (KS.out _ R9.low) (fun hHeld => ?_)
              clear hK K
              try simp only [Act.put, List.setIfInBounds_toArray, List.set_cons_zero, List.set_cons_succ]
              refine wpAnyH_done (by kernel_rfl) ?_ _
              go_wp2_with fail
              go_meet
              exact ⟨vp4.heap.size, Ab, cb, A6, c6, rfl, Lib.hid R9⟩
          · go_simp
            have bp8 : Below vp.heap.size vp (vp.alloc (.cells #[.int .u8 0, .int .u8 0, .slice none 0 0, .slice none 0 0] 62)) := (Below.refl _ vp).alloc (Nat.le_refl _) _
            have Zp8 := Whole.new vp 62 #[.int .u8 0, .int .u8 0, .slice none 0 0, .slice none 0 0]
            have Bp8 := Bp.trans (bp8.mono Bp.size)
            generalize (vp.alloc (.cells #[.int .u8 0, .int .u8 0, .slice none 0 0, .slice none 0 0] 62)) = vp8 at *
            clear hHeld
            refine hK.out _ _ (KS.out _ Bp8) (fun hHeld => ?_)
            clear hK K
            try simp only [Act.put, List.setIfInBounds_toArray, List.set_cons_zero, List.set_cons_succ]
            refine wpAnyH_ready (rs := [1, 4]) (by kernel_rfl) (by simp) ?_
            refine AllReadyH.cons rfl (fun K hK => ?_) (AllReadyH.cons rfl (fun K hK => ?_) AllReadyH.nil)
            · go_simp
              have bp8_1 : Below vp8.heap.size vp8 (vp8.alloc (.cells #[uv s] 22)) := (Below.refl _ vp8).alloc (Nat.le_refl _) _
              have Lp8_1 : Lies (vp8.alloc (.cells #[uv s] 22)) (vp8.alloc (.cells #[uv s] 22)).heap.size (some ⟨vp8.heap.size, 0, none⟩) [uv s] := (Lies.newN vp8 [uv s] _).more (by simp)
              have Bp8_1 := Bp8.trans (bp8_1.mono Bp8.size)
              have Zp8_1 := Zp8.below bp8_1 Zp8.lt
              generalize (vp8.alloc (.cells #[uv s] 22)) = vp8_1 at *
              clear hHeld
              refine hK.out _ _ (KS.out _ Bp8_1) (fun hHeld => ?_)
              clear hK K
              try simp only [Act.put, List.setIfInBounds_toArray, List.set_cons_zero, List.set_cons_succ]
              refine wpAnyH_ready (rs := [2, 4]) (by kernel_rfl) (by simp) ?_
              refine AllReadyH.cons rfl (fun K hK => ?_) (AllReadyH.cons rfl (fun K hK => ?_) AllReadyH.nil)
              · go_simp
                (with_reducible refine (HPU.out vp8_1 _ Lp8_1).mono ?_); rintro e vp8_1_2 ⟨Ab, cb, rfl, op8_1_2, bp8_1_2⟩
                go_wp2_with fail
                have Bp8_1_2 := Bp8_1.trans (bp8_1_2.mono Bp8_1.size)
                have Zp8_1_2 := Zp8_1.below bp8_1_2 Zp8_1.lt
                have Op8_1_2 := own_base op8_1_2 Bp8_1.size
                clear hHeld
                refine hK.out _ _ (KS.out _ Bp8_1_2) (fun hHeld => ?_)
                clear hK K
                try simp only [Act.put, List.setIfInBounds_toArray, List.set_cons_zero, List.set_cons_succ]
                refine wpAnyH_ready (rs := [4]) (by kernel_rfl) (by simp) ?_
                refine AllReadyH.cons rfl (fun K hK => ?_) AllReadyH.nil
                go_simp
                have bp8_1_2_4 : Below vp8_1_2.heap.size vp8_1_2 (vp8_1_2.alloc (.cells #[hv ta, .slice A la c, .slice Ak lka k] 51)) := (Below.refl _ vp8_1_2).alloc (Nat.le_refl _) _
                have Wp8_1_2_4 := Whole.new vp8_1_2 51 #[hv ta, .slice A la c, .slice Ak lka k]
                have Bp8_1_2_4 := Bp8_1_2.trans (bp8_1_2_4.mono Bp8_1_2.size)
                have Op8_1_2_4 := own_belowW18 Op8_1_2 bp8_1_2_4
                have Zp8_1_2_4 := Zp8_1_2.below bp8_1_2_4 Zp8_1_2.lt
                generalize (vp8_1_2.alloc (.cells #[hv ta, .slice A la c, .slice Ak lka k] 51)) = vp8_1_2_4 at *
                clear hHeld
                refine hK.out _ _ (KS.out _ Bp8_1_2_4) (fun hHeld => ?_)
                clear hK K
                try simp only [Act.put, List.setIfInBounds_toArray, List.set_cons_zero, List.set_cons_succ]
                refine wpAnyH_ready (rs := [6]) (by kernel_rfl) (by simp) ?_
                refine AllReadyH.cons rfl (fun K hK => ?_) AllReadyH.nil
                have hgp8_1_2_4_6 : w4.heap.size ≤ vp8_1_2.heap.size := Bp8_1_2.size
                have rp8_1_2_4_6 : vp8_1_2_4.ownsRow vp8_1_2.heap.size 51 3 (.slice (some ⟨vp8_1_2.heap.size, 0, none⟩) 1 1) 1 [hv ta, .slice A la c, .slice Ak lka k] := own_whole18 Wp8_1_2_4 (Nat.le_refl _)
                have hlp8_1_2_4_6 := HL2.out
                refine wp_append_w18 (.tmp 37) (.tmp 38) 49 rfl vp8_1_2.heap.size 51 _ 3 56 Tryz.underlying49 ndinfo18 rfl (by omega) (.slice (some ⟨vp8_1_2.heap.size, 0, none⟩) 1 1) 1 _ rfl rp8_1_2_4_6 w.heap.size L ll m vs rfl HVN.out (HVS.out vp8_1_2_4 (B4.trans (Bp8_1_2_4.mono B4.size))) HON.out (by omega) (by unfold maxLen; omega) (Nat.le_of_lt Wp8_1_2_4.lt) ?_
                intro up8_1_2_4_6 vp8_1_2_4_6 ownp8_1_2_4_6 grp8_1_2_4_6
                obtain ⟨A6, c6, rfl⟩ := own_slice ownp8_1_2_4_6
                have Bp8_1_2_4_6 := Bp8_1_2_4.grown grp8_1_2_4_6 Bp8_1_2_4.size (fun r e => by have e2 := Option.some.inj (show some vp8_1_2.heap.size = some r from e); omega)
                have Op8_1_2_4_6 := Op8_1_2_4.kept grp8_1_2_4_6 (.inr (fun e => whole_row_ne Wp8_1_2_4 (by decide) Op8_1_2_4 e))
                have Np8_1_2_4_6 := own_baseR18 ownp8_1_2_4_6 hgp8_1_2_4_6
                have Zp8_1_2_4_6 := Zp8_1_2_4.grown grp8_1_2_4_6 (fun e => whole_row_ne Zp8_1_2_4 (by decide) rp8_1_2_4_6 e.symm)
                go_simp
                clear hHeld
                refine hK.out _ _ (KS.out _ Bp8_1_2_4_6) (fun hHeld => ?_)
                clear hK K
                try simp only [Act.put, List.setIfInBounds_toArray, List.set_cons_zero, List.set_cons_succ]
                refine take_at (i := 7) (v := ?_) (some 40) rfl (by kernel_rfl) (by kernel_rfl) (by kernel_rfl) (fun _ _ _ h => h) (by kernel_rfl) (Or.inl ⟨by kernel_rfl, ?_⟩) (by assumption) ?_
                rotate_left
                · (intro w hSw; (try dsimp only at hSw); go_simp <;> with_reducible rfl)
                simp only [Act.put, List.setIfInBounds_toArray, List.set_cons_zero, List.set_cons_succ]
                refine wpAnyH_ready (rs := [9]) (by kernel_rfl) (by simp) ?_
                refine AllReadyH.cons rfl (fun K hK => ?_) AllReadyH.nil
                refine wp_store_row 62 _ _ rfl vp.heap.size #[.int .u8 193, .int .u8 0, .slice Ab 4 cb, .slice A6 (1 + ll) c6] rfl rfl _ _ Zp8_1_2_4_6 (by kernel_rfl) rfl (by simp [Value.oneCell']) ?_
                have R9 := want18 (ll := ll) (X := X) Bp8_1_2_4_6 Bp.size Zp8_1_2_4_6 Op8_1_2_4_6 Np8_1_2_4_6 (HCK.out w4 B4 Ab A6 cb c6)
                clear hHeld
                refine hK.out _ _ (KS.out _ R9.low) (fun hHeld => ?_)
                clear hK K
                try simp only [Act.put, List.setIfInBounds_toArray, List.set_cons_zero, List.set_cons_succ]
                refine wpAnyH_done (by kernel_rfl) ?_ _
                go_wp2_with fail
                go_meet
                exact ⟨vp.heap.size, Ab, cb, A6, c6, rfl, Lib.hid R9⟩
              · go_simp
                have bp8_1_4 : Below vp8_1.heap.size vp8_1 (vp8_1.alloc (.cells #[hv ta, .slice A la c, .slice Ak lka k] 51)) := (Below.refl _ vp8_1).alloc (Nat.le_refl _) _
                have Wp8_1_4 := Whole.new vp8_1 51 #[hv ta, .slice A la c, .slice Ak lka k]
                have Bp8_1_4 := Bp8_1.trans (bp8_1_4.mono Bp8_1.size)
                have Lp8_1_4 := (Lp8_1.below bp8_1_4).more bp8_1_4.size
                have Zp8_1_4 := Zp8_1.below bp8_1_4 Zp8_1.lt
                generalize (vp8_1.alloc (.cells #[hv ta, .slice A la c, .slice Ak lka k] 51)) = vp8_1_4 at *
                clear hHeld
                refine hK.out _ _ (KS.out _ Bp8_1_4) (fun hHeld => ?_)
                clear hK K
                try simp only [Act.put, List.setIfInBounds_toArray, List.set_cons_zero, List.set_cons_succ]
                refine wpAnyH_ready (rs := [2]) (by kernel_rfl) (by simp) ?_
                refine AllReadyH.cons rfl (fun K hK => ?_) AllReadyH.nil
                go_simp
                (with_reducible refine (HPU.out vp8_1_4 _ Lp8_1_4).mono ?_); rintro e vp8_1_4_2 ⟨Ab, cb, rfl, op8_1_4_2, bp8_1_4_2⟩
                go_wp2_with fail
                have Bp8_1_4_2 := Bp8_1_4.trans (bp8_1_4_2.mono Bp8_1_4.size)
                have Wp8_1_4_2 := Wp8_1_4.below bp8_1_4_2 Wp8_1_4.lt
                have Zp8_1_4_2 := Zp8_1_4.below bp8_1_4_2 Zp8_1_4.lt
                have Op8_1_4_2 := own_base op8_1_4_2 Bp8_1_4.size
                clear hHeld
                refine hK.out _ _ (KS.out _ Bp8_1_4_2) (fun hHeld => ?_)
                clear hK K
                try simp only [Act.put, List.setIfInBounds_toArray, List.set_cons_zero, List.set_cons_succ]
                refine wpAnyH_ready (rs := [6]) (by kernel_rfl) (by simp) ?_
                refine AllReadyH.cons rfl (fun K hK => ?_) AllReadyH.nil
                have hgp8_1_4_2_6 : w4.heap.size ≤ vp8_1.heap.size := Bp8_1.size
                have rp8_1_4_2_6 : vp8_1_4_2.ownsRow vp8_1.heap.size 51 3 (.slice (some ⟨vp8_1.heap.size, 0, none⟩) 1 1) 1 [hv ta, .slice A la c, .slice Ak lka k] := own_whole18 Wp8_1_4_2 (Nat.le_refl _)
                have hlp8_1_4_2_6 := HL2.out
                refine wp_append_w18 (.tmp 37) (.tmp 38) 49 rfl vp8_1.heap.size 51 _ 3 56 Tryz.underlying49 ndinfo18 rfl (by omega) (.slice (some ⟨vp8_1.heap.size, 0, none⟩) 1 1) 1 _ rfl rp8_1_4_2_6 w.heap.size L ll m vs rfl HVN.out (HVS.out vp8_1_4_2 (B4.trans (Bp8_1_4_2.mono B4.size))) HON.out (by omega) (by unfold maxLen; omega) (Nat.le_of_lt Wp8_1_4_2.lt) ?_
                intro up8_1_4_2_6 vp8_1_4_2_6 ownp8_1_4_2_6 grp8_1_4_2_6
                obtain ⟨A6, c6, rfl⟩ := own_slice ownp8_1_4_2_6
                have Bp8_1_4_2_6 := Bp8_1_4_2.grown grp8_1_4_2_6 Bp8_1_4_2.size (fun r e => by have e2 := Option.some.inj (show some vp8_1.heap.size = some r from e); omega)
                have Op8_1_4_2_6 := Op8_1_4_2.kept grp8_1_4_2_6 (.inr (fun e => whole_row_ne Wp8_1_4_2 (by decide) Op8_1_4_2 e))
                have Np8_1_4_2_6 := own_baseR18 ownp8_1_4_2_6 hgp8_1_4_2_6
                have Zp8_1_4_2_6 := Zp8_1_4_2.grown grp8_1_4_2_6 (fun e => whole_row_ne Zp8_1_4_2 (by decide) rp8_1_4_2_6 e.symm)
                go_simp
                clear hHeld
                refine hK.out _ _ (KS.out _ Bp8_1_4_2_6) (fun hHeld => ?_)
                clear hK K
                try simp only [Act.put, List.setIfInBounds_toArray, List.set_cons_zero, List.set_cons_succ]
                refine take_at (i := 7) (v := ?_) (some 40) rfl (by kernel_rfl) (by kernel_rfl) (by kernel_rfl) (fun _ _ _ h => h) (by kernel_rfl) (Or.inl ⟨by kernel_rfl, ?_⟩) (by assumption) ?_
                rotate_left
                · (intro w hSw; (try dsimp only at hSw); go_simp <;> with_reducible rfl)
                simp only [Act.put, List.setIfInBounds_toArray, List.set_cons_zero, List.set_cons_succ]
                refine wpAnyH_ready (rs := [9]) (by kernel_rfl) (by simp) ?_
                refine AllReadyH.cons rfl (fun K hK => ?_) AllReadyH.nil
                refine wp_store_row 62 _ _ rfl vp.heap.size #[.int .u8 193, .int .u8 0, .slice Ab 4 cb, .slice A6 (1 + ll) c6] rfl rfl _ _ Zp8_1_4_2_6 (by kernel_rfl) rfl (by simp [Value.oneCell']) ?_
                have R9 := want18 (ll := ll) (X := X) Bp8_1_4_2_6 Bp.size Zp8_1_4_2_6 Op8_1_4_2_6 Np8_1_4_2_6 (HCK.out w4 B4 Ab A6 cb c6)
                clear hHeld
                refine hK.out _ _ (KS.out _ R9.low) (fun hHeld => ?_)
                clear hK K
                try simp only [Act.put, List.setIfInBounds_toArray, List.set_cons_zero, List.set_cons_succ]
                refine wpAnyH_done (by kernel_rfl) ?_ _
                go_wp2_with fail
                go_meet
                exact ⟨vp.heap.size, Ab, cb, A6, c6, rfl, Lib.hid R9⟩
            · go_simp
              have bp8_4 : Below vp8.heap.size vp8 (vp8.alloc (.cells #[hv ta, .slice A la c, .slice Ak lka k] 51)) := (Below.refl _ vp8).alloc (Nat.le_refl _) _
              have Wp8_4 := Whole.new vp8 51 #[hv ta, .slice A la c, .slice Ak lka k]
              have Bp8_4 := Bp8.trans (bp8_4.mono Bp8.size)
              have Zp8_4 := Zp8.below bp8_4 Zp8.lt
              generalize (vp8.alloc (.cells #[hv ta, .slice A la c, .slice Ak lka k] 51)) = vp8_4 at *
              clear hHeld
              refine hK.out _ _ (KS.out _ Bp8_4) (fun hHeld => ?_)
              clear hK K
              try simp only [Act.put, List.setIfInBounds_toArray, List.set_cons_zero, List.set_cons_succ]
              refine wpAnyH_ready (rs := [1]) (by kernel_rfl) (by simp) ?_
              refine AllReadyH.cons rfl (fun K hK => ?_) AllReadyH.nil
              go_simp
              have bp8_4_1 : Below vp8_4.heap.size vp8_4 (vp8_4.alloc (.cells #[uv s] 22)) := (Below.refl _ vp8_4).alloc (Nat.le_refl _) _
              have Lp8_4_1 : Lies (vp8_4.alloc (.cells #[uv s] 22)) (vp8_4.alloc (.cells #[uv s] 22)).heap.size (some ⟨vp8_4.heap.size, 0, none⟩) [uv s] := (Lies.newN vp8_4 [uv s] _).more (by simp)
              have Bp8_4_1 := Bp8_4.trans (bp8_4_1.mono Bp8_4.size)
              have Wp8_4_1 := Wp8_4.below bp8_4_1 Wp8_4.lt
              have Zp8_4_1 := Zp8_4.below bp8_4_1 Zp8_4.lt
              generalize (vp8_4.alloc (.cells #[uv s] 22)) = vp8_4_1 at *
              clear hHeld
              refine hK.out _ _ (KS.out _ Bp8_4_1) (fun hHeld => ?_)
              clear hK K
              try simp only [Act.put, List.setIfInBounds_toArray, List.set_cons_zero, List.set_cons_succ]
              refine wpAnyH_ready (rs := [2]) (by kernel_rfl) (by simp) ?_
              refine AllReadyH.cons rfl (fun K hK => ?_) AllReadyH.nil
              go_simp
              (with_reducible refine (HPU.out vp8_4_1 _ Lp8_4_1).mono ?_); rintro e vp8_4_1_2 ⟨Ab, cb, rfl, op8_4_1_2, bp8_4_1_2⟩
              go_wp2_with fail
              have Bp8_4_1_2 := Bp8_4_1.trans (bp8_4_1_2.mono Bp8_4_1.size)
              have Wp8_4_1_2 := Wp8_4_1.below bp8_4_1_2 Wp8_4_1.lt
              have Zp8_4_1_2 := Zp8_4_1.below bp8_4_1_2 Zp8_4_1.lt
              have Op8_4_1_2 := own_base op8_4_1_2 Bp8_4_1.size
              clear hHeld
              refine hK.out _ _ (KS.out _ Bp8_4_1_2) (fun hHeld => ?_)
              clear hK K
              try simp only [Act.put, List.setIfInBounds_toArray, List.set_cons_zero, List.set_cons_succ]
              refine wpAnyH_ready (rs := [6]) (by kernel_rfl) (by simp) ?_
              refine AllReadyH.cons rfl (fun K hK => ?_) AllReadyH.nil
              have hgp8_4_1_2_6 : w4.heap.size ≤ vp8.heap.size := Bp8.size
              have rp8_4_1_2_6 : vp8_4_1_2.ownsRow vp8.heap.size 51 3 (.slice (some ⟨vp8.heap.size, 0, none⟩) 1 1) 1 [hv ta, .slice A la c, .slice Ak lka k] := own_whole18 Wp8_4_1_2 (Nat.le_refl _)
              have hlp8_4_1_2_6 := HL2.out
              refine wp_append_w18 (.tmp 37) (.tmp 38) 49 rfl vp8.heap.size 51 _ 3 56 Tryz.underlying49 ndinfo18 rfl (by omega) (.slice (some ⟨vp8.heap.size, 0, none⟩) 1 1) 1 _ rfl rp8_4_1_2_6 w.heap.size L ll m vs rfl HVN.out (HVS.out vp8_4_1_2 (B4.trans (Bp8_4_1_2.mono B4.size))) HON.out (by omega) (by unfold maxLen; omega) (Nat.le_of_lt Wp8_4_1_2.lt) ?_
              intro up8_4_1_2_6 vp8_4_1_2_6 ownp8_4_1_2_6 grp8_4_1_2_6
              obtain ⟨A6, c6, rfl⟩ := own_slice ownp8_4_1_2_6
              have Bp8_4_1_2_6 := Bp8_4_1_2.grown grp8_4_1_2_6 Bp8_4_1_2.size (fun r e => by have e2 := Option.some.inj (show some vp8.heap.size = some r from e); omega)
              have Op8_4_1_2_6 := Op8_4_1_2.kept grp8_4_1_2_6 (.inr (fun e => whole_row_ne Wp8_4_1_2 (by decide) Op8_4_1_2 e))
              have Np8_4_1_2_6 := own_baseR18 ownp8_4_1_2_6 hgp8_4_1_2_6
              have Zp8_4_1_2_6 := Zp8_4_1_2.grown grp8_4_1_2_6 (fun e => whole_row_ne Zp8_4_1_2 (by decide) rp8_4_1_2_6 e.symm)
              go_simp
              clear hHeld
              refine hK.out _ _ (KS.out _ Bp8_4_1_2_6) (fun hHeld => ?_)
              clear hK K
              try simp only [Act.put, List.setIfInBounds_toArray, List.set_cons_zero, List.set_cons_succ]
              refine take_at (i := 7) (v := ?_) (some 40) rfl (by kernel_rfl) (by kernel_rfl) (by kernel_rfl) (fun _ _ _ h => h) (by kernel_rfl) (Or.inl ⟨by kernel_rfl, ?_⟩) (by assumption) ?_
              rotate_left
              · (intro w hSw; (try dsimp only at hSw); go_simp <;> with_reducible rfl)
              simp only [Act.put, List.setIfInBounds_toArray, List.set_cons_zero, List.set_cons_succ]
              refine wpAnyH_ready (rs := [9]) (by kernel_rfl) (by simp) ?_
              refine AllReadyH.cons rfl (fun K hK => ?_) AllReadyH.nil
              refine wp_store_row 62 _ _ rfl vp.heap.size #[.int .u8 193, .int .u8 0, .slice Ab 4 cb, .slice A6 (1 + ll) c6] rfl rfl _ _ Zp8_4_1_2_6 (by kernel_rfl) rfl (by simp [Value.oneCell']) ?_
              have R9 := want18 (ll := ll) (X := X) Bp8_4_1_2_6 Bp.size Zp8_4_1_2_6 Op8_4_1_2_6 Np8_4_1_2_6 (HCK.out w4 B4 Ab A6 cb c6)
              clear hHeld
              refine hK.out _ _ (KS.out _ R9.low) (fun hHeld => ?_)
              clear hK K
              try simp only [Act.put, List.setIfInBounds_toArray, List.set_cons_zero, List.set_cons_succ]
              refine wpAnyH_done (by kernel_rfl) ?_ _
              go_wp2_with fail
              go_meet
              exact ⟨vp.heap.size, Ab, cb, A6, c6, rfl, Lib.hid R9⟩
        case rest =>
          obtain ⟨g, Ab, cb, A2, c2, rfl, hR⟩ := hcut
          have x5 := (KX.out wc hR.out.low).2
          have y5 := hR.out.box
          have B5 := B4.trans (hR.out.low.mono B4.size)
          have D5 := hR.out.chunk
          clear KX KS B4 hR HCK HPU HVS
          have HI := Lib.hid (HIR.out (by trivial) (by trivial) wc Ab A2 cb c2 D5)
          obtain ⟨p0, p1, p2, p3⟩ := wh4 y5
          go_wp2_with fail
          refine HI.out.mono ?_
          rintro e w7 ⟨rfl, b7⟩
          have B7 := B5.trans (b7.mono B5.size)
          have x7 := x5.below b7 x5.lt
          have y7 := y5.below b7 y5.lt
          clear HI HIR x5 y5 y7 D5 B5 b7 p0 p1 p2 p3
          go_upto_region 6 with fail
          have HS := Lib.hid (cksame_z w7)
          obtain ⟨p0, p1, p2, p3⟩ := wh4 x7
          have HB7 := Lib.hid B7
          clear x7 B7
          go_wp2_with fail
          refine HS.out.mono ?_
          rintro e w8 ⟨rfl, b8⟩
          clear HS p0 p1 p2 p3
          go_wp2_with fail
          go_ret
          exact ⟨rfl, HB7.out.trans (b8.mono HB7.out.size)⟩
set_option maxRecDepth 100000 in
theorem law_AsconfRequests {H : Type} {enc : TypeId × Value → H} {W : World} {base : Nat} {v0 v1 v2 : Value} {d0 d1 d2 : DataW H} {p0 p1 p2 : List MemPlace}
    (o0 : Value.okWide Tryz.prog W .any base 22 v0) (h0 : DataW.Trod enc Tryz.prog W 0 (fun _ => true) true 22 v0 d0 p0) (_s0 : Small Tryz.prog 22 d0)
    (o1 : Value.okWide Tryz.prog W .any base 51 v1) (h1 : DataW.Trod enc Tryz.prog W 0 (fun _ => true) true 51 v1 d1 p1) (s1 : Small Tryz.prog 51 d1)
    (o2 : Value.okWide Tryz.prog W .any base 49 v2) (h2 : DataW.Trod enc Tryz.prog W 0 (fun _ => true) true 49 v2 d2 p2) (s2 : Small Tryz.prog 49 d2) (hL : laidMetH Tryz.prog laid18 W) :
    Calls Tryz.prog 8 #[v0, v1, v2] W fun e w' => e = .returned (.bool true) ∧ Below W.heap.size W w' := by
  obtain ⟨z0, rfl, _, _, wz0⟩ := open_int Tryz.underlying22 o0 h0
  rw [uv17 (wf_u32 wz0)]
  obtain ⟨a, A, c, K, k, rfl, ha, ba⟩ := open_node o1 h1 s1
  obtain ⟨L, m, l, rfl, g2, g3, g4, g5⟩ := open_nodes o2 h2 s2
  exact requests_law18 _ a l ba g5 (by unfold maxLen at g4; omega) A c K k L m W ha g2 (handle_of18 hL) (tbl_of18 hL)
end Go.Proofs.YteknmgmdmjmnmaaGreatDoor
