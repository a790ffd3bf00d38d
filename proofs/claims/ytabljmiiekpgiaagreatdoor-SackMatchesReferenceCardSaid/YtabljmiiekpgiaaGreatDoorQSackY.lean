/- Layer 14: the law SackMatchesReference (written by tools/gen_sack_y.py). It writes nothing that was there. -/
import Derived.Test.YtabljmiiekpgiaaGreatDoorQSKU
import Derived.Test.YtabljmiiekpgiaaGreatDoorQCT
import Derived.Test.YtabljmiiekpgiaaGreatDoorQDT
import Derived.Test.YtabljmiiekpgiaaGreatDoorQNF
import Derived.BigGuard
import Derived.Deep.RegionHeld3






namespace Go.Proofs.YtabljmiiekpgiaaGreatDoor
open Go.ChangeShapes Go.WideShapes Go.ChangeAt Go.RowKit

set_option linter.unusedSimpArgs false
theorem ckEq_self14 (a : Ck) : ckEq a a = true := by
  unfold ckEq
  rw [beqL_true rfl]
  simp
theorem u32infoY : (Tryz.prog.info? 22).map (fun i => (i.zero, i.size, i.bytes)) = some (some (.int .u32 0), 1, 4) := by kernel_rfl
theorem own_made14 {w : World} {base n c : Nat} {A : Option Addr} (h : w.ownsRow base 22 1 (.slice A n c) n (List.replicate n (.int .u32 0))) : w.ownsRow base 22 1 (.slice A n c) n ((List.replicate n (0 : UInt32)).map uv) := by
  rw [List.map_replicate]
  exact h
theorem wpList_make_14 (w : World) {ops : Array Oper} {rest : List Oper} {o : Oper} {a : Act} {Q : Exit → Act → World → Prop}
    (hg : o.guard = none) (l c : Operand) (hop : o.op = Op.makeSlice 24 l c) (L : Int) (n : Nat) (hl : a.eval l = .int .i64 L) (hc : a.eval c = .int .i64 L) (hL : L = (n : Int)) (hn : n ≤ 10000000)
    (hK : ∀ w', w'.ownsRow w.heap.size 22 1 (.slice (some ⟨w.heap.size, 0, none⟩) n n) n ((List.replicate n (0 : UInt32)).map uv) → Below w.heap.size w w' → wpList Tryz.prog ops Q rest (a.put o.dst (.slice (some ⟨w.heap.size, 0, none⟩) n n)) w') :
    wpList Tryz.prog ops Q (o :: rest) a w := by
  obtain ⟨i0, hi, hz0, hz1, hz2⟩ := info_parts u32infoY
  refine wpList_make_full w hg l c 24 hop w.heap.size 22 i0 (.int .u32 0) 1 Tryz.underlying24 hi hz0 hz1 .i64 .i64 L L n hl hc hL hL (by rw [hz2]; omega) (by unfold maxLen; omega) (Nat.le_refl _) ?_
  intro w' hown hgrow
  refine hK w' (own_made14 ?_) ((Below.refl _ w).grown hgrow (Nat.le_refl _) (by simp))
  simpa [Value.cells, toList_madeCells_one] using hown
/-- the reference's chunk of a description -/
theorem rmk14_ck (s : Sk) (G : Option Addr) (gc : Nat) (D : Option Addr) (dc : Nat) (w : World) (h : SkL w w.heap.size G gc D dc s) (hgl : s.gs.length ≤ 16379) (hdl : s.ds.length ≤ 16379) :
    Calls Tryz.prog 19 #[skV s G gc D dc] w fun e w' => Below w.heap.size w w' ∧ ∃ A' c', e = .returned (.agg #[.int .u8 3, .int .u8 0, .slice A' (skB s).length c', .slice none 0 0]) ∧ Chunk w' w'.heap.size A' c' none 0 (skC s) := by
  refine (rmake14_any s G gc D dc w h hgl hdl).mono ?_
  rintro e w' ⟨hb, A', c', rfl, ho⟩
  have hl : 12 + s.gs.length * 4 + s.ds.length * 4 = (skB s).length := by rw [skB_len]; omega
  rw [skB_ref s (by omega) (by omega), hl] at ho
  rw [hl]
  have hc := own_cap ho
  exact ⟨hb, A', c', rfl, Lies.own ho, hc.2.1, hc.2.2, Nodes.nil _ _ _, by simp [skC], by decide⟩
set_option maxRecDepth 100000 in
set_option maxHeartbeats 16000000 in
theorem smr_law (s : Sk) (mo : UInt16) (G : Option Addr) (gc : Nat) (D : Option Addr) (dc : Nat) (w : World) (h : SkL w w.heap.size G gc D dc s) (hh : Handle w) :
    Calls Tryz.prog 3 #[skV s G gc D dc, hv mo] w fun e w' => e = .returned (.bool true) ∧ Below w.heap.size w w' := by
  have b0 : Below w.heap.size w (w.alloc (.cells (skCells s G gc D dc) 26)) := (Below.refl _ w).alloc (Nat.le_refl _) _
  have x0 := Whole.new w 26 (skCells s G gc D dc)
  have hx0 := h.on b0
  have H0 := hh.below b0 hh.lt
  have HH := Lib.hid hh
  clear h hh
  go_enter Tryz.func3, Tryz.ntmps3
  go_wp2_with fail
  generalize w.alloc (.cells (skCells s G gc D dc) 26) = w0 at *
  refine (awake14_any w0 H0).mono ?_
  rintro e w1 ⟨rfl, b1⟩
  have B1 := b0.trans (b1.mono b0.size)
  have x1 := x0.below b1 x0.lt
  have hx1 := hx0.on b1
  have hF1 := few14_any s G gc D dc w1
  obtain ⟨q0, q1, q2, q3⟩ := wh4 x1
  cases hf : fewS s with
  | false =>
    rw [hf] at hF1
    clear hf
    go_wp2_with fail
    refine hF1.mono ?_
    rintro e w2 ⟨rfl, b2⟩
    have B2 := B1.trans (b2.mono B1.size)
    go_wp2_with fail
    refine (awake14_any w2 (HH.out.below B2 HH.out.lt)).mono ?_
    rintro e w3 ⟨rfl, b3⟩
    go_wp2_with fail
    go_ret
    exact ⟨rfl, B2.trans (b3.mono B2.size)⟩
  | true =>
    obtain ⟨hgl, hdl⟩ := fewS_le hf
    rw [hf] at hF1
    clear hf
    go_wp2_with fail
    refine hF1.mono ?_
    rintro e w2 ⟨rfl, b2⟩
    have B2 := B1.trans (b2.mono B1.size)
    have x2 := x1.below b2 x1.lt
    have hx2 := hx1.on b2
    clear q0 q1 q2 q3 hF1 x0 x1 hx0 hx1 H0 b0 b1 b2 B1
    obtain ⟨q0, q1, q2, q3⟩ := wh4 x2
    have hok : okS s = true := by unfold okS; exact decide_eq_true (by omega)
    have HG : Hid (∀ V, Below w2.heap.size w2 V → Calls Tryz.prog 16 #[skV s G gc D dc] V fun e w' => Below V.heap.size V w' ∧ ∃ G' gc' D' dc', e = .returned (skV s G' gc' D' dc') ∧ SkL w' w'.heap.size G' gc' D' dc' s) := Lib.hid (fun V hV => given14_any s G gc D dc V (hx2.on hV) (by omega) (by omega))
    have HMk : Hid (∀ G' gc' D' dc' V, SkL V V.heap.size G' gc' D' dc' s → Calls Tryz.prog 15 #[skV s G' gc' D' dc'] V fun e w' => Below V.heap.size V w' ∧ ∃ A' c', e = .returned (.tuple #[.agg #[.int .u8 3, .int .u8 0, .slice A' (skB s).length c', .slice none 0 0], .bool true]) ∧ Chunk w' w'.heap.size A' c' none 0 (skC s)) := Lib.hid (fun G' gc' D' dc' V hV => Calls.mono (R := MkS s V) (smake_any s G' gc' D' dc' V hV (by omega) (by omega)) fun _ _ h => mkS_ck hok h)
    have HOf : Hid (∀ A' c' V, Below w2.heap.size w2 V → Chunk V V.heap.size A' c' none 0 (skC s) → Calls Tryz.prog 17 #[.agg #[.int .u8 3, .int .u8 0, .slice A' (skB s).length c', .slice none 0 0]] V fun e w' => Below V.heap.size V w' ∧ ∃ G gc D dc, e = .returned (.tuple #[skV s G gc D dc, .bool true]) ∧ SkL w' w'.heap.size G gc D dc s) := Lib.hid (fun A' c' V hV hC => Calls.mono (R := OfS (skC s) V) (sof_any (skC s) (skC_fine hok) A' c' none 0 V hC (HH.out.below (B2.trans (hV.mono B2.size)) HH.out.lt)) fun _ _ h => ofS_ck hok h)
    have HRM : Hid (∀ V, Below w2.heap.size w2 V → Calls Tryz.prog 19 #[skV s G gc D dc] V fun e w' => Below V.heap.size V w' ∧ ∃ A' c', e = .returned (.agg #[.int .u8 3, .int .u8 0, .slice A' (skB s).length c', .slice none 0 0]) ∧ Chunk w' w'.heap.size A' c' none 0 (skC s)) := Lib.hid (fun V hV => rmk14_ck s G gc D dc V (hx2.on hV) (by omega) (by omega))
    have hdl7 : (skB s).length ≤ maxLen := by rw [skB_len]; unfold maxLen; omega
    have HSm : Hid (∀ (V : World) (A1 : Option Addr) (c1 : Nat) (A2 : Option Addr) (c2 : Nat), Chunk V V.heap.size A1 c1 none 0 (skC s) → Chunk V V.heap.size A2 c2 none 0 (skC s) → Calls Tryz.prog 18 #[.agg #[.int .u8 3, .int .u8 0, .slice A1 (skB s).length c1, .slice none 0 0], .agg #[.int .u8 3, .int .u8 0, .slice A2 (skB s).length c2, .slice none 0 0]] V fun e w' => e = .returned (.bool true) ∧ Below V.heap.size V w') := Lib.hid (fun V A1 c1 A2 c2 h1 h2 => by
      have h9 := rcsame12 (skC s) (skC s) hdl7 (by simp [skC]) (by simp [skC]) A1 c1 none 0 A2 c2 none 0 V h1 h2
      rw [ckEq_self14] at h9
      exact h9)
    have HBk : Hid (∀ G' gc' D' dc' V, SkL V V.heap.size G' gc' D' dc' s → Calls Tryz.prog 21 #[skV s G' gc' D' dc'] V fun e w' => Below V.heap.size V w' ∧ ∃ G' gc' D' dc', e = .returned (skV s G' gc' D' dc') ∧ SkL w' w'.heap.size G' gc' D' dc' s) := Lib.hid (fun G' gc' D' dc' V hV => back14_any s G' gc' D' dc' V hV (by omega) (by omega))
    have HRS : Hid (∀ G' gc' D' dc' V, Below w2.heap.size w2 V → SkL V V.heap.size G' gc' D' dc' s → Calls Tryz.prog 20 #[skV s G' gc' D' dc', skV s G gc D dc] V fun e w' => e = .returned (.bool true) ∧ Below V.heap.size V w') := Lib.hid (fun G' gc' D' dc' V hV h1 => rsame14_self s G' gc' D' dc' G gc D dc V h1 (hx2.on hV))
    have HSS : Hid (∀ G1 gc1 D1 dc1 G2 gc2 D2 dc2 V, SkL V V.heap.size G1 gc1 D1 dc1 s → SkL V V.heap.size G2 gc2 D2 dc2 s → Calls Tryz.prog 22 #[skV s G1 gc1 D1 dc1, skV s G2 gc2 D2 dc2] V fun e w' => e = .returned (.bool true) ∧ Below V.heap.size V w') := Lib.hid (fun G1 gc1 D1 dc1 G2 gc2 D2 dc2 V h1 h2 => ssame_self s G1 gc1 D1 dc1 G2 gc2 D2 dc2 V h1 h2)
    have HCk : Hid (∀ A' c' V, Below w2.heap.size w2 V → Chunk V V.heap.size A' c' none 0 (skC s) → Calls Tryz.prog 23 #[.agg #[.int .u8 3, .int .u8 0, .slice A' (skB s).length c', .slice none 0 0]] V fun e w' => e = .returned .nilIface ∧ Below V.heap.size V w') := Lib.hid (fun A' c' V hV hC => by
      have h9 := ccheck_any (skC s) (skC_fine hok) A' c' none 0 V hC (HH.out.below (B2.trans (hV.mono B2.size)) HH.out.lt)
      rw [(isS_parts (skC_is hok)).2] at h9
      exact h9)
    have hsg : s.gs.length ≤ 100 := hgl
    have HM2 : Hid (∀ (M : Nat) (G' : Option Addr) (gc' : Nat) (D' : Option Addr) (V : World), M ≤ 20000 → Below w2.heap.size w2 V → GsL V V.heap.size G' gc' s.gs → Lies V V.heap.size D' ((List.replicate M (0 : UInt32)).map uv) → Calls Tryz.prog 15 #[.agg #[uv s.cum, uv s.win, .slice G' s.gs.length gc', .slice D' M M]] V fun e w' => Below V.heap.size V w' ∧
        ((M + s.gs.length ≤ 16379 ∧ ∃ A' c' n2 x2, e = .returned (.tuple #[.agg #[.int .u8 3, .int .u8 0, .slice A' n2 c', .slice none 0 0], .bool true]) ∧ Chunk w' w'.heap.size A' c' none 0 x2 ∧ (∀ A c U, Below w2.heap.size w2 U → Chunk U U.heap.size A c none 0 x2 → Calls Tryz.prog 23 #[.agg #[.int .u8 3, .int .u8 0, .slice A n2 c, .slice none 0 0]] U fun e w' => e = .returned .nilIface ∧ Below U.heap.size U w')) ∨
         (¬ M + s.gs.length ≤ 16379 ∧ e = .returned (.tuple #[.agg #[.int .u8 0, .int .u8 0, .slice none 0 0, .slice none 0 0], .bool false])))) := Lib.hid (fun M G' gc' D' V hM hV hG hD => by
      have hl : (List.replicate M (0 : UInt32)).length = M := List.length_replicate ..
      have hsk : SkL V V.heap.size G' gc' D' M ⟨s.cum, s.win, s.gs, List.replicate M 0⟩ := ⟨hG, hD, by rw [hl]; exact Nat.le_refl _, by unfold maxLen; omega⟩
      have h9 := smake_any ⟨s.cum, s.win, s.gs, List.replicate M 0⟩ G' gc' D' M V hsk (by show s.gs.length ≤ _; omega) (by show (List.replicate M (0 : UInt32)).length ≤ _; rw [hl]; omega)
      have e9 : skV ⟨s.cum, s.win, s.gs, List.replicate M 0⟩ G' gc' D' M = .agg #[uv s.cum, uv s.win, .slice G' s.gs.length gc', .slice D' M M] := by
        show Value.agg #[_, _, _, .slice D' (List.replicate M (0 : UInt32)).length M] = _
        rw [hl]
      rw [e9] at h9
      refine Calls.mono (R := MkS ⟨s.cum, s.win, s.gs, List.replicate M 0⟩ V) h9 fun e w' h => ?_
      by_cases hle : M + s.gs.length ≤ 16379
      · have hok2 : okS ⟨s.cum, s.win, s.gs, List.replicate M 0⟩ = true := by unfold okS; rw [hl]; exact decide_eq_true (by show s.gs.length + M ≤ 16379; omega)
        obtain ⟨h1, A', c', h2, h3⟩ := mkS_ck hok2 h
        refine ⟨h1, .inl ⟨hle, A', c', _, _, h2, h3, fun A c U hU hC => ?_⟩⟩
        have h7 := ccheck_any (skC ⟨s.cum, s.win, s.gs, List.replicate M 0⟩) (skC_fine hok2) A c none 0 U hC (HH.out.below (B2.trans (hU.mono B2.size)) HH.out.lt)
        rw [(isS_parts (skC_is hok2)).2] at h7
        exact h7
      · have hok2 : okS ⟨s.cum, s.win, s.gs, List.replicate M 0⟩ = false := by unfold okS; rw [hl]; exact decide_eq_false (by show ¬ s.gs.length + M ≤ 16379; omega)
        obtain ⟨h1, h2⟩ := h
        rcases h2 with ⟨h3, _⟩ | ⟨_, h3⟩
        · rw [hok2] at h3; exact absurd h3 (by simp)
        · exact ⟨h1, .inr ⟨hle, h3⟩⟩)
    have HH2 : Hid (∀ V, Below w2.heap.size w2 V → Handle V) := Lib.hid (fun V hV => HH.out.below (B2.trans (hV.mono B2.size)) HH.out.lt)
    have HB2 := Lib.hid B2
    have hG2 := HG.out w2 (Below.refl _ _)
    clear hok hdl7 B2 hx2 HH
    generalize hxx : skC s = x at *
    clear hxx
    generalize (skB s).length = n at *
    have hg2 := x2.lt
    go_wp2_with fail
    refine hG2.mono ?_
    rintro e w3 ⟨b3, G3, gc3, D3, dc3, rfl, hS3⟩
    clear hG2 q0 q1 q2 q3
    go_wp2_with fail
    refine (HMk.out _ _ _ _ w3 hS3).mono ?_
    rintro e w4 ⟨b4, A4, c4, rfl, C4⟩
    have R4 := b3.trans (b4.mono b3.size)
    clear hS3 b3 b4
    go_upto_region 4 with fail
    have v5 : Below w4.heap.size w4 (w4.alloc (.cells #[.int .u8 3, .int .u8 0, .slice A4 n c4, .slice none 0 0] 33)) := (Below.refl _ _).alloc (Nat.le_refl _) _
    have z5 := Whole.new w4 33 #[.int .u8 3, .int .u8 0, .slice A4 n c4, .slice none 0 0]
    have C5 := C4.on v5
    have R5 := R4.trans (v5.mono R4.size)
    generalize w4.alloc (.cells #[.int .u8 3, .int .u8 0, .slice A4 n c4, .slice none 0 0] 33) = w5 at *
    generalize w4.heap.size = g5 at *
    clear v5 C4 R4
    obtain ⟨m0, m1, m2, m3⟩ := wh4 z5
    have hO := HOf.out A4 c4 w5 R5 C5
    go_wp2_with fail
    refine hO.mono ?_
    rintro e w6 ⟨b6, G6, gc6, D6, dc6, rfl, hS6⟩
    have z6 := z5.below b6 z5.lt
    have C6 := C5.on b6
    have R6 := R5.trans (b6.mono R5.size)
    clear m0 m1 m2 m3 hO z5 C5 R5 b6
    go_upto_region 5 with fail
    have v7 : Below w6.heap.size w6 (w6.alloc (.cells #[uv s.cum, uv s.win, .slice G6 s.gs.length gc6, .slice D6 s.ds.length dc6] 38)) := (Below.refl _ _).alloc (Nat.le_refl _) _
    have y7 := Whole.new w6 38 #[uv s.cum, uv s.win, .slice G6 s.gs.length gc6, .slice D6 s.ds.length dc6]
    have z7 := z6.below v7 z6.lt
    have C7 := C6.on v7
    have S7 := hS6.on v7
    have R7 := R6.trans (v7.mono R6.size)
    generalize w6.alloc (.cells #[uv s.cum, uv s.win, .slice G6 s.gs.length gc6, .slice D6 s.ds.length dc6] 38) = w7 at *
    generalize w6.heap.size = g7 at *
    clear v7 z6 C6 hS6 R6
    have KS : Hid (∀ W, Below w7.heap.size w7 W → (W.cell? ⟨w.heap.size, 0, none⟩ = some (uv s.cum) ∧ W.cell? ⟨w.heap.size, 1, none⟩ = some (uv s.win) ∧ W.cell? ⟨w.heap.size, 2, none⟩ = some (.slice G s.gs.length gc) ∧ W.cell? ⟨w.heap.size, 3, none⟩ = some (.slice D s.ds.length dc)) ∧ (W.cell? ⟨g5, 0, none⟩ = some (.int .u8 3) ∧ W.cell? ⟨g5, 1, none⟩ = some (.int .u8 0) ∧ W.cell? ⟨g5, 2, none⟩ = some (.slice A4 n c4) ∧ W.cell? ⟨g5, 3, none⟩ = some (.slice none 0 0)) ∧ (W.cell? ⟨g7, 0, none⟩ = some (uv s.cum) ∧ W.cell? ⟨g7, 1, none⟩ = some (uv s.win) ∧ W.cell? ⟨g7, 2, none⟩ = some (.slice G6 s.gs.length gc6) ∧ W.cell? ⟨g7, 3, none⟩ = some (.slice D6 s.ds.length dc6))) := Lib.hid (fun W hW => ⟨wh4 (x2.below (R7.trans (hW.mono R7.size)) hg2), wh4 (z7.below hW z7.lt), wh4 (y7.below hW y7.lt)⟩)
    have HT : Hid (∀ V, Below w7.heap.size w7 V → Chunk V V.heap.size A4 c4 none 0 x ∧ SkL V V.heap.size G6 gc6 D6 dc6 s ∧ Below w2.heap.size w2 V) := Lib.hid (fun V hV => ⟨C7.on hV, S7.on hV, R7.trans (hV.mono R7.size)⟩)
    refine wp_region_held_drew (S := (fun W => (W.cell? ⟨w.heap.size, 0, none⟩ = some (uv s.cum) ∧ W.cell? ⟨w.heap.size, 1, none⟩ = some (uv s.win) ∧ W.cell? ⟨w.heap.size, 2, none⟩ = some (.slice G s.gs.length gc) ∧ W.cell? ⟨w.heap.size, 3, none⟩ = some (.slice D s.ds.length dc)) ∧ (W.cell? ⟨g5, 0, none⟩ = some (.int .u8 3) ∧ W.cell? ⟨g5, 1, none⟩ = some (.int .u8 0) ∧ W.cell? ⟨g5, 2, none⟩ = some (.slice A4 n c4) ∧ W.cell? ⟨g5, 3, none⟩ = some (.slice none 0 0)) ∧ (W.cell? ⟨g7, 0, none⟩ = some (uv s.cum) ∧ W.cell? ⟨g7, 1, none⟩ = some (uv s.win) ∧ W.cell? ⟨g7, 2, none⟩ = some (.slice G6 s.gs.length gc6) ∧ W.cell? ⟨g7, 3, none⟩ = some (.slice D6 s.ds.length dc6)))) (by kernel_rfl) (KS.out _ (below_drew (Below.refl _ _))) (fun hHeld => ?_)
    refine take_at (i := 0) (v := ?_) (some 31) rfl (by kernel_rfl) (by kernel_rfl) (by kernel_rfl) (fun _ _ _ h => h) (by kernel_rfl) (Or.inl ⟨by kernel_rfl, ?_⟩) (by assumption) ?_
    rotate_left
    · (intro w hSw; (try dsimp only at hSw); go_simp <;> with_reducible rfl)
    simp only [Act.put, List.setIfInBounds_toArray, List.set_cons_zero, List.set_cons_succ]
    refine take_at (i := 1) (v := ?_) (some 32) rfl (by kernel_rfl) (by kernel_rfl) (by kernel_rfl) (fun _ _ _ h => h) (by kernel_rfl) (Or.inl ⟨by kernel_rfl, ?_⟩) (by assumption) ?_
    rotate_left
    · (intro w hSw; (try dsimp only at hSw); go_simp <;> with_reducible rfl)
    simp only [Act.put, List.setIfInBounds_toArray, List.set_cons_zero, List.set_cons_succ]
    refine take_at (i := 2) (v := ?_) (some 33) rfl (by kernel_rfl) (by kernel_rfl) (by kernel_rfl) (fun _ _ _ h => h) (by kernel_rfl) (Or.inl ⟨by kernel_rfl, ?_⟩) (by assumption) ?_
    rotate_left
    · (intro w hSw; (try dsimp only at hSw); go_simp <;> with_reducible rfl)
    simp only [Act.put, List.setIfInBounds_toArray, List.set_cons_zero, List.set_cons_succ]
    refine take_at (i := 3) (v := ?_) (some 34) rfl (by kernel_rfl) (by kernel_rfl) (by kernel_rfl) (fun _ _ _ h => h) (by kernel_rfl) (Or.inl ⟨by kernel_rfl, ?_⟩) (by assumption) ?_
    rotate_left
    · (intro w hSw; (try dsimp only at hSw); go_simp <;> with_reducible rfl)
    simp only [Act.put, List.setIfInBounds_toArray, List.set_cons_zero, List.set_cons_succ]
    refine take_at (i := 4) (v := ?_) (some 35) rfl (by kernel_rfl) (by kernel_rfl) (by kernel_rfl) (fun _ _ _ h => h) (by kernel_rfl) (Or.inl ⟨by kernel_rfl, ?_⟩) (by assumption) ?_
    rotate_left
    · (intro w hSw; (try dsimp only at hSw); go_simp <;> with_reducible rfl)
    simp only [Act.put, List.setIfInBounds_toArray, List.set_cons_zero, List.set_cons_succ]
    refine wpAnyH_ready (rs := [5]) (by kernel_rfl) (by simp) ?_
    refine AllReadyH.cons rfl (fun K hK => ?_) AllReadyH.nil
    go_simp
    go_at_call 19; (with_reducible refine (HRM.out w7.drew (HT.out _ (below_drew (Below.refl w7.heap.size w7))).2.2).mono ?_); rintro e v5 ⟨b5, A8, c8, rfl, C8⟩
    go_wp2_with fail
    have T5 : Below w7.heap.size w7 v5 := below_undrew13 b5
    clear hHeld
    refine hK.out _ _ (KS.out _ T5) (fun hHeld => ?_)
    clear hK K
    try simp only [Act.put, List.setIfInBounds_toArray, List.set_cons_zero, List.set_cons_succ]
    refine wpAnyH_ready (rs := [6]) (by kernel_rfl) (by simp) ?_
    refine AllReadyH.cons rfl (fun K hK => ?_) AllReadyH.nil
    go_simp
    go_at_call 18; (with_reducible refine (HSm.out v5 _ _ _ _ (HT.out _ T5).1 C8).mono ?_); rintro e v6 ⟨rfl, b6⟩
    go_wp2_with fail
    have T6 : Below w7.heap.size w7 v6 := T5.trans (b6.mono T5.size)
    clear hHeld
    refine hK.out _ _ (KS.out _ T6) (fun hHeld => ?_)
    clear hK K
    try simp only [Act.put, List.setIfInBounds_toArray, List.set_cons_zero, List.set_cons_succ]
    refine take_at (i := 7) (v := ?_) (some 38) rfl (by kernel_rfl) (by kernel_rfl) (by kernel_rfl) (fun _ _ _ h => h) (by kernel_rfl) (Or.inl ⟨by kernel_rfl, ?_⟩) (by assumption) ?_
    rotate_left
    · (intro w hSw; (try dsimp only at hSw); go_simp <;> with_reducible rfl)
    simp only [Act.put, List.setIfInBounds_toArray, List.set_cons_zero, List.set_cons_succ]
    refine take_at (i := 8) (v := ?_) (some 39) rfl (by kernel_rfl) (by kernel_rfl) (by kernel_rfl) (fun _ _ _ h => h) (by kernel_rfl) (Or.inl ⟨by kernel_rfl, ?_⟩) (by assumption) ?_
    rotate_left
    · (intro w hSw; (try dsimp only at hSw); go_simp <;> with_reducible rfl)
    simp only [Act.put, List.setIfInBounds_toArray, List.set_cons_zero, List.set_cons_succ]
    refine take_at (i := 9) (v := ?_) (some 40) rfl (by kernel_rfl) (by kernel_rfl) (by kernel_rfl) (fun _ _ _ h => h) (by kernel_rfl) (Or.inl ⟨by kernel_rfl, ?_⟩) (by assumption) ?_
    rotate_left
    · (intro w hSw; (try dsimp only at hSw); go_simp <;> with_reducible rfl)
    simp only [Act.put, List.setIfInBounds_toArray, List.set_cons_zero, List.set_cons_succ]
    refine take_at (i := 10) (v := ?_) (some 41) rfl (by kernel_rfl) (by kernel_rfl) (by kernel_rfl) (fun _ _ _ h => h) (by kernel_rfl) (Or.inl ⟨by kernel_rfl, ?_⟩) (by assumption) ?_
    rotate_left
    · (intro w hSw; (try dsimp only at hSw); go_simp <;> with_reducible rfl)
    simp only [Act.put, List.setIfInBounds_toArray, List.set_cons_zero, List.set_cons_succ]
    refine take_at (i := 11) (v := ?_) (some 42) rfl (by kernel_rfl) (by kernel_rfl) (by kernel_rfl) (fun _ _ _ h => h) (by kernel_rfl) (Or.inl ⟨by kernel_rfl, ?_⟩) (by assumption) ?_
    rotate_left
    · (intro w hSw; (try dsimp only at hSw); go_simp <;> with_reducible rfl)
    simp only [Act.put, List.setIfInBounds_toArray, List.set_cons_zero, List.set_cons_succ]
    refine take_at (i := 12) (v := ?_) (some 43) rfl (by kernel_rfl) (by kernel_rfl) (by kernel_rfl) (fun _ _ _ h => h) (by kernel_rfl) (Or.inl ⟨by kernel_rfl, ?_⟩) (by assumption) ?_
    rotate_left
    · (intro w hSw; (try dsimp only at hSw); go_simp <;> with_reducible rfl)
    simp only [Act.put, List.setIfInBounds_toArray, List.set_cons_zero, List.set_cons_succ]
    refine take_at (i := 13) (v := ?_) (some 44) rfl (by kernel_rfl) (by kernel_rfl) (by kernel_rfl) (fun _ _ _ h => h) (by kernel_rfl) (Or.inl ⟨by kernel_rfl, ?_⟩) (by assumption) ?_
    rotate_left
    · (intro w hSw; (try dsimp only at hSw); go_simp <;> with_reducible rfl)
    simp only [Act.put, List.setIfInBounds_toArray, List.set_cons_zero, List.set_cons_succ]
    refine take_at (i := 14) (v := ?_) (some 45) rfl (by kernel_rfl) (by kernel_rfl) (by kernel_rfl) (fun _ _ _ h => h) (by kernel_rfl) (Or.inl ⟨by kernel_rfl, ?_⟩) (by assumption) ?_
    rotate_left
    · (intro w hSw; (try dsimp only at hSw); go_simp <;> with_reducible rfl)
    simp only [Act.put, List.setIfInBounds_toArray, List.set_cons_zero, List.set_cons_succ]
    refine take_at (i := 16) (v := ?_) (some 47) rfl (by kernel_rfl) (by kernel_rfl) (by kernel_rfl) (fun _ _ _ h => h) (by kernel_rfl) (Or.inl ⟨by kernel_rfl, ?_⟩) (by assumption) ?_
    rotate_left
    · (intro w hSw; (try dsimp only at hSw); go_simp <;> with_reducible rfl)
    simp only [Act.put, List.setIfInBounds_toArray, List.set_cons_zero, List.set_cons_succ]
    refine wpAnyH_ready (rs := [15]) (by kernel_rfl) (by simp) ?_
    refine AllReadyH.cons rfl (fun K hK => ?_) AllReadyH.nil
    go_simp
    go_at_call 21; (with_reducible refine (HBk.out _ _ _ _ v6 (HT.out _ T6).2.1).mono ?_); rintro e v15 ⟨b15, G8, gc8, D8, dc8, rfl, S8⟩
    go_wp2_with fail
    have T15 : Below w7.heap.size w7 v15 := T6.trans (b15.mono T6.size)
    clear hHeld
    refine hK.out _ _ (KS.out _ T15) (fun hHeld => ?_)
    clear hK K
    try simp only [Act.put, List.setIfInBounds_toArray, List.set_cons_zero, List.set_cons_succ]
    refine wpAnyH_ready (rs := [17]) (by kernel_rfl) (by simp) ?_
    refine AllReadyH.cons rfl (fun K hK => ?_) AllReadyH.nil
    go_simp
    go_at_call 20; (with_reducible refine (HRS.out _ _ _ _ v15 (HT.out _ T15).2.2 S8).mono ?_); rintro e v17 ⟨rfl, b17⟩
    go_wp2_with fail
    have T17 : Below w7.heap.size w7 v17 := T15.trans (b17.mono T15.size)
    clear hHeld
    refine hK.out _ _ (KS.out _ T17) (fun hHeld => ?_)
    clear hK K
    try simp only [Act.put, List.setIfInBounds_toArray, List.set_cons_zero, List.set_cons_succ]
    refine take_at (i := 18) (v := ?_) (some 49) rfl (by kernel_rfl) (by kernel_rfl) (by kernel_rfl) (fun _ _ _ h => h) (by kernel_rfl) (Or.inl ⟨by kernel_rfl, ?_⟩) (by assumption) ?_
    rotate_left
    · (intro w hSw; (try dsimp only at hSw); go_simp <;> with_reducible rfl)
    simp only [Act.put, List.setIfInBounds_toArray, List.set_cons_zero, List.set_cons_succ]
    refine take_at (i := 19) (v := ?_) (some 50) rfl (by kernel_rfl) (by kernel_rfl) (by kernel_rfl) (fun _ _ _ h => h) (by kernel_rfl) (Or.inl ⟨by kernel_rfl, ?_⟩) (by assumption) ?_
    rotate_left
    · (intro w hSw; (try dsimp only at hSw); go_simp <;> with_reducible rfl)
    simp only [Act.put, List.setIfInBounds_toArray, List.set_cons_zero, List.set_cons_succ]
    refine take_at (i := 20) (v := ?_) (some 51) rfl (by kernel_rfl) (by kernel_rfl) (by kernel_rfl) (fun _ _ _ h => h) (by kernel_rfl) (Or.inl ⟨by kernel_rfl, ?_⟩) (by assumption) ?_
    rotate_left
    · (intro w hSw; (try dsimp only at hSw); go_simp <;> with_reducible rfl)
    simp only [Act.put, List.setIfInBounds_toArray, List.set_cons_zero, List.set_cons_succ]
    refine take_at (i := 21) (v := ?_) (some 52) rfl (by kernel_rfl) (by kernel_rfl) (by kernel_rfl) (fun _ _ _ h => h) (by kernel_rfl) (Or.inl ⟨by kernel_rfl, ?_⟩) (by assumption) ?_
    rotate_left
    · (intro w hSw; (try dsimp only at hSw); go_simp <;> with_reducible rfl)
    simp only [Act.put, List.setIfInBounds_toArray, List.set_cons_zero, List.set_cons_succ]
    refine take_at (i := 22) (v := ?_) (some 53) rfl (by kernel_rfl) (by kernel_rfl) (by kernel_rfl) (fun _ _ _ h => h) (by kernel_rfl) (Or.inl ⟨by kernel_rfl, ?_⟩) (by assumption) ?_
    rotate_left
    · (intro w hSw; (try dsimp only at hSw); go_simp <;> with_reducible rfl)
    simp only [Act.put, List.setIfInBounds_toArray, List.set_cons_zero, List.set_cons_succ]
    refine wpAnyH_ready (rs := [23]) (by kernel_rfl) (by simp) ?_
    refine AllReadyH.cons rfl (fun K hK => ?_) AllReadyH.nil
    go_simp
    go_at_call 16; (with_reducible refine (HG.out v17 (HT.out _ T17).2.2).mono ?_); rintro e v23 ⟨b23, G9, gc9, D9, dc9, rfl, S9⟩
    go_wp2_with fail
    have T23 : Below w7.heap.size w7 v23 := T17.trans (b23.mono T17.size)
    clear hHeld
    refine hK.out _ _ (KS.out _ T23) (fun hHeld => ?_)
    clear hK K
    try simp only [Act.put, List.setIfInBounds_toArray, List.set_cons_zero, List.set_cons_succ]
    refine wpAnyH_ready (rs := [24]) (by kernel_rfl) (by simp) ?_
    refine AllReadyH.cons rfl (fun K hK => ?_) AllReadyH.nil
    go_simp
    go_at_call 22; (with_reducible refine (HSS.out _ _ _ _ _ _ _ _ v23 (HT.out _ T23).2.1 S9).mono ?_); rintro e v24 ⟨rfl, b24⟩
    go_wp2_with fail
    have T24 : Below w7.heap.size w7 v24 := T23.trans (b24.mono T23.size)
    clear hHeld
    refine hK.out _ _ (KS.out _ T24) (fun hHeld => ?_)
    clear hK K
    try simp only [Act.put, List.setIfInBounds_toArray, List.set_cons_zero, List.set_cons_succ]
    refine take_at (i := 25) (v := ?_) (some 56) rfl (by kernel_rfl) (by kernel_rfl) (by kernel_rfl) (fun _ _ _ h => h) (by kernel_rfl) (Or.inl ⟨by kernel_rfl, ?_⟩) (by assumption) ?_
    rotate_left
    · (intro w hSw; (try dsimp only at hSw); go_simp <;> with_reducible rfl)
    simp only [Act.put, List.setIfInBounds_toArray, List.set_cons_zero, List.set_cons_succ]
    refine take_at (i := 26) (v := ?_) (some 57) rfl (by kernel_rfl) (by kernel_rfl) (by kernel_rfl) (fun _ _ _ h => h) (by kernel_rfl) (Or.inl ⟨by kernel_rfl, ?_⟩) (by assumption) ?_
    rotate_left
    · (intro w hSw; (try dsimp only at hSw); go_simp <;> with_reducible rfl)
    simp only [Act.put, List.setIfInBounds_toArray, List.set_cons_zero, List.set_cons_succ]
    refine take_at (i := 27) (v := ?_) (some 58) rfl (by kernel_rfl) (by kernel_rfl) (by kernel_rfl) (fun _ _ _ h => h) (by kernel_rfl) (Or.inl ⟨by kernel_rfl, ?_⟩) (by assumption) ?_
    rotate_left
    · (intro w hSw; (try dsimp only at hSw); go_simp <;> with_reducible rfl)
    simp only [Act.put, List.setIfInBounds_toArray, List.set_cons_zero, List.set_cons_succ]
    refine take_at (i := 28) (v := ?_) (some 59) rfl (by kernel_rfl) (by kernel_rfl) (by kernel_rfl) (fun _ _ _ h => h) (by kernel_rfl) (Or.inl ⟨by kernel_rfl, ?_⟩) (by assumption) ?_
    rotate_left
    · (intro w hSw; (try dsimp only at hSw); go_simp <;> with_reducible rfl)
    simp only [Act.put, List.setIfInBounds_toArray, List.set_cons_zero, List.set_cons_succ]
    refine wpAnyH_ready (rs := [29]) (by kernel_rfl) (by simp) ?_
    refine AllReadyH.cons rfl (fun K hK => ?_) AllReadyH.nil
    go_simp
    go_at_call 23; (with_reducible refine (HCk.out _ _ v24 (HT.out _ T24).2.2 (HT.out _ T24).1).mono ?_); rintro e v29 ⟨rfl, b29⟩
    go_wp2_with fail
    have T29 : Below w7.heap.size w7 v29 := T24.trans (b29.mono T24.size)
    clear hHeld
    refine hK.out _ _ (KS.out _ T29) (fun hHeld => ?_)
    clear hK K
    try simp only [Act.put, List.setIfInBounds_toArray, List.set_cons_zero, List.set_cons_succ]
    refine take_at (i := 30) (v := ?_) (some 61) rfl (by kernel_rfl) (by kernel_rfl) (by kernel_rfl) (fun _ _ _ h => h) (by kernel_rfl) (Or.inl ⟨by kernel_rfl, ?_⟩) (by assumption) ?_
    rotate_left
    · (intro w hSw; (try dsimp only at hSw); go_simp <;> with_reducible rfl)
    simp only [Act.put, List.setIfInBounds_toArray, List.set_cons_zero, List.set_cons_succ]
    refine take_at (i := 31) (v := ?_) (some 62) rfl (by kernel_rfl) (by kernel_rfl) (by kernel_rfl) (fun _ _ _ h => h) (by kernel_rfl) (Or.inl ⟨by kernel_rfl, ?_⟩) (by assumption) ?_
    rotate_left
    · (intro w hSw; (try dsimp only at hSw); go_simp <;> with_reducible rfl)
    simp only [Act.put, List.setIfInBounds_toArray, List.set_cons_zero, List.set_cons_succ]
    refine wpAnyH_done (by kernel_rfl) ?_ _
    skip
    obtain ⟨r, hr⟩ : ∃ r, r = mo.toNat % 200 := ⟨_, rfl⟩
    have hr2 : r < 200 := by omega
    have hm1 : (mo.toNat : Int) % 200 = (r : Int) := by omega
    have hm2 : (mo.toNat : Int).tmod 200 = (r : Int) := by rw [Int.tmod_eq_emod_of_nonneg (by omega)]; omega
    have hmo := mo.toNat_lt
    clear hr
    obtain ⟨C0, S0, R0⟩ := HT.out _ T29
    have hGA := HG.out v29 R0
    obtain ⟨⟨q0, q1, q2, q3⟩, _, _⟩ := KS.out _ T29
    go_wp2_with fail
    refine hGA.mono ?_
    rintro e wA ⟨bA, GA, gcA, DA, dcA, rfl, SA⟩
    have RA := R0.trans (bA.mono R0.size)
    clear hGA q0 q1 q2 q3 C0 S0
    go_upto_region 8 with fail
    have vB : Below wA.heap.size wA (wA.alloc (.cells #[uv s.cum, uv s.win, .slice GA s.gs.length gcA, .slice DA s.ds.length dcA] 38)) := (Below.refl _ _).alloc (Nat.le_refl _) _
    have yB := Whole.new wA 38 #[uv s.cum, uv s.win, .slice GA s.gs.length gcA, .slice DA s.ds.length dcA]
    have RB := RA.trans (vB.mono RA.size)
    have h29 := R0.size
    have hAs := RA.size
    generalize wA.alloc (.cells #[uv s.cum, uv s.win, .slice GA s.gs.length gcA, .slice DA s.ds.length dcA] 38) = wB at *
    generalize hgA : wA.heap.size = gA at *
    have hgAl : w2.heap.size ≤ gA := by omega
    clear RA bA hgA
    have f3 := yB.frozen 3
    have e3 := (wh4 yB).2.2.2
    have hy := yB.lt
    go_upto_region 9 with (at_make; refine wpList_make_14 _ rfl (.tmp 68) (.tmp 68) rfl (16300 + (r : Int)) (16300 + r) rfl rfl (by omega) (by omega) ?_; intro wC ownC bC; have yC := yB.below bC hy; have f3 := yC.frozen 3; have e3 := (wh4 yC).2.2.2)
    have yD := yC.set_ 3 (.slice (some ⟨wB.heap.size, 0, none⟩) (16300 + r) (16300 + r))
    have RC := RB.trans (bC.mono RB.size)
    have RD := RC.setCell (p := ⟨gA, 3, none⟩) hgAl (.slice (some ⟨wB.heap.size, 0, none⟩) (16300 + r) (16300 + r))
    have lD := Lies.own (own_set13 (i := 3) (u := .slice (some ⟨wB.heap.size, 0, none⟩) (16300 + r) (16300 + r)) ownC yC (by decide))
    have bGD : Below gA wA (wC.setCell ⟨gA, 3, none⟩ (.slice (some ⟨wB.heap.size, 0, none⟩) (16300 + r) (16300 + r))) := (vB.trans (bC.mono (by omega))).setCell (p := ⟨gA, 3, none⟩) (Nat.le_refl _) _
    have gD := (SA.gl.below bGD).more (show gA ≤ (wC.setCell ⟨gA, 3, none⟩ (.slice (some ⟨wB.heap.size, 0, none⟩) (16300 + r) (16300 + r))).heap.size by have := bC.size; simp; omega)
    generalize wC.setCell ⟨gA, 3, none⟩ (.slice (some ⟨wB.heap.size, 0, none⟩) (16300 + r) (16300 + r)) = wD at *
    have yE : Whole wD gA 38 #[uv s.cum, uv s.win, .slice GA s.gs.length gcA, .slice (some ⟨wB.heap.size, 0, none⟩) (16300 + r) (16300 + r)] := yD
    have xD := x2.below RD hg2
    have hM := HM2.out (16300 + r) GA gcA _ wD (by omega) RD gD lD
    clear yC yB yD bC RC RB SA vB bGD ownC f3 e3 lD gD
    obtain ⟨e0, e1, e2, e3⟩ := wh4 yE
    obtain ⟨q0, q1, q2, q3⟩ := wh4 xD
    go_wp2_with fail
    refine hM.mono ?_
    rintro e wE ⟨bE, ⟨hle, AE, cE, n2, xx2, rfl, CE, HCE⟩ | ⟨hle, rfl⟩⟩
    · have yF := yE.below bE yE.lt
      have xF := xD.below bE xD.lt
      have RE := RD.trans (bE.mono RD.size)
      clear e0 e1 e2 e3 q0 q1 q2 q3 yE xD hM bE RD
      have hgi : (16300 : Int) + (r : Int) + (s.gs.length : Int) ≤ 16379 := by omega
      obtain ⟨e0, e1, e2, e3⟩ := wh4 yF
      obtain ⟨q0, q1, q2, q3⟩ := wh4 xF
      go_upto_region 10 with fail
      have vF : Below wE.heap.size wE (wE.alloc (.cells #[.int .u8 3, .int .u8 0, .slice AE n2 cE, .slice none 0 0] 33)) := (Below.refl _ _).alloc (Nat.le_refl _) _
      have zG := Whole.new wE 33 #[.int .u8 3, .int .u8 0, .slice AE n2 cE, .slice none 0 0]
      have yG := yF.below vF yF.lt
      have xG := xF.below vF xF.lt
      have CG := CE.on vF
      have RG := RE.trans (vF.mono RE.size)
      generalize wE.alloc (.cells #[.int .u8 3, .int .u8 0, .slice AE n2 cE, .slice none 0 0] 33) = wG at *
      generalize wE.heap.size = gG at *
      clear e0 e1 e2 e3 q0 q1 q2 q3 yF xF CE vF RE
      obtain ⟨e0, e1, e2, e3⟩ := wh4 yG
      obtain ⟨q0, q1, q2, q3⟩ := wh4 xG
      obtain ⟨m0, m1, m2, m3⟩ := wh4 zG
      have hK := HCE AE cE wG RG CG
      go_wp2_with fail
      refine hK.mono ?_
      rintro e wH ⟨rfl, bH⟩
      go_wp2_with fail
      go_ret
      exact ⟨rfl, HB2.out.trans ((RG.trans (bH.mono RG.size)).mono HB2.out.size)⟩
    · have yF := yE.below bE yE.lt
      have xF := xD.below bE xD.lt
      have RE := RD.trans (bE.mono RD.size)
      clear e0 e1 e2 e3 q0 q1 q2 q3 yE xD hM bE RD
      have hgi : ¬ (16300 : Int) + (r : Int) + (s.gs.length : Int) ≤ 16379 := by omega
      obtain ⟨e0, e1, e2, e3⟩ := wh4 yF
      obtain ⟨q0, q1, q2, q3⟩ := wh4 xF
      go_upto_region 10 with fail
      have vF : Below wE.heap.size wE (wE.alloc (.cells #[.int .u8 0, .int .u8 0, .slice none 0 0, .slice none 0 0] 33)) := (Below.refl _ _).alloc (Nat.le_refl _) _
      have zG := Whole.new wE 33 #[.int .u8 0, .int .u8 0, .slice none 0 0, .slice none 0 0]
      have yG := yF.below vF yF.lt
      have xG := xF.below vF xF.lt
      have RG := RE.trans (vF.mono RE.size)
      generalize wE.alloc (.cells #[.int .u8 0, .int .u8 0, .slice none 0 0, .slice none 0 0] 33) = wG at *
      generalize wE.heap.size = gG at *
      clear e0 e1 e2 e3 q0 q1 q2 q3 yF xF vF RE
      obtain ⟨e0, e1, e2, e3⟩ := wh4 yG
      obtain ⟨q0, q1, q2, q3⟩ := wh4 xG
      obtain ⟨m0, m1, m2, m3⟩ := wh4 zG
      have hK : Calls Tryz.prog 18 #[.agg #[.int .u8 0, .int .u8 0, .slice none 0 0, .slice none 0 0], .agg #[.int .u8 0, .int .u8 0, .slice none 0 0, .slice none 0 0]] wG fun e w' => e = .returned (.bool true) ∧ Below wG.heap.size wG w' := by
        have h9 := rcsame12 zck14 zck14 (by simp [zck14]) (by simp [zck14]) (by simp [zck14]) none 0 none 0 none 0 none 0 wG (zck14_lies _ _) (zck14_lies _ _)
        rw [ckEq_self14] at h9
        exact h9
      go_wp2_with fail
      refine hK.mono ?_
      rintro e wH ⟨rfl, bH⟩
      go_wp2_with fail
      go_ret
      exact ⟨ret_bool (by rw [decide_eq_false (by omega)]; rfl), HB2.out.trans ((RG.trans (bH.mono RG.size)).mono HB2.out.size)⟩
set_option maxRecDepth 100000 in
theorem law_SackMatchesReference {H : Type} {enc : TypeId × Value → H} {W : World} {base : Nat} {v0 v1 : Value} {d0 d1 : DataW H} {p0 p1 : List MemPlace}
    (o0 : Value.okWide Tryz.prog W .any base 26 v0) (h0 : DataW.Trod enc Tryz.prog W 0 (fun _ => true) true 26 v0 d0 p0) (s0 : Small Tryz.prog 26 d0)
    (o1 : Value.okWide Tryz.prog W .any base 27 v1) (h1 : DataW.Trod enc Tryz.prog W 0 (fun _ => true) true 27 v1 d1 p1) (_s1 : Small Tryz.prog 27 d1) (hL : laidMetH Tryz.prog laidL W) :
    Calls Tryz.prog 3 #[v0, v1] W fun e w' => e = .returned (.bool true) ∧ Below W.heap.size W w' := by
  obtain ⟨q, G, gc, D, dc, rfl, hq⟩ := open_sack o0 h0 s0
  obtain ⟨t, rfl, _, _, wt⟩ := open_int Tryz.underlying27 o1 h1
  rw [hv_of' (wf_u16 wt)]
  exact smr_law q _ G gc D dc W hq (handle_of_laid hL)
end Go.Proofs.YtabljmiiekpgiaaGreatDoor


