/- Layer 10: the law CauseBytes. It writes nothing that was there. -/
import Derived.Test.YtdnilbebdgohnaaCauseL
import Derived.Test.YtdnilbebdgohnaaSame


namespace Go.Proofs.Ytdnilbebdgohnaa
open Go.ChangeShapes Go.WideShapes Go.ChangeAt Go.RowKit
set_option linter.unusedSimpArgs false
set_option linter.unusedVariables false

theorem conv_string (A : Option Addr) (c B : Nat) (l : List UInt8) (W : World) (h : Lies W B A (l.map bv)) : (convert 25 9 (.slice A l.length c)).run Try.prog W = .ok (.string (str l)) W := by
  rcases A with _ | ad
  · have hl : l = [] := by
      cases l with
      | nil => rfl
      | cons x l => obtain ⟨ad, h3, _⟩ := h (by simp); cases h3
    subst hl
    exact run_convert_bytes_nil W 25 5 Try.underlying25 Try.underlying5 _ _ _ Try.underlying9
  · refine run_convert_bytes_back W 25 9 5 ad c l Try.underlying25 Try.underlying5 Try.underlying9 fun j hj => ?_
    obtain ⟨ad', h3, _, h4⟩ := h (by intro e; simp at e; subst e; simp at hj)
    cases h3
    exact h4 j _ (by rw [List.getElem?_map, List.getElem?_eq_getElem hj]; rfl)
/-- what the check leaves is right, or the zero node -/
theorem right10_ret (Lt : List UInt16) (nd : Nd) (hf : Fine nd) (A : Option Addr) (c : Nat) (K : Option Addr) (k : Nat) (w : World) (hN : Node w w.heap.size A c K k ((rightO Lt nd).getD zN)) :
    Calls Try.prog 12 #[ndV ((rightO Lt nd).getD zN) A c K k, .bool (rightO Lt nd).isSome] w fun e w' => e = .returned (.bool true) ∧ Below w.heap.size w w' := by
  cases hok : okC Lt nd with
  | false =>
    have e : rightO Lt nd = none := by unfold rightO; rw [hok]; rfl
    rw [e] at hN ⊢
    have h := right10_no zN A c K k w hN
    rw [(Nd.beq_eq zN zN).2 rfl] at h
    exact h
  | true =>
    have e : rightO Lt nd = some nd := by unfold rightO; rw [hok]; rfl
    rw [e] at hN ⊢
    have h := right10_yes nd A c K k w hN hf
    have hz : chk 4 2 nd = 0 := by
      unfold okC at hok
      simp only [Bool.and_eq_true, decide_eq_true_eq] at hok
      exact hok.2
    rw [hz] at h
    exact h
theorem wpList_make_b (w : World) {ops : Array Oper} {rest : List Oper} {o : Oper} {a : Act} {Q : Exit → Act → World → Prop}
    (hg : o.guard = none) (l c : Operand) (hop : o.op = Op.makeSlice 25 l c)
    (L : Int) (n : Nat) (hl : a.eval l = .int .i64 L) (hc : a.eval c = .int .i64 L) (hL : L = (n : Int)) (hn : n ≤ 10000000)
    (hK : ∀ w', w'.ownsRow w.heap.size 5 1 (.slice (some ⟨w.heap.size, 0, none⟩) n n) n ((List.replicate n (0 : UInt8)).map bv) → Below w.heap.size w w' → wpList Try.prog ops Q rest (a.put o.dst (.slice (some ⟨w.heap.size, 0, none⟩) n n)) w') :
    wpList Try.prog ops Q (o :: rest) a w := by
  obtain ⟨i0, hi, hz0, hz1, hz2⟩ := info_parts u8info
  refine wpList_make_full w hg l c 25 hop w.heap.size 5 i0 (.int .u8 0) 1 Try.underlying25 hi hz0 hz1 .i64 .i64 L L n hl hc hL hL (by rw [hz2]; omega) (by unfold maxLen; omega) (Nat.le_refl _) ?_
  intro w' hown hgrow
  refine hK w' ?_ ((Below.refl _ w).grown hgrow (Nat.le_refl _) (by simp))
  rw [List.map_replicate, show bv 0 = Value.int .u8 0 from rfl]
  simpa [toList_madeCells_one, Value.cells] using hown
/-! ### the law -/
theorem own_at10 {w : World} {base e n c : Nat} {A : Option Addr} {xs : List Value} (h : w.ownsRow base e 1 (.slice A n c) n xs) {k : Nat} (hk : k < n) : ∃ g x, A = some ⟨g, 0, none⟩ ∧ Hid (xs[k]? = some x) ∧ w.cell? ⟨g, k, none⟩ = some x ∧ w.frozen? ⟨g, k, none⟩ = false ∧ base ≤ g ∧ g < w.heap.size := by
  rcases h.2 with ⟨h1, h2⟩ | ⟨g, cap, cur, h1, h2, h3, _⟩
  · omega
  · simp only [Value.slice.injEq] at h1
    obtain ⟨rfl, _, rfl⟩ := h1
    have hx : k < xs.length := by rw [h.1]; omega
    exact ⟨g, xs[k], rfl, List.getElem?_eq_getElem hx, by rw [h.cellAt k (by omega), List.getElem?_eq_getElem hx], h.frozenAt k, h2, (Array.getElem?_eq_some_iff.1 h3).1⟩
theorem whole_own10 {w : World} {base e g n : Nat} {xs : List Value} (h : Whole w g e xs.toArray) (hb : base ≤ g) (hn : xs.length = n) (hm : n ≤ maxLen) : w.ownsRow base e 1 (.slice (some ⟨g, 0, none⟩) n n) n xs :=
  ⟨by omega, .inr ⟨g, n, xs.toArray, rfl, hb, h, Nat.le_refl _, hm, by simp; omega, by rw [List.take_of_length_le (by simp; omega)]⟩⟩
theorem own_store' {w : World} {base g n c : Nat} {l : List UInt8} (h : w.ownsRow base 5 1 (.slice (some ⟨g, 0, none⟩) n c) n (l.map bv)) (i : Nat) (x : UInt8) :
    (w.setCell ⟨g, i, none⟩ (.int .u8 (x.toNat : Int))).ownsRow base 5 1 (.slice (some ⟨g, 0, none⟩) n c) n ((l.set i x).map bv) := by
  rw [List.map_set]
  exact (h.stored i (bv x)).1
theorem types_1213 (t : UInt16) : (((t.toNat : Int) == 12) = true ∧ (t = 12 ∨ t = 13)) ∨ (((t.toNat : Int) == 12) = false ∧ ((t.toNat : Int) == 13) = true ∧ (t = 12 ∨ t = 13)) ∨ (((t.toNat : Int) == 12) = false ∧ ((t.toNat : Int) == 13) = false ∧ ¬ (t = 12 ∨ t = 13)) := by
  by_cases h1 : t = 12
  · subst h1; exact .inl ⟨rfl, .inl rfl⟩
  · have e1 : ((t.toNat : Int) == 12) = false := by
      rw [beq_eq_false_iff_ne]; exact fun e => h1 (UInt16.toNat_inj.1 (by have : (12 : UInt16).toNat = 12 := rfl; omega))
    by_cases h2 : t = 13
    · subst h2; exact .inr (.inl ⟨rfl, rfl, .inr rfl⟩)
    · refine .inr (.inr ⟨e1, ?_, fun h => h.elim h1 h2⟩)
      rw [beq_eq_false_iff_ne]; exact fun e => h2 (UInt16.toNat_inj.1 (by have : (13 : UInt16).toNat = 13 := rfl; omega))
set_option maxRecDepth 100000 in
set_option maxHeartbeats 16000000 in
theorem cb_short (A : Option Addr) (c : Nat) (b : List UInt8) (t : UInt16) (w : World) (h : Lies w w.heap.size A (b.map bv)) (hc : b.length ≤ c) (hcm : c ≤ maxLen) (hl : b.length ≤ 1000) :
    Calls Try.prog 6 #[.slice A b.length c, hv t, .bool false] w fun e w' => e = .returned (.bool true) ∧ Below w.heap.size w w' := by
  have hl' : ¬ (1000 : Int) < (b.length : Int) := by omega
  have H1 := Lib.hid (one_bytes b)
  go_enter Try.func6, Try.ntmps6
  go_wp2_with fail
  refine (awake10_any w).mono ?_
  rintro e w1 ⟨rfl, b1⟩
  have hL1 := (h.below b1).more b1.size
  have hcv := conv_string A c _ b w1 hL1
  have hE := own_empty w1 w1.heap.size (Nat.le_refl _)
  have hL0 := b1.size
  go_wp2_with (at_builtin; refine wpList_append_lies _ rfl (.tmp 24) (.tmp 25) 25 rfl w1.heap.size 5 _ 1 Try.underlying25 u8info rfl _ _ _ rfl hE _ _ b.length c (b.map bv) rfl (by simp) ((hL1.alloc (Nat.le_refl _) _).more (B' := w1.heap.size + 1) (by omega)) H1.out (by omega) (by unfold maxLen; omega) (by simp) ?_; intro A8 c8 w3 hown3 hgrow3 _)
  simp only [Nat.zero_add, List.nil_append] at hown3
  have b3 := ((Below.refl _ w1).alloc (Nat.le_refl _) (.cells #[] 5)).grown hgrow3 (by simp) (fun k e => by cases e; exact Nat.le_refl _)
  have B3 := b1.trans (b3.mono b1.size)
  clear hgrow3

  obtain ⟨L0, hL0e⟩ : ∃ L0, w1.heap.size = L0 := ⟨_, rfl⟩
  rw [hL0e] at hown3 hL0
  have l3 := Lies.own hown3
  have m3 := (own_cap hown3).2.1
  have m4 := (own_cap hown3).2.2
  have hMb : b.length ≤ 100000 := by omega
  clear hcv hE hL0e hl' H1 hL1 hc hcm h
  have hq5 : (b.length : Int) ≤ 65531 := by omega
  by_cases h4 : 4 ≤ b.length
  · have hq4 : (4 : Int) ≤ (b.length : Int) := by omega
    rcases types_1213 t with ⟨t1, ht0⟩ | ⟨t1, t2, ht0⟩ | ⟨t1, t2, ht0⟩
    · skip
      have hC := chunk10_any A8 c8 (b) w3 l3 m3 m4 (by have := hMb; omega)
      have HG := Lib.hid (fun A c K k W hN => right10_ret [6] (.mk 6 (b) []) (fine_small (by show (b).length ≤ 800000; omega) rfl) A c K k W hN)
      rw [chunk_right] at HG
      have HGm := Lib.hid (fun A c K k W hN => right10_ret [12, 13] (.mk t (b) []) (fine_small (by show (b).length ≤ 800000; omega) rfl) A c K k W hN)
      rw [msg_right] at HGm
      have HMs := Lib.hid (fun W => message10_any t (b) W (by omega))
      have hck : chunkO (b) = some (.mk 6 (b) []) := by unfold chunkO; rw [if_pos (by exact ⟨by omega, by omega⟩)]
      have hmk : msgO t (b) = some (.mk t (b) []) := by unfold msgO; rw [if_pos (by exact ⟨ht0, by omega⟩)]
      rw [hck] at hC HG
      rw [hmk] at HMs HGm
      have HCV := Lib.hid (fun A c B W (h : Lies W B A ((b).map bv)) => conv_string A c B (b) W h)
      have hsz : (str (b)).size = b.length := by rw [str_size]
      clear hck hmk ht0
      generalize str (b) = s at *
      go_wp2_with fail
      refine Calls.mono (R := RetN w3 (some (.mk 6 (b) []))) hC ?_
      rintro e w4 ⟨b4, A4, c4, K4, k4, rfl, hN4⟩
      simp only [Option.getD_some, Option.isSome_some, Option.getD_none, Option.isSome_none] at hN4 ⊢
      have bn := (Below.refl w4.heap.size w4).alloc (Nat.le_refl _) (.cells #[.int .u16 6, .slice A4 b.length c4, .slice K4 0 k4] 28)
      have x4 := Whole.new w4 28 #[.int .u16 6, .slice A4 b.length c4, .slice K4 0 k4]
      have o4 := (own_below' hown3 b4).alloc (.cells #[.int .u16 6, .slice A4 b.length c4, .slice K4 0 k4] 28)
      have B4 := (B3.trans (b4.mono B3.size)).trans (bn.mono (B3.trans (b4.mono B3.size)).size)
      have hN4v : NodeS (w4.alloc (.cells #[.int .u16 6, .slice A4 b.length c4, .slice K4 0 k4] 28)) (NewS w3 w4) A4 c4 K4 k4 (.mk 6 (b) []) := hN4.turn (fun q hq => World.cell?_alloc_lt w4 _ q hq.2) (fun _ h => h)
      have hgx : ∀ g, (w3.heap.size ≤ g ∧ g < w4.heap.size) ∨ g = w4.heap.size → w3.heap.size ≤ g := fun g hg => by have := b4.size; omega
      have hs4 := b4.size
      unfold ndV
      simp only [Nd.t, Nd.v, Nd.ks, zN, List.length_nil]
      go_upto_region 9 with fail
      have hsz4 : (w4.alloc (.cells #[.int .u16 6, .slice A4 b.length c4, .slice K4 0 k4] 28)).heap.size = w4.heap.size + 1 := by simp
      generalize w4.alloc (.cells #[.int .u16 6, .slice A4 b.length c4, .slice K4 0 k4] 28) = v4 at *
      clear hC b4 hN4 bn
      go_wp2_with fail
      go_loopw [11] (fun i wr => ∃ (k : Nat) (l : List UInt8), k ≤ b.length ∧ i = .int .i64 k ∧ l.length = b.length ∧ wr.ownsRow L0 5 1 (.slice A8 b.length c8) b.length (l.map bv) ∧ (∀ q : Addr, w3.heap.size ≤ q.block → wr.cell? q = v4.cell? q) ∧ wr.heap.size = v4.heap.size ∧ Below w.heap.size w wr) (fun i _ => b.length - (intOf i).toNat)
      case atStart => exact ⟨0, b, Nat.zero_le _, rfl, rfl, o4, fun _ _ => rfl, rfl, B4⟩
      case round =>
        obtain ⟨k, l, hk, rfl, hll, hor, hsame, hsize, hbel⟩ := hrel
        by_cases hlt : k < b.length
        · obtain ⟨g, x, hA, hx, hcc, hfr, hgb, hgl⟩ := own_at10 hor hlt
          subst hA
          obtain ⟨x0, hx0⟩ : ∃ x0 : UInt8, l[k]? = some x0 := ⟨_, List.getElem?_eq_getElem (by omega)⟩
          obtain rfl : x = bv x0 := by have := hx.out; rw [List.getElem?_map, hx0] at this; exact (Option.some.inj this).symm
          have hg3 : g < w3.heap.size := by
            rcases hown3.2 with ⟨q1, _⟩ | ⟨g', cap, cur, q1, _, q3, _⟩
            · cases q1
            · simp only [Value.slice.injEq, Option.some.injEq, Addr.mk.injEq, and_true, true_and] at q1
              rw [q1.1]; exact (Array.getElem?_eq_some_iff.1 q3).1
          have HST := Lib.hid (own_store' hor k (UInt8.ofNat ((x0.toNat + 1) % 256)))
          have hval : ((UInt8.ofNat ((x0.toNat + 1) % 256)).toNat : Int) = ((x0.toNat : Int) + 1) % 256 := by rw [UInt8.toNat_ofNat']; omega
          rw [hval] at HST
          have HSM : Hid (∀ q : Addr, w3.heap.size ≤ q.block → (wr.setCell ⟨g, k, none⟩ (.int .u8 (((x0.toNat : Int) + 1) % 256))).cell? q = v4.cell? q) := fun q hq => by
            rw [World.cell?_setCell_other _ _ _ _ (fun e => by rw [← e] at hq; simp at hq; omega)]; exact hsame q hq
          have HBW : Hid (Below w.heap.size w (wr.setCell ⟨g, k, none⟩ (.int .u8 (((x0.toNat : Int) + 1) % 256)))) := hbel.setCell (Nat.le_trans hL0 hgb) _
          have HSZ : Hid ((wr.setCell ⟨g, k, none⟩ (.int .u8 (((x0.toNat : Int) + 1) % 256))).heap.size = v4.heap.size) := by rw [← hsize]; simp [Hid, World.setCell]
          have HLL : Hid ((l.set k (UInt8.ofNat ((x0.toNat + 1) % 256))).length = b.length) := by unfold Hid; rw [List.length_set]; exact hll
          have hi1 : (k : Int) < (b.length : Int) := by omega
          have hi2 : (k : Int) ≤ 100000 := by have := hMb; omega
          clear hval hx hx0 hor
          go_wp2_with fail
          go_roundw
          case rel => exact ⟨k + 1, _, by omega, by go_num, HLL.out, HST.out, HSM.out, HSZ.out, HBW.out⟩
          case measure => simp [intOf]; omega
        · have hke : k = b.length := by omega
          subst hke
          have x5 : wr.cell? ⟨w4.heap.size, 0, none⟩ = some (.int .u16 6) ∧ wr.cell? ⟨w4.heap.size, 1, none⟩ = some (.slice A4 b.length c4) ∧ wr.cell? ⟨w4.heap.size, 2, none⟩ = some (.slice K4 0 k4) := by
            obtain ⟨y0, y1, y2, _⟩ := x4.three
            exact ⟨(hsame _ hs4).trans y0, (hsame _ hs4).trans y1, (hsame _ hs4).trans y2⟩
          have hN5 : NodeS wr (NewS w3 w4) A4 c4 K4 k4 (.mk 6 (b) []) := hN4v.turn (fun q hq => hsame q hq.1) (fun _ h => h)
          have hN5n : Node wr wr.heap.size A4 c4 K4 k4 (.mk 6 (b) []) := hN5.node fun b hb => by have := hb.2; omega
          have hlt4 : w4.heap.size < wr.heap.size := by omega
          clear hor hsame x4 hN4v o4 hown3 l3 hgx
          go_wp2_with fail
          refine Calls.mono (R := RetN wr (some (.mk t (b) []))) (HMs.out wr) ?_
          rintro e w6 ⟨b6, A6, c6, K6, k6, rfl, hN6⟩
          simp only [Option.getD_some, Option.isSome_some, Option.getD_none, Option.isSome_none] at hN6 ⊢
          have bn6 := (Below.refl w6.heap.size w6).alloc (Nat.le_refl _) (.cells #[hv t, .slice A6 b.length c6, .slice K6 0 k6] 28)
          have y6 := Whole.new w6 28 #[hv t, .slice A6 b.length c6, .slice K6 0 k6]
          have b46 := b6.trans (bn6.mono b6.size)
          have B6 := hbel.trans (b46.mono hbel.size)
          have hN7 := hN5n.on b46
          have hM7 := (hN6.node (B := w6.heap.size) fun b hb => hb.2).on bn6
          have x6 := (b46.cell (p := ⟨w4.heap.size, 0, none⟩) hlt4).trans x5.1
          have x6b := (b46.cell (p := ⟨w4.heap.size, 1, none⟩) hlt4).trans x5.2.1
          have x6c := (b46.cell (p := ⟨w4.heap.size, 2, none⟩) hlt4).trans x5.2.2
          have hlt6 : w4.heap.size < (w6.alloc (.cells #[hv t, .slice A6 b.length c6, .slice K6 0 k6] 28)).heap.size := Nat.lt_of_lt_of_le hlt4 b46.size
          unfold ndV
          simp only [Nd.t, Nd.v, Nd.ks, zN, List.length_nil]
          go_upto_region 14 with fail
          generalize w6.alloc (.cells #[hv t, .slice A6 b.length c6, .slice K6 0 k6] 28) = v6 at *
          obtain ⟨r0, r1, r2, _, _, _⟩ := y6.three
          have hR : Calls Try.prog 12 #[.agg #[.int .u16 6, .slice A4 b.length c4, .slice K4 0 k4], .bool true] v6 (fun e w' => e = .returned (.bool true) ∧ Below v6.heap.size v6 w') := by have h := HG.out A4 c4 K4 k4 v6 hN7; simp only [ndV, Option.getD_some, Option.isSome_some, Nd.t, Nd.v, Nd.ks, List.length_nil] at h; exact h
          clear x5 hN5 hN5n hN6 b6 bn6 b46 HMs
          go_wp2_with fail
          refine hR.mono ?_
          rintro e w7 ⟨rfl, b7⟩
          have B7 := B6.trans (b7.mono B6.size)
          have hM8 := hM7.on b7
          have hN8 := hN7.on b7
          have hRm : Calls Try.prog 12 #[.agg #[hv t, .slice A6 b.length c6, .slice K6 0 k6], .bool true] w7 (fun e w' => e = .returned (.bool true) ∧ Below w7.heap.size w7 w') := by have h := HGm.out A6 c6 K6 k6 w7 hM8; simp only [ndV, Option.getD_some, Option.isSome_some, Nd.t, Nd.v, Nd.ks, List.length_nil] at h; exact h
          have u0 := (b7.cell (p := ⟨w6.heap.size, 0, none⟩) y6.lt).trans r0
          have u1 := (b7.cell (p := ⟨w6.heap.size, 1, none⟩) y6.lt).trans r1
          have u2 := (b7.cell (p := ⟨w6.heap.size, 2, none⟩) y6.lt).trans r2
          have q0 := (b7.cell (p := ⟨w4.heap.size, 0, none⟩) hlt6).trans x6
          have q1 := (b7.cell (p := ⟨w4.heap.size, 1, none⟩) hlt6).trans x6b
          have q2 := (b7.cell (p := ⟨w4.heap.size, 2, none⟩) hlt6).trans x6c
          have hy7 : w6.heap.size < w7.heap.size := Nat.lt_of_lt_of_le y6.lt b7.size
          have hx7 : w4.heap.size < w7.heap.size := Nat.lt_of_lt_of_le hlt6 b7.size
          clear r0 r1 r2 x6 x6b x6c hR y6
          go_wp2_with fail
          refine hRm.mono ?_
          rintro e w8 ⟨rfl, b8⟩
          have B8 := B7.trans (b8.mono B7.size)
          have f0 := (b8.cell (p := ⟨w6.heap.size, 0, none⟩) hy7).trans u0
          have f1 := (b8.cell (p := ⟨w6.heap.size, 1, none⟩) hy7).trans u1
          have f2 := (b8.cell (p := ⟨w6.heap.size, 2, none⟩) hy7).trans u2
          have g0 := (b8.cell (p := ⟨w4.heap.size, 0, none⟩) hx7).trans q0
          have g1 := (b8.cell (p := ⟨w4.heap.size, 1, none⟩) hx7).trans q1
          have g2 := (b8.cell (p := ⟨w4.heap.size, 2, none⟩) hx7).trans q2
          have cv1 := HCV.out A4 c4 _ w8 (hN8.on b8).data
          have cv2 := HCV.out A6 c6 _ w8 (hM8.on b8).data
          clear u0 u1 u2 q0 q1 q2 hRm
          go_wp2_with fail
          go_ret
          exact ⟨rfl, B8⟩
    · skip
      have hC := chunk10_any A8 c8 (b) w3 l3 m3 m4 (by have := hMb; omega)
      have HG := Lib.hid (fun A c K k W hN => right10_ret [6] (.mk 6 (b) []) (fine_small (by show (b).length ≤ 800000; omega) rfl) A c K k W hN)
      rw [chunk_right] at HG
      have HGm := Lib.hid (fun A c K k W hN => right10_ret [12, 13] (.mk t (b) []) (fine_small (by show (b).length ≤ 800000; omega) rfl) A c K k W hN)
      rw [msg_right] at HGm
      have HMs := Lib.hid (fun W => message10_any t (b) W (by omega))
      have hck : chunkO (b) = some (.mk 6 (b) []) := by unfold chunkO; rw [if_pos (by exact ⟨by omega, by omega⟩)]
      have hmk : msgO t (b) = some (.mk t (b) []) := by unfold msgO; rw [if_pos (by exact ⟨ht0, by omega⟩)]
      rw [hck] at hC HG
      rw [hmk] at HMs HGm
      have HCV := Lib.hid (fun A c B W (h : Lies W B A ((b).map bv)) => conv_string A c B (b) W h)
      have hsz : (str (b)).size = b.length := by rw [str_size]
      clear hck hmk ht0
      generalize str (b) = s at *
      go_wp2_with fail
      refine Calls.mono (R := RetN w3 (some (.mk 6 (b) []))) hC ?_
      rintro e w4 ⟨b4, A4, c4, K4, k4, rfl, hN4⟩
      simp only [Option.getD_some, Option.isSome_some, Option.getD_none, Option.isSome_none] at hN4 ⊢
      have bn := (Below.refl w4.heap.size w4).alloc (Nat.le_refl _) (.cells #[.int .u16 6, .slice A4 b.length c4, .slice K4 0 k4] 28)
      have x4 := Whole.new w4 28 #[.int .u16 6, .slice A4 b.length c4, .slice K4 0 k4]
      have o4 := (own_below' hown3 b4).alloc (.cells #[.int .u16 6, .slice A4 b.length c4, .slice K4 0 k4] 28)
      have B4 := (B3.trans (b4.mono B3.size)).trans (bn.mono (B3.trans (b4.mono B3.size)).size)
      have hN4v : NodeS (w4.alloc (.cells #[.int .u16 6, .slice A4 b.length c4, .slice K4 0 k4] 28)) (NewS w3 w4) A4 c4 K4 k4 (.mk 6 (b) []) := hN4.turn (fun q hq => World.cell?_alloc_lt w4 _ q hq.2) (fun _ h => h)
      have hgx : ∀ g, (w3.heap.size ≤ g ∧ g < w4.heap.size) ∨ g = w4.heap.size → w3.heap.size ≤ g := fun g hg => by have := b4.size; omega
      have hs4 := b4.size
      unfold ndV
      simp only [Nd.t, Nd.v, Nd.ks, zN, List.length_nil]
      go_upto_region 9 with fail
      have hsz4 : (w4.alloc (.cells #[.int .u16 6, .slice A4 b.length c4, .slice K4 0 k4] 28)).heap.size = w4.heap.size + 1 := by simp
      generalize w4.alloc (.cells #[.int .u16 6, .slice A4 b.length c4, .slice K4 0 k4] 28) = v4 at *
      clear hC b4 hN4 bn
      go_wp2_with fail
      go_loopw [11] (fun i wr => ∃ (k : Nat) (l : List UInt8), k ≤ b.length ∧ i = .int .i64 k ∧ l.length = b.length ∧ wr.ownsRow L0 5 1 (.slice A8 b.length c8) b.length (l.map bv) ∧ (∀ q : Addr, w3.heap.size ≤ q.block → wr.cell? q = v4.cell? q) ∧ wr.heap.size = v4.heap.size ∧ Below w.heap.size w wr) (fun i _ => b.length - (intOf i).toNat)
      case atStart => exact ⟨0, b, Nat.zero_le _, rfl, rfl, o4, fun _ _ => rfl, rfl, B4⟩
      case round =>
        obtain ⟨k, l, hk, rfl, hll, hor, hsame, hsize, hbel⟩ := hrel
        by_cases hlt : k < b.length
        · obtain ⟨g, x, hA, hx, hcc, hfr, hgb, hgl⟩ := own_at10 hor hlt
          subst hA
          obtain ⟨x0, hx0⟩ : ∃ x0 : UInt8, l[k]? = some x0 := ⟨_, List.getElem?_eq_getElem (by omega)⟩
          obtain rfl : x = bv x0 := by have := hx.out; rw [List.getElem?_map, hx0] at this; exact (Option.some.inj this).symm
          have hg3 : g < w3.heap.size := by
            rcases hown3.2 with ⟨q1, _⟩ | ⟨g', cap, cur, q1, _, q3, _⟩
            · cases q1
            · simp only [Value.slice.injEq, Option.some.injEq, Addr.mk.injEq, and_true, true_and] at q1
              rw [q1.1]; exact (Array.getElem?_eq_some_iff.1 q3).1
          have HST := Lib.hid (own_store' hor k (UInt8.ofNat ((x0.toNat + 1) % 256)))
          have hval : ((UInt8.ofNat ((x0.toNat + 1) % 256)).toNat : Int) = ((x0.toNat : Int) + 1) % 256 := by rw [UInt8.toNat_ofNat']; omega
          rw [hval] at HST
          have HSM : Hid (∀ q : Addr, w3.heap.size ≤ q.block → (wr.setCell ⟨g, k, none⟩ (.int .u8 (((x0.toNat : Int) + 1) % 256))).cell? q = v4.cell? q) := fun q hq => by
            rw [World.cell?_setCell_other _ _ _ _ (fun e => by rw [← e] at hq; simp at hq; omega)]; exact hsame q hq
          have HBW : Hid (Below w.heap.size w (wr.setCell ⟨g, k, none⟩ (.int .u8 (((x0.toNat : Int) + 1) % 256)))) := hbel.setCell (Nat.le_trans hL0 hgb) _
          have HSZ : Hid ((wr.setCell ⟨g, k, none⟩ (.int .u8 (((x0.toNat : Int) + 1) % 256))).heap.size = v4.heap.size) := by rw [← hsize]; simp [Hid, World.setCell]
          have HLL : Hid ((l.set k (UInt8.ofNat ((x0.toNat + 1) % 256))).length = b.length) := by unfold Hid; rw [List.length_set]; exact hll
          have hi1 : (k : Int) < (b.length : Int) := by omega
          have hi2 : (k : Int) ≤ 100000 := by have := hMb; omega
          clear hval hx hx0 hor
          go_wp2_with fail
          go_roundw
          case rel => exact ⟨k + 1, _, by omega, by go_num, HLL.out, HST.out, HSM.out, HSZ.out, HBW.out⟩
          case measure => simp [intOf]; omega
        · have hke : k = b.length := by omega
          subst hke
          have x5 : wr.cell? ⟨w4.heap.size, 0, none⟩ = some (.int .u16 6) ∧ wr.cell? ⟨w4.heap.size, 1, none⟩ = some (.slice A4 b.length c4) ∧ wr.cell? ⟨w4.heap.size, 2, none⟩ = some (.slice K4 0 k4) := by
            obtain ⟨y0, y1, y2, _⟩ := x4.three
            exact ⟨(hsame _ hs4).trans y0, (hsame _ hs4).trans y1, (hsame _ hs4).trans y2⟩
          have hN5 : NodeS wr (NewS w3 w4) A4 c4 K4 k4 (.mk 6 (b) []) := hN4v.turn (fun q hq => hsame q hq.1) (fun _ h => h)
          have hN5n : Node wr wr.heap.size A4 c4 K4 k4 (.mk 6 (b) []) := hN5.node fun b hb => by have := hb.2; omega
          have hlt4 : w4.heap.size < wr.heap.size := by omega
          clear hor hsame x4 hN4v o4 hown3 l3 hgx
          go_wp2_with fail
          refine Calls.mono (R := RetN wr (some (.mk t (b) []))) (HMs.out wr) ?_
          rintro e w6 ⟨b6, A6, c6, K6, k6, rfl, hN6⟩
          simp only [Option.getD_some, Option.isSome_some, Option.getD_none, Option.isSome_none] at hN6 ⊢
          have bn6 := (Below.refl w6.heap.size w6).alloc (Nat.le_refl _) (.cells #[hv t, .slice A6 b.length c6, .slice K6 0 k6] 28)
          have y6 := Whole.new w6 28 #[hv t, .slice A6 b.length c6, .slice K6 0 k6]
          have b46 := b6.trans (bn6.mono b6.size)
          have B6 := hbel.trans (b46.mono hbel.size)
          have hN7 := hN5n.on b46
          have hM7 := (hN6.node (B := w6.heap.size) fun b hb => hb.2).on bn6
          have x6 := (b46.cell (p := ⟨w4.heap.size, 0, none⟩) hlt4).trans x5.1
          have x6b := (b46.cell (p := ⟨w4.heap.size, 1, none⟩) hlt4).trans x5.2.1
          have x6c := (b46.cell (p := ⟨w4.heap.size, 2, none⟩) hlt4).trans x5.2.2
          have hlt6 : w4.heap.size < (w6.alloc (.cells #[hv t, .slice A6 b.length c6, .slice K6 0 k6] 28)).heap.size := Nat.lt_of_lt_of_le hlt4 b46.size
          unfold ndV
          simp only [Nd.t, Nd.v, Nd.ks, zN, List.length_nil]
          go_upto_region 14 with fail
          generalize w6.alloc (.cells #[hv t, .slice A6 b.length c6, .slice K6 0 k6] 28) = v6 at *
          obtain ⟨r0, r1, r2, _, _, _⟩ := y6.three
          have hR : Calls Try.prog 12 #[.agg #[.int .u16 6, .slice A4 b.length c4, .slice K4 0 k4], .bool true] v6 (fun e w' => e = .returned (.bool true) ∧ Below v6.heap.size v6 w') := by have h := HG.out A4 c4 K4 k4 v6 hN7; simp only [ndV, Option.getD_some, Option.isSome_some, Nd.t, Nd.v, Nd.ks, List.length_nil] at h; exact h
          clear x5 hN5 hN5n hN6 b6 bn6 b46 HMs
          go_wp2_with fail
          refine hR.mono ?_
          rintro e w7 ⟨rfl, b7⟩
          have B7 := B6.trans (b7.mono B6.size)
          have hM8 := hM7.on b7
          have hN8 := hN7.on b7
          have hRm : Calls Try.prog 12 #[.agg #[hv t, .slice A6 b.length c6, .slice K6 0 k6], .bool true] w7 (fun e w' => e = .returned (.bool true) ∧ Below w7.heap.size w7 w') := by have h := HGm.out A6 c6 K6 k6 w7 hM8; simp only [ndV, Option.getD_some, Option.isSome_some, Nd.t, Nd.v, Nd.ks, List.length_nil] at h; exact h
          have u0 := (b7.cell (p := ⟨w6.heap.size, 0, none⟩) y6.lt).trans r0
          have u1 := (b7.cell (p := ⟨w6.heap.size, 1, none⟩) y6.lt).trans r1
          have u2 := (b7.cell (p := ⟨w6.heap.size, 2, none⟩) y6.lt).trans r2
          have q0 := (b7.cell (p := ⟨w4.heap.size, 0, none⟩) hlt6).trans x6
          have q1 := (b7.cell (p := ⟨w4.heap.size, 1, none⟩) hlt6).trans x6b
          have q2 := (b7.cell (p := ⟨w4.heap.size, 2, none⟩) hlt6).trans x6c
          have hy7 : w6.heap.size < w7.heap.size := Nat.lt_of_lt_of_le y6.lt b7.size
          have hx7 : w4.heap.size < w7.heap.size := Nat.lt_of_lt_of_le hlt6 b7.size
          clear r0 r1 r2 x6 x6b x6c hR y6
          go_wp2_with fail
          refine hRm.mono ?_
          rintro e w8 ⟨rfl, b8⟩
          have B8 := B7.trans (b8.mono B7.size)
          have f0 := (b8.cell (p := ⟨w6.heap.size, 0, none⟩) hy7).trans u0
          have f1 := (b8.cell (p := ⟨w6.heap.size, 1, none⟩) hy7).trans u1
          have f2 := (b8.cell (p := ⟨w6.heap.size, 2, none⟩) hy7).trans u2
          have g0 := (b8.cell (p := ⟨w4.heap.size, 0, none⟩) hx7).trans q0
          have g1 := (b8.cell (p := ⟨w4.heap.size, 1, none⟩) hx7).trans q1
          have g2 := (b8.cell (p := ⟨w4.heap.size, 2, none⟩) hx7).trans q2
          have cv1 := HCV.out A4 c4 _ w8 (hN8.on b8).data
          have cv2 := HCV.out A6 c6 _ w8 (hM8.on b8).data
          clear u0 u1 u2 q0 q1 q2 hRm
          go_wp2_with fail
          go_ret
          exact ⟨rfl, B8⟩
    · skip
      have hC := chunk10_any A8 c8 (b) w3 l3 m3 m4 (by have := hMb; omega)
      have HG := Lib.hid (fun A c K k W hN => right10_ret [6] (.mk 6 (b) []) (fine_small (by show (b).length ≤ 800000; omega) rfl) A c K k W hN)
      rw [chunk_right] at HG
      have HGm := Lib.hid (fun A c K k W hN => right10_ret [12, 13] (.mk t (b) []) (fine_small (by show (b).length ≤ 800000; omega) rfl) A c K k W hN)
      rw [msg_right] at HGm
      have HMs := Lib.hid (fun W => message10_any t (b) W (by omega))
      have hck : chunkO (b) = some (.mk 6 (b) []) := by unfold chunkO; rw [if_pos (by exact ⟨by omega, by omega⟩)]
      have hmk : msgO t (b) = none := by unfold msgO; rw [if_neg (by intro h; first | omega | exact ht0 h.1)]
      rw [hck] at hC HG
      rw [hmk] at HMs HGm
      have HCV := Lib.hid (fun A c B W (h : Lies W B A ((b).map bv)) => conv_string A c B (b) W h)
      have hsz : (str (b)).size = b.length := by rw [str_size]
      clear hck hmk ht0
      generalize str (b) = s at *
      go_wp2_with fail
      refine Calls.mono (R := RetN w3 (some (.mk 6 (b) []))) hC ?_
      rintro e w4 ⟨b4, A4, c4, K4, k4, rfl, hN4⟩
      simp only [Option.getD_some, Option.isSome_some, Option.getD_none, Option.isSome_none] at hN4 ⊢
      have bn := (Below.refl w4.heap.size w4).alloc (Nat.le_refl _) (.cells #[.int .u16 6, .slice A4 b.length c4, .slice K4 0 k4] 28)
      have x4 := Whole.new w4 28 #[.int .u16 6, .slice A4 b.length c4, .slice K4 0 k4]
      have o4 := (own_below' hown3 b4).alloc (.cells #[.int .u16 6, .slice A4 b.length c4, .slice K4 0 k4] 28)
      have B4 := (B3.trans (b4.mono B3.size)).trans (bn.mono (B3.trans (b4.mono B3.size)).size)
      have hN4v : NodeS (w4.alloc (.cells #[.int .u16 6, .slice A4 b.length c4, .slice K4 0 k4] 28)) (NewS w3 w4) A4 c4 K4 k4 (.mk 6 (b) []) := hN4.turn (fun q hq => World.cell?_alloc_lt w4 _ q hq.2) (fun _ h => h)
      have hgx : ∀ g, (w3.heap.size ≤ g ∧ g < w4.heap.size) ∨ g = w4.heap.size → w3.heap.size ≤ g := fun g hg => by have := b4.size; omega
      have hs4 := b4.size
      unfold ndV
      simp only [Nd.t, Nd.v, Nd.ks, zN, List.length_nil]
      go_upto_region 9 with fail
      have hsz4 : (w4.alloc (.cells #[.int .u16 6, .slice A4 b.length c4, .slice K4 0 k4] 28)).heap.size = w4.heap.size + 1 := by simp
      generalize w4.alloc (.cells #[.int .u16 6, .slice A4 b.length c4, .slice K4 0 k4] 28) = v4 at *
      clear hC b4 hN4 bn
      go_wp2_with fail
      go_loopw [11] (fun i wr => ∃ (k : Nat) (l : List UInt8), k ≤ b.length ∧ i = .int .i64 k ∧ l.length = b.length ∧ wr.ownsRow L0 5 1 (.slice A8 b.length c8) b.length (l.map bv) ∧ (∀ q : Addr, w3.heap.size ≤ q.block → wr.cell? q = v4.cell? q) ∧ wr.heap.size = v4.heap.size ∧ Below w.heap.size w wr) (fun i _ => b.length - (intOf i).toNat)
      case atStart => exact ⟨0, b, Nat.zero_le _, rfl, rfl, o4, fun _ _ => rfl, rfl, B4⟩
      case round =>
        obtain ⟨k, l, hk, rfl, hll, hor, hsame, hsize, hbel⟩ := hrel
        by_cases hlt : k < b.length
        · obtain ⟨g, x, hA, hx, hcc, hfr, hgb, hgl⟩ := own_at10 hor hlt
          subst hA
          obtain ⟨x0, hx0⟩ : ∃ x0 : UInt8, l[k]? = some x0 := ⟨_, List.getElem?_eq_getElem (by omega)⟩
          obtain rfl : x = bv x0 := by have := hx.out; rw [List.getElem?_map, hx0] at this; exact (Option.some.inj this).symm
          have hg3 : g < w3.heap.size := by
            rcases hown3.2 with ⟨q1, _⟩ | ⟨g', cap, cur, q1, _, q3, _⟩
            · cases q1
            · simp only [Value.slice.injEq, Option.some.injEq, Addr.mk.injEq, and_true, true_and] at q1
              rw [q1.1]; exact (Array.getElem?_eq_some_iff.1 q3).1
          have HST := Lib.hid (own_store' hor k (UInt8.ofNat ((x0.toNat + 1) % 256)))
          have hval : ((UInt8.ofNat ((x0.toNat + 1) % 256)).toNat : Int) = ((x0.toNat : Int) + 1) % 256 := by rw [UInt8.toNat_ofNat']; omega
          rw [hval] at HST
          have HSM : Hid (∀ q : Addr, w3.heap.size ≤ q.block → (wr.setCell ⟨g, k, none⟩ (.int .u8 (((x0.toNat : Int) + 1) % 256))).cell? q = v4.cell? q) := fun q hq => by
            rw [World.cell?_setCell_other _ _ _ _ (fun e => by rw [← e] at hq; simp at hq; omega)]; exact hsame q hq
          have HBW : Hid (Below w.heap.size w (wr.setCell ⟨g, k, none⟩ (.int .u8 (((x0.toNat : Int) + 1) % 256)))) := hbel.setCell (Nat.le_trans hL0 hgb) _
          have HSZ : Hid ((wr.setCell ⟨g, k, none⟩ (.int .u8 (((x0.toNat : Int) + 1) % 256))).heap.size = v4.heap.size) := by rw [← hsize]; simp [Hid, World.setCell]
          have HLL : Hid ((l.set k (UInt8.ofNat ((x0.toNat + 1) % 256))).length = b.length) := by unfold Hid; rw [List.length_set]; exact hll
          have hi1 : (k : Int) < (b.length : Int) := by omega
          have hi2 : (k : Int) ≤ 100000 := by have := hMb; omega
          clear hval hx hx0 hor
          go_wp2_with fail
          go_roundw
          case rel => exact ⟨k + 1, _, by omega, by go_num, HLL.out, HST.out, HSM.out, HSZ.out, HBW.out⟩
          case measure => simp [intOf]; omega
        · have hke : k = b.length := by omega
          subst hke
          have x5 : wr.cell? ⟨w4.heap.size, 0, none⟩ = some (.int .u16 6) ∧ wr.cell? ⟨w4.heap.size, 1, none⟩ = some (.slice A4 b.length c4) ∧ wr.cell? ⟨w4.heap.size, 2, none⟩ = some (.slice K4 0 k4) := by
            obtain ⟨y0, y1, y2, _⟩ := x4.three
            exact ⟨(hsame _ hs4).trans y0, (hsame _ hs4).trans y1, (hsame _ hs4).trans y2⟩
          have hN5 : NodeS wr (NewS w3 w4) A4 c4 K4 k4 (.mk 6 (b) []) := hN4v.turn (fun q hq => hsame q hq.1) (fun _ h => h)
          have hN5n : Node wr wr.heap.size A4 c4 K4 k4 (.mk 6 (b) []) := hN5.node fun b hb => by have := hb.2; omega
          have hlt4 : w4.heap.size < wr.heap.size := by omega
          clear hor hsame x4 hN4v o4 hown3 l3 hgx
          go_wp2_with fail
          refine Calls.mono (R := RetN wr none) (HMs.out wr) ?_
          rintro e w6 ⟨b6, A6, c6, K6, k6, rfl, hN6⟩
          simp only [Option.getD_some, Option.isSome_some, Option.getD_none, Option.isSome_none] at hN6 ⊢
          have bn6 := (Below.refl w6.heap.size w6).alloc (Nat.le_refl _) (.cells #[.int .u16 0, .slice A6 0 c6, .slice K6 0 k6] 28)
          have y6 := Whole.new w6 28 #[.int .u16 0, .slice A6 0 c6, .slice K6 0 k6]
          have b46 := b6.trans (bn6.mono b6.size)
          have B6 := hbel.trans (b46.mono hbel.size)
          have hN7 := hN5n.on b46
          have hM7 := (hN6.node (B := w6.heap.size) fun b hb => hb.2).on bn6
          have x6 := (b46.cell (p := ⟨w4.heap.size, 0, none⟩) hlt4).trans x5.1
          have x6b := (b46.cell (p := ⟨w4.heap.size, 1, none⟩) hlt4).trans x5.2.1
          have x6c := (b46.cell (p := ⟨w4.heap.size, 2, none⟩) hlt4).trans x5.2.2
          have hlt6 : w4.heap.size < (w6.alloc (.cells #[.int .u16 0, .slice A6 0 c6, .slice K6 0 k6] 28)).heap.size := Nat.lt_of_lt_of_le hlt4 b46.size
          unfold ndV
          simp only [Nd.t, Nd.v, Nd.ks, zN, List.length_nil]
          go_upto_region 14 with fail
          generalize w6.alloc (.cells #[.int .u16 0, .slice A6 0 c6, .slice K6 0 k6] 28) = v6 at *
          obtain ⟨r0, r1, r2, _, _, _⟩ := y6.three
          have hR : Calls Try.prog 12 #[.agg #[.int .u16 6, .slice A4 b.length c4, .slice K4 0 k4], .bool true] v6 (fun e w' => e = .returned (.bool true) ∧ Below v6.heap.size v6 w') := by have h := HG.out A4 c4 K4 k4 v6 hN7; simp only [ndV, Option.getD_some, Option.isSome_some, Nd.t, Nd.v, Nd.ks, List.length_nil] at h; exact h
          clear x5 hN5 hN5n hN6 b6 bn6 b46 HMs
          go_wp2_with fail
          refine hR.mono ?_
          rintro e w7 ⟨rfl, b7⟩
          have B7 := B6.trans (b7.mono B6.size)
          have hM8 := hM7.on b7
          have hN8 := hN7.on b7
          have hRm : Calls Try.prog 12 #[.agg #[.int .u16 0, .slice A6 0 c6, .slice K6 0 k6], .bool false] w7 (fun e w' => e = .returned (.bool true) ∧ Below w7.heap.size w7 w') := HGm.out A6 c6 K6 k6 w7 hM8
          have u0 := (b7.cell (p := ⟨w6.heap.size, 0, none⟩) y6.lt).trans r0
          have u1 := (b7.cell (p := ⟨w6.heap.size, 1, none⟩) y6.lt).trans r1
          have u2 := (b7.cell (p := ⟨w6.heap.size, 2, none⟩) y6.lt).trans r2
          have q0 := (b7.cell (p := ⟨w4.heap.size, 0, none⟩) hlt6).trans x6
          have q1 := (b7.cell (p := ⟨w4.heap.size, 1, none⟩) hlt6).trans x6b
          have q2 := (b7.cell (p := ⟨w4.heap.size, 2, none⟩) hlt6).trans x6c
          have hy7 : w6.heap.size < w7.heap.size := Nat.lt_of_lt_of_le y6.lt b7.size
          have hx7 : w4.heap.size < w7.heap.size := Nat.lt_of_lt_of_le hlt6 b7.size
          clear r0 r1 r2 x6 x6b x6c hR y6
          go_wp2_with fail
          refine hRm.mono ?_
          rintro e w8 ⟨rfl, b8⟩
          have B8 := B7.trans (b8.mono B7.size)
          have f0 := (b8.cell (p := ⟨w6.heap.size, 0, none⟩) hy7).trans u0
          have f1 := (b8.cell (p := ⟨w6.heap.size, 1, none⟩) hy7).trans u1
          have f2 := (b8.cell (p := ⟨w6.heap.size, 2, none⟩) hy7).trans u2
          have g0 := (b8.cell (p := ⟨w4.heap.size, 0, none⟩) hx7).trans q0
          have g1 := (b8.cell (p := ⟨w4.heap.size, 1, none⟩) hx7).trans q1
          have g2 := (b8.cell (p := ⟨w4.heap.size, 2, none⟩) hx7).trans q2
          have cv1 := HCV.out A4 c4 _ w8 (hN8.on b8).data
          clear u0 u1 u2 q0 q1 q2 hRm
          go_wp2_with fail
          go_ret
          exact ⟨rfl, B8⟩
  · have hq4 : ¬ (4 : Int) ≤ (b.length : Int) := by omega
    rcases types_1213 t with ⟨t1, ht0⟩ | ⟨t1, t2, ht0⟩ | ⟨t1, t2, ht0⟩
    · skip
      have hC := chunk10_any A8 c8 (b) w3 l3 m3 m4 (by have := hMb; omega)
      have HG := Lib.hid (fun A c K k W hN => right10_ret [6] (.mk 6 (b) []) (fine_small (by show (b).length ≤ 800000; omega) rfl) A c K k W hN)
      rw [chunk_right] at HG
      have HGm := Lib.hid (fun A c K k W hN => right10_ret [12, 13] (.mk t (b) []) (fine_small (by show (b).length ≤ 800000; omega) rfl) A c K k W hN)
      rw [msg_right] at HGm
      have HMs := Lib.hid (fun W => message10_any t (b) W (by omega))
      have hck : chunkO (b) = none := by unfold chunkO; rw [if_neg (by intro h; omega)]
      have hmk : msgO t (b) = some (.mk t (b) []) := by unfold msgO; rw [if_pos (by exact ⟨ht0, by omega⟩)]
      rw [hck] at hC HG
      rw [hmk] at HMs HGm
      have HCV := Lib.hid (fun A c B W (h : Lies W B A ((b).map bv)) => conv_string A c B (b) W h)
      have hsz : (str (b)).size = b.length := by rw [str_size]
      clear hck hmk ht0
      generalize str (b) = s at *
      go_wp2_with fail
      refine Calls.mono (R := RetN w3 none) hC ?_
      rintro e w4 ⟨b4, A4, c4, K4, k4, rfl, hN4⟩
      simp only [Option.getD_some, Option.isSome_some, Option.getD_none, Option.isSome_none] at hN4 ⊢
      have bn := (Below.refl w4.heap.size w4).alloc (Nat.le_refl _) (.cells #[.int .u16 0, .slice A4 0 c4, .slice K4 0 k4] 28)
      have x4 := Whole.new w4 28 #[.int .u16 0, .slice A4 0 c4, .slice K4 0 k4]
      have o4 := (own_below' hown3 b4).alloc (.cells #[.int .u16 0, .slice A4 0 c4, .slice K4 0 k4] 28)
      have B4 := (B3.trans (b4.mono B3.size)).trans (bn.mono (B3.trans (b4.mono B3.size)).size)
      have hN4v : NodeS (w4.alloc (.cells #[.int .u16 0, .slice A4 0 c4, .slice K4 0 k4] 28)) (NewS w3 w4) A4 c4 K4 k4 zN := hN4.turn (fun q hq => World.cell?_alloc_lt w4 _ q hq.2) (fun _ h => h)
      have hgx : ∀ g, (w3.heap.size ≤ g ∧ g < w4.heap.size) ∨ g = w4.heap.size → w3.heap.size ≤ g := fun g hg => by have := b4.size; omega
      have hs4 := b4.size
      unfold ndV
      simp only [Nd.t, Nd.v, Nd.ks, zN, List.length_nil]
      go_upto_region 9 with fail
      have hsz4 : (w4.alloc (.cells #[.int .u16 0, .slice A4 0 c4, .slice K4 0 k4] 28)).heap.size = w4.heap.size + 1 := by simp
      generalize w4.alloc (.cells #[.int .u16 0, .slice A4 0 c4, .slice K4 0 k4] 28) = v4 at *
      clear hC b4 hN4 bn
      go_wp2_with fail
      go_loopw [11] (fun i wr => ∃ (k : Nat) (l : List UInt8), k ≤ b.length ∧ i = .int .i64 k ∧ l.length = b.length ∧ wr.ownsRow L0 5 1 (.slice A8 b.length c8) b.length (l.map bv) ∧ (∀ q : Addr, w3.heap.size ≤ q.block → wr.cell? q = v4.cell? q) ∧ wr.heap.size = v4.heap.size ∧ Below w.heap.size w wr) (fun i _ => b.length - (intOf i).toNat)
      case atStart => exact ⟨0, b, Nat.zero_le _, rfl, rfl, o4, fun _ _ => rfl, rfl, B4⟩
      case round =>
        obtain ⟨k, l, hk, rfl, hll, hor, hsame, hsize, hbel⟩ := hrel
        by_cases hlt : k < b.length
        · obtain ⟨g, x, hA, hx, hcc, hfr, hgb, hgl⟩ := own_at10 hor hlt
          subst hA
          obtain ⟨x0, hx0⟩ : ∃ x0 : UInt8, l[k]? = some x0 := ⟨_, List.getElem?_eq_getElem (by omega)⟩
          obtain rfl : x = bv x0 := by have := hx.out; rw [List.getElem?_map, hx0] at this; exact (Option.some.inj this).symm
          have hg3 : g < w3.heap.size := by
            rcases hown3.2 with ⟨q1, _⟩ | ⟨g', cap, cur, q1, _, q3, _⟩
            · cases q1
            · simp only [Value.slice.injEq, Option.some.injEq, Addr.mk.injEq, and_true, true_and] at q1
              rw [q1.1]; exact (Array.getElem?_eq_some_iff.1 q3).1
          have HST := Lib.hid (own_store' hor k (UInt8.ofNat ((x0.toNat + 1) % 256)))
          have hval : ((UInt8.ofNat ((x0.toNat + 1) % 256)).toNat : Int) = ((x0.toNat : Int) + 1) % 256 := by rw [UInt8.toNat_ofNat']; omega
          rw [hval] at HST
          have HSM : Hid (∀ q : Addr, w3.heap.size ≤ q.block → (wr.setCell ⟨g, k, none⟩ (.int .u8 (((x0.toNat : Int) + 1) % 256))).cell? q = v4.cell? q) := fun q hq => by
            rw [World.cell?_setCell_other _ _ _ _ (fun e => by rw [← e] at hq; simp at hq; omega)]; exact hsame q hq
          have HBW : Hid (Below w.heap.size w (wr.setCell ⟨g, k, none⟩ (.int .u8 (((x0.toNat : Int) + 1) % 256)))) := hbel.setCell (Nat.le_trans hL0 hgb) _
          have HSZ : Hid ((wr.setCell ⟨g, k, none⟩ (.int .u8 (((x0.toNat : Int) + 1) % 256))).heap.size = v4.heap.size) := by rw [← hsize]; simp [Hid, World.setCell]
          have HLL : Hid ((l.set k (UInt8.ofNat ((x0.toNat + 1) % 256))).length = b.length) := by unfold Hid; rw [List.length_set]; exact hll
          have hi1 : (k : Int) < (b.length : Int) := by omega
          have hi2 : (k : Int) ≤ 100000 := by have := hMb; omega
          clear hval hx hx0 hor
          go_wp2_with fail
          go_roundw
          case rel => exact ⟨k + 1, _, by omega, by go_num, HLL.out, HST.out, HSM.out, HSZ.out, HBW.out⟩
          case measure => simp [intOf]; omega
        · have hke : k = b.length := by omega
          subst hke
          have x5 : wr.cell? ⟨w4.heap.size, 0, none⟩ = some (.int .u16 0) ∧ wr.cell? ⟨w4.heap.size, 1, none⟩ = some (.slice A4 0 c4) ∧ wr.cell? ⟨w4.heap.size, 2, none⟩ = some (.slice K4 0 k4) := by
            obtain ⟨y0, y1, y2, _⟩ := x4.three
            exact ⟨(hsame _ hs4).trans y0, (hsame _ hs4).trans y1, (hsame _ hs4).trans y2⟩
          have hN5 : NodeS wr (NewS w3 w4) A4 c4 K4 k4 zN := hN4v.turn (fun q hq => hsame q hq.1) (fun _ h => h)
          have hN5n : Node wr wr.heap.size A4 c4 K4 k4 zN := hN5.node fun b hb => by have := hb.2; omega
          have hlt4 : w4.heap.size < wr.heap.size := by omega
          clear hor hsame x4 hN4v o4 hown3 l3 hgx
          go_wp2_with fail
          refine Calls.mono (R := RetN wr (some (.mk t (b) []))) (HMs.out wr) ?_
          rintro e w6 ⟨b6, A6, c6, K6, k6, rfl, hN6⟩
          simp only [Option.getD_some, Option.isSome_some, Option.getD_none, Option.isSome_none] at hN6 ⊢
          have bn6 := (Below.refl w6.heap.size w6).alloc (Nat.le_refl _) (.cells #[hv t, .slice A6 b.length c6, .slice K6 0 k6] 28)
          have y6 := Whole.new w6 28 #[hv t, .slice A6 b.length c6, .slice K6 0 k6]
          have b46 := b6.trans (bn6.mono b6.size)
          have B6 := hbel.trans (b46.mono hbel.size)
          have hN7 := hN5n.on b46
          have hM7 := (hN6.node (B := w6.heap.size) fun b hb => hb.2).on bn6
          have x6 := (b46.cell (p := ⟨w4.heap.size, 0, none⟩) hlt4).trans x5.1
          have x6b := (b46.cell (p := ⟨w4.heap.size, 1, none⟩) hlt4).trans x5.2.1
          have x6c := (b46.cell (p := ⟨w4.heap.size, 2, none⟩) hlt4).trans x5.2.2
          have hlt6 : w4.heap.size < (w6.alloc (.cells #[hv t, .slice A6 b.length c6, .slice K6 0 k6] 28)).heap.size := Nat.lt_of_lt_of_le hlt4 b46.size
          unfold ndV
          simp only [Nd.t, Nd.v, Nd.ks, zN, List.length_nil]
          go_upto_region 14 with fail
          generalize w6.alloc (.cells #[hv t, .slice A6 b.length c6, .slice K6 0 k6] 28) = v6 at *
          obtain ⟨r0, r1, r2, _, _, _⟩ := y6.three
          have hR : Calls Try.prog 12 #[.agg #[.int .u16 0, .slice A4 0 c4, .slice K4 0 k4], .bool false] v6 (fun e w' => e = .returned (.bool true) ∧ Below v6.heap.size v6 w') := HG.out A4 c4 K4 k4 v6 hN7
          clear x5 hN5 hN5n hN6 b6 bn6 b46 HMs
          go_wp2_with fail
          refine hR.mono ?_
          rintro e w7 ⟨rfl, b7⟩
          have B7 := B6.trans (b7.mono B6.size)
          have hM8 := hM7.on b7
          have hN8 := hN7.on b7
          have hRm : Calls Try.prog 12 #[.agg #[hv t, .slice A6 b.length c6, .slice K6 0 k6], .bool true] w7 (fun e w' => e = .returned (.bool true) ∧ Below w7.heap.size w7 w') := by have h := HGm.out A6 c6 K6 k6 w7 hM8; simp only [ndV, Option.getD_some, Option.isSome_some, Nd.t, Nd.v, Nd.ks, List.length_nil] at h; exact h
          have u0 := (b7.cell (p := ⟨w6.heap.size, 0, none⟩) y6.lt).trans r0
          have u1 := (b7.cell (p := ⟨w6.heap.size, 1, none⟩) y6.lt).trans r1
          have u2 := (b7.cell (p := ⟨w6.heap.size, 2, none⟩) y6.lt).trans r2
          have q0 := (b7.cell (p := ⟨w4.heap.size, 0, none⟩) hlt6).trans x6
          have q1 := (b7.cell (p := ⟨w4.heap.size, 1, none⟩) hlt6).trans x6b
          have q2 := (b7.cell (p := ⟨w4.heap.size, 2, none⟩) hlt6).trans x6c
          have hy7 : w6.heap.size < w7.heap.size := Nat.lt_of_lt_of_le y6.lt b7.size
          have hx7 : w4.heap.size < w7.heap.size := Nat.lt_of_lt_of_le hlt6 b7.size
          clear r0 r1 r2 x6 x6b x6c hR y6
          go_wp2_with fail
          refine hRm.mono ?_
          rintro e w8 ⟨rfl, b8⟩
          have B8 := B7.trans (b8.mono B7.size)
          have f0 := (b8.cell (p := ⟨w6.heap.size, 0, none⟩) hy7).trans u0
          have f1 := (b8.cell (p := ⟨w6.heap.size, 1, none⟩) hy7).trans u1
          have f2 := (b8.cell (p := ⟨w6.heap.size, 2, none⟩) hy7).trans u2
          have g0 := (b8.cell (p := ⟨w4.heap.size, 0, none⟩) hx7).trans q0
          have g1 := (b8.cell (p := ⟨w4.heap.size, 1, none⟩) hx7).trans q1
          have g2 := (b8.cell (p := ⟨w4.heap.size, 2, none⟩) hx7).trans q2
          have cv2 := HCV.out A6 c6 _ w8 (hM8.on b8).data
          clear u0 u1 u2 q0 q1 q2 hRm
          go_wp2_with fail
          go_ret
          exact ⟨rfl, B8⟩
    · skip
      have hC := chunk10_any A8 c8 (b) w3 l3 m3 m4 (by have := hMb; omega)
      have HG := Lib.hid (fun A c K k W hN => right10_ret [6] (.mk 6 (b) []) (fine_small (by show (b).length ≤ 800000; omega) rfl) A c K k W hN)
      rw [chunk_right] at HG
      have HGm := Lib.hid (fun A c K k W hN => right10_ret [12, 13] (.mk t (b) []) (fine_small (by show (b).length ≤ 800000; omega) rfl) A c K k W hN)
      rw [msg_right] at HGm
      have HMs := Lib.hid (fun W => message10_any t (b) W (by omega))
      have hck : chunkO (b) = none := by unfold chunkO; rw [if_neg (by intro h; omega)]
      have hmk : msgO t (b) = some (.mk t (b) []) := by unfold msgO; rw [if_pos (by exact ⟨ht0, by omega⟩)]
      rw [hck] at hC HG
      rw [hmk] at HMs HGm
      have HCV := Lib.hid (fun A c B W (h : Lies W B A ((b).map bv)) => conv_string A c B (b) W h)
      have hsz : (str (b)).size = b.length := by rw [str_size]
      clear hck hmk ht0
      generalize str (b) = s at *
      go_wp2_with fail
      refine Calls.mono (R := RetN w3 none) hC ?_
      rintro e w4 ⟨b4, A4, c4, K4, k4, rfl, hN4⟩
      simp only [Option.getD_some, Option.isSome_some, Option.getD_none, Option.isSome_none] at hN4 ⊢
      have bn := (Below.refl w4.heap.size w4).alloc (Nat.le_refl _) (.cells #[.int .u16 0, .slice A4 0 c4, .slice K4 0 k4] 28)
      have x4 := Whole.new w4 28 #[.int .u16 0, .slice A4 0 c4, .slice K4 0 k4]
      have o4 := (own_below' hown3 b4).alloc (.cells #[.int .u16 0, .slice A4 0 c4, .slice K4 0 k4] 28)
      have B4 := (B3.trans (b4.mono B3.size)).trans (bn.mono (B3.trans (b4.mono B3.size)).size)
      have hN4v : NodeS (w4.alloc (.cells #[.int .u16 0, .slice A4 0 c4, .slice K4 0 k4] 28)) (NewS w3 w4) A4 c4 K4 k4 zN := hN4.turn (fun q hq => World.cell?_alloc_lt w4 _ q hq.2) (fun _ h => h)
      have hgx : ∀ g, (w3.heap.size ≤ g ∧ g < w4.heap.size) ∨ g = w4.heap.size → w3.heap.size ≤ g := fun g hg => by have := b4.size; omega
      have hs4 := b4.size
      unfold ndV
      simp only [Nd.t, Nd.v, Nd.ks, zN, List.length_nil]
      go_upto_region 9 with fail
      have hsz4 : (w4.alloc (.cells #[.int .u16 0, .slice A4 0 c4, .slice K4 0 k4] 28)).heap.size = w4.heap.size + 1 := by simp
      generalize w4.alloc (.cells #[.int .u16 0, .slice A4 0 c4, .slice K4 0 k4] 28) = v4 at *
      clear hC b4 hN4 bn
      go_wp2_with fail
      go_loopw [11] (fun i wr => ∃ (k : Nat) (l : List UInt8), k ≤ b.length ∧ i = .int .i64 k ∧ l.length = b.length ∧ wr.ownsRow L0 5 1 (.slice A8 b.length c8) b.length (l.map bv) ∧ (∀ q : Addr, w3.heap.size ≤ q.block → wr.cell? q = v4.cell? q) ∧ wr.heap.size = v4.heap.size ∧ Below w.heap.size w wr) (fun i _ => b.length - (intOf i).toNat)
      case atStart => exact ⟨0, b, Nat.zero_le _, rfl, rfl, o4, fun _ _ => rfl, rfl, B4⟩
      case round =>
        obtain ⟨k, l, hk, rfl, hll, hor, hsame, hsize, hbel⟩ := hrel
        by_cases hlt : k < b.length
        · obtain ⟨g, x, hA, hx, hcc, hfr, hgb, hgl⟩ := own_at10 hor hlt
          subst hA
          obtain ⟨x0, hx0⟩ : ∃ x0 : UInt8, l[k]? = some x0 := ⟨_, List.getElem?_eq_getElem (by omega)⟩
          obtain rfl : x = bv x0 := by have := hx.out; rw [List.getElem?_map, hx0] at this; exact (Option.some.inj this).symm
          have hg3 : g < w3.heap.size := by
            rcases hown3.2 with ⟨q1, _⟩ | ⟨g', cap, cur, q1, _, q3, _⟩
            · cases q1
            · simp only [Value.slice.injEq, Option.some.injEq, Addr.mk.injEq, and_true, true_and] at q1
              rw [q1.1]; exact (Array.getElem?_eq_some_iff.1 q3).1
          have HST := Lib.hid (own_store' hor k (UInt8.ofNat ((x0.toNat + 1) % 256)))
          have hval : ((UInt8.ofNat ((x0.toNat + 1) % 256)).toNat : Int) = ((x0.toNat : Int) + 1) % 256 := by rw [UInt8.toNat_ofNat']; omega
          rw [hval] at HST
          have HSM : Hid (∀ q : Addr, w3.heap.size ≤ q.block → (wr.setCell ⟨g, k, none⟩ (.int .u8 (((x0.toNat : Int) + 1) % 256))).cell? q = v4.cell? q) := fun q hq => by
            rw [World.cell?_setCell_other _ _ _ _ (fun e => by rw [← e] at hq; simp at hq; omega)]; exact hsame q hq
          have HBW : Hid (Below w.heap.size w (wr.setCell ⟨g, k, none⟩ (.int .u8 (((x0.toNat : Int) + 1) % 256)))) := hbel.setCell (Nat.le_trans hL0 hgb) _
          have HSZ : Hid ((wr.setCell ⟨g, k, none⟩ (.int .u8 (((x0.toNat : Int) + 1) % 256))).heap.size = v4.heap.size) := by rw [← hsize]; simp [Hid, World.setCell]
          have HLL : Hid ((l.set k (UInt8.ofNat ((x0.toNat + 1) % 256))).length = b.length) := by unfold Hid; rw [List.length_set]; exact hll
          have hi1 : (k : Int) < (b.length : Int) := by omega
          have hi2 : (k : Int) ≤ 100000 := by have := hMb; omega
          clear hval hx hx0 hor
          go_wp2_with fail
          go_roundw
          case rel => exact ⟨k + 1, _, by omega, by go_num, HLL.out, HST.out, HSM.out, HSZ.out, HBW.out⟩
          case measure => simp [intOf]; omega
        · have hke : k = b.length := by omega
          subst hke
          have x5 : wr.cell? ⟨w4.heap.size, 0, none⟩ = some (.int .u16 0) ∧ wr.cell? ⟨w4.heap.size, 1, none⟩ = some (.slice A4 0 c4) ∧ wr.cell? ⟨w4.heap.size, 2, none⟩ = some (.slice K4 0 k4) := by
            obtain ⟨y0, y1, y2, _⟩ := x4.three
            exact ⟨(hsame _ hs4).trans y0, (hsame _ hs4).trans y1, (hsame _ hs4).trans y2⟩
          have hN5 : NodeS wr (NewS w3 w4) A4 c4 K4 k4 zN := hN4v.turn (fun q hq => hsame q hq.1) (fun _ h => h)
          have hN5n : Node wr wr.heap.size A4 c4 K4 k4 zN := hN5.node fun b hb => by have := hb.2; omega
          have hlt4 : w4.heap.size < wr.heap.size := by omega
          clear hor hsame x4 hN4v o4 hown3 l3 hgx
          go_wp2_with fail
          refine Calls.mono (R := RetN wr (some (.mk t (b) []))) (HMs.out wr) ?_
          rintro e w6 ⟨b6, A6, c6, K6, k6, rfl, hN6⟩
          simp only [Option.getD_some, Option.isSome_some, Option.getD_none, Option.isSome_none] at hN6 ⊢
          have bn6 := (Below.refl w6.heap.size w6).alloc (Nat.le_refl _) (.cells #[hv t, .slice A6 b.length c6, .slice K6 0 k6] 28)
          have y6 := Whole.new w6 28 #[hv t, .slice A6 b.length c6, .slice K6 0 k6]
          have b46 := b6.trans (bn6.mono b6.size)
          have B6 := hbel.trans (b46.mono hbel.size)
          have hN7 := hN5n.on b46
          have hM7 := (hN6.node (B := w6.heap.size) fun b hb => hb.2).on bn6
          have x6 := (b46.cell (p := ⟨w4.heap.size, 0, none⟩) hlt4).trans x5.1
          have x6b := (b46.cell (p := ⟨w4.heap.size, 1, none⟩) hlt4).trans x5.2.1
          have x6c := (b46.cell (p := ⟨w4.heap.size, 2, none⟩) hlt4).trans x5.2.2
          have hlt6 : w4.heap.size < (w6.alloc (.cells #[hv t, .slice A6 b.length c6, .slice K6 0 k6] 28)).heap.size := Nat.lt_of_lt_of_le hlt4 b46.size
          unfold ndV
          simp only [Nd.t, Nd.v, Nd.ks, zN, List.length_nil]
          go_upto_region 14 with fail
          generalize w6.alloc (.cells #[hv t, .slice A6 b.length c6, .slice K6 0 k6] 28) = v6 at *
          obtain ⟨r0, r1, r2, _, _, _⟩ := y6.three
          have hR : Calls Try.prog 12 #[.agg #[.int .u16 0, .slice A4 0 c4, .slice K4 0 k4], .bool false] v6 (fun e w' => e = .returned (.bool true) ∧ Below v6.heap.size v6 w') := HG.out A4 c4 K4 k4 v6 hN7
          clear x5 hN5 hN5n hN6 b6 bn6 b46 HMs
          go_wp2_with fail
          refine hR.mono ?_
          rintro e w7 ⟨rfl, b7⟩
          have B7 := B6.trans (b7.mono B6.size)
          have hM8 := hM7.on b7
          have hN8 := hN7.on b7
          have hRm : Calls Try.prog 12 #[.agg #[hv t, .slice A6 b.length c6, .slice K6 0 k6], .bool true] w7 (fun e w' => e = .returned (.bool true) ∧ Below w7.heap.size w7 w') := by have h := HGm.out A6 c6 K6 k6 w7 hM8; simp only [ndV, Option.getD_some, Option.isSome_some, Nd.t, Nd.v, Nd.ks, List.length_nil] at h; exact h
          have u0 := (b7.cell (p := ⟨w6.heap.size, 0, none⟩) y6.lt).trans r0
          have u1 := (b7.cell (p := ⟨w6.heap.size, 1, none⟩) y6.lt).trans r1
          have u2 := (b7.cell (p := ⟨w6.heap.size, 2, none⟩) y6.lt).trans r2
          have q0 := (b7.cell (p := ⟨w4.heap.size, 0, none⟩) hlt6).trans x6
          have q1 := (b7.cell (p := ⟨w4.heap.size, 1, none⟩) hlt6).trans x6b
          have q2 := (b7.cell (p := ⟨w4.heap.size, 2, none⟩) hlt6).trans x6c
          have hy7 : w6.heap.size < w7.heap.size := Nat.lt_of_lt_of_le y6.lt b7.size
          have hx7 : w4.heap.size < w7.heap.size := Nat.lt_of_lt_of_le hlt6 b7.size
          clear r0 r1 r2 x6 x6b x6c hR y6
          go_wp2_with fail
          refine hRm.mono ?_
          rintro e w8 ⟨rfl, b8⟩
          have B8 := B7.trans (b8.mono B7.size)
          have f0 := (b8.cell (p := ⟨w6.heap.size, 0, none⟩) hy7).trans u0
          have f1 := (b8.cell (p := ⟨w6.heap.size, 1, none⟩) hy7).trans u1
          have f2 := (b8.cell (p := ⟨w6.heap.size, 2, none⟩) hy7).trans u2
          have g0 := (b8.cell (p := ⟨w4.heap.size, 0, none⟩) hx7).trans q0
          have g1 := (b8.cell (p := ⟨w4.heap.size, 1, none⟩) hx7).trans q1
          have g2 := (b8.cell (p := ⟨w4.heap.size, 2, none⟩) hx7).trans q2
          have cv2 := HCV.out A6 c6 _ w8 (hM8.on b8).data
          clear u0 u1 u2 q0 q1 q2 hRm
          go_wp2_with fail
          go_ret
          exact ⟨rfl, B8⟩
    · skip
      have hC := chunk10_any A8 c8 (b) w3 l3 m3 m4 (by have := hMb; omega)
      have HG := Lib.hid (fun A c K k W hN => right10_ret [6] (.mk 6 (b) []) (fine_small (by show (b).length ≤ 800000; omega) rfl) A c K k W hN)
      rw [chunk_right] at HG
      have HGm := Lib.hid (fun A c K k W hN => right10_ret [12, 13] (.mk t (b) []) (fine_small (by show (b).length ≤ 800000; omega) rfl) A c K k W hN)
      rw [msg_right] at HGm
      have HMs := Lib.hid (fun W => message10_any t (b) W (by omega))
      have hck : chunkO (b) = none := by unfold chunkO; rw [if_neg (by intro h; omega)]
      have hmk : msgO t (b) = none := by unfold msgO; rw [if_neg (by intro h; first | omega | exact ht0 h.1)]
      rw [hck] at hC HG
      rw [hmk] at HMs HGm
      have HCV := Lib.hid (fun A c B W (h : Lies W B A ((b).map bv)) => conv_string A c B (b) W h)
      have hsz : (str (b)).size = b.length := by rw [str_size]
      clear hck hmk ht0
      generalize str (b) = s at *
      go_wp2_with fail
      refine Calls.mono (R := RetN w3 none) hC ?_
      rintro e w4 ⟨b4, A4, c4, K4, k4, rfl, hN4⟩
      simp only [Option.getD_some, Option.isSome_some, Option.getD_none, Option.isSome_none] at hN4 ⊢
      have bn := (Below.refl w4.heap.size w4).alloc (Nat.le_refl _) (.cells #[.int .u16 0, .slice A4 0 c4, .slice K4 0 k4] 28)
      have x4 := Whole.new w4 28 #[.int .u16 0, .slice A4 0 c4, .slice K4 0 k4]
      have o4 := (own_below' hown3 b4).alloc (.cells #[.int .u16 0, .slice A4 0 c4, .slice K4 0 k4] 28)
      have B4 := (B3.trans (b4.mono B3.size)).trans (bn.mono (B3.trans (b4.mono B3.size)).size)
      have hN4v : NodeS (w4.alloc (.cells #[.int .u16 0, .slice A4 0 c4, .slice K4 0 k4] 28)) (NewS w3 w4) A4 c4 K4 k4 zN := hN4.turn (fun q hq => World.cell?_alloc_lt w4 _ q hq.2) (fun _ h => h)
      have hgx : ∀ g, (w3.heap.size ≤ g ∧ g < w4.heap.size) ∨ g = w4.heap.size → w3.heap.size ≤ g := fun g hg => by have := b4.size; omega
      have hs4 := b4.size
      unfold ndV
      simp only [Nd.t, Nd.v, Nd.ks, zN, List.length_nil]
      go_upto_region 9 with fail
      have hsz4 : (w4.alloc (.cells #[.int .u16 0, .slice A4 0 c4, .slice K4 0 k4] 28)).heap.size = w4.heap.size + 1 := by simp
      generalize w4.alloc (.cells #[.int .u16 0, .slice A4 0 c4, .slice K4 0 k4] 28) = v4 at *
      clear hC b4 hN4 bn
      go_wp2_with fail
      go_loopw [11] (fun i wr => ∃ (k : Nat) (l : List UInt8), k ≤ b.length ∧ i = .int .i64 k ∧ l.length = b.length ∧ wr.ownsRow L0 5 1 (.slice A8 b.length c8) b.length (l.map bv) ∧ (∀ q : Addr, w3.heap.size ≤ q.block → wr.cell? q = v4.cell? q) ∧ wr.heap.size = v4.heap.size ∧ Below w.heap.size w wr) (fun i _ => b.length - (intOf i).toNat)
      case atStart => exact ⟨0, b, Nat.zero_le _, rfl, rfl, o4, fun _ _ => rfl, rfl, B4⟩
      case round =>
        obtain ⟨k, l, hk, rfl, hll, hor, hsame, hsize, hbel⟩ := hrel
        by_cases hlt : k < b.length
        · obtain ⟨g, x, hA, hx, hcc, hfr, hgb, hgl⟩ := own_at10 hor hlt
          subst hA
          obtain ⟨x0, hx0⟩ : ∃ x0 : UInt8, l[k]? = some x0 := ⟨_, List.getElem?_eq_getElem (by omega)⟩
          obtain rfl : x = bv x0 := by have := hx.out; rw [List.getElem?_map, hx0] at this; exact (Option.some.inj this).symm
          have hg3 : g < w3.heap.size := by
            rcases hown3.2 with ⟨q1, _⟩ | ⟨g', cap, cur, q1, _, q3, _⟩
            · cases q1
            · simp only [Value.slice.injEq, Option.some.injEq, Addr.mk.injEq, and_true, true_and] at q1
              rw [q1.1]; exact (Array.getElem?_eq_some_iff.1 q3).1
          have HST := Lib.hid (own_store' hor k (UInt8.ofNat ((x0.toNat + 1) % 256)))
          have hval : ((UInt8.ofNat ((x0.toNat + 1) % 256)).toNat : Int) = ((x0.toNat : Int) + 1) % 256 := by rw [UInt8.toNat_ofNat']; omega
          rw [hval] at HST
          have HSM : Hid (∀ q : Addr, w3.heap.size ≤ q.block → (wr.setCell ⟨g, k, none⟩ (.int .u8 (((x0.toNat : Int) + 1) % 256))).cell? q = v4.cell? q) := fun q hq => by
            rw [World.cell?_setCell_other _ _ _ _ (fun e => by rw [← e] at hq; simp at hq; omega)]; exact hsame q hq
          have HBW : Hid (Below w.heap.size w (wr.setCell ⟨g, k, none⟩ (.int .u8 (((x0.toNat : Int) + 1) % 256)))) := hbel.setCell (Nat.le_trans hL0 hgb) _
          have HSZ : Hid ((wr.setCell ⟨g, k, none⟩ (.int .u8 (((x0.toNat : Int) + 1) % 256))).heap.size = v4.heap.size) := by rw [← hsize]; simp [Hid, World.setCell]
          have HLL : Hid ((l.set k (UInt8.ofNat ((x0.toNat + 1) % 256))).length = b.length) := by unfold Hid; rw [List.length_set]; exact hll
          have hi1 : (k : Int) < (b.length : Int) := by omega
          have hi2 : (k : Int) ≤ 100000 := by have := hMb; omega
          clear hval hx hx0 hor
          go_wp2_with fail
          go_roundw
          case rel => exact ⟨k + 1, _, by omega, by go_num, HLL.out, HST.out, HSM.out, HSZ.out, HBW.out⟩
          case measure => simp [intOf]; omega
        · have hke : k = b.length := by omega
          subst hke
          have x5 : wr.cell? ⟨w4.heap.size, 0, none⟩ = some (.int .u16 0) ∧ wr.cell? ⟨w4.heap.size, 1, none⟩ = some (.slice A4 0 c4) ∧ wr.cell? ⟨w4.heap.size, 2, none⟩ = some (.slice K4 0 k4) := by
            obtain ⟨y0, y1, y2, _⟩ := x4.three
            exact ⟨(hsame _ hs4).trans y0, (hsame _ hs4).trans y1, (hsame _ hs4).trans y2⟩
          have hN5 : NodeS wr (NewS w3 w4) A4 c4 K4 k4 zN := hN4v.turn (fun q hq => hsame q hq.1) (fun _ h => h)
          have hN5n : Node wr wr.heap.size A4 c4 K4 k4 zN := hN5.node fun b hb => by have := hb.2; omega
          have hlt4 : w4.heap.size < wr.heap.size := by omega
          clear hor hsame x4 hN4v o4 hown3 l3 hgx
          go_wp2_with fail
          refine Calls.mono (R := RetN wr none) (HMs.out wr) ?_
          rintro e w6 ⟨b6, A6, c6, K6, k6, rfl, hN6⟩
          simp only [Option.getD_some, Option.isSome_some, Option.getD_none, Option.isSome_none] at hN6 ⊢
          have bn6 := (Below.refl w6.heap.size w6).alloc (Nat.le_refl _) (.cells #[.int .u16 0, .slice A6 0 c6, .slice K6 0 k6] 28)
          have y6 := Whole.new w6 28 #[.int .u16 0, .slice A6 0 c6, .slice K6 0 k6]
          have b46 := b6.trans (bn6.mono b6.size)
          have B6 := hbel.trans (b46.mono hbel.size)
          have hN7 := hN5n.on b46
          have hM7 := (hN6.node (B := w6.heap.size) fun b hb => hb.2).on bn6
          have x6 := (b46.cell (p := ⟨w4.heap.size, 0, none⟩) hlt4).trans x5.1
          have x6b := (b46.cell (p := ⟨w4.heap.size, 1, none⟩) hlt4).trans x5.2.1
          have x6c := (b46.cell (p := ⟨w4.heap.size, 2, none⟩) hlt4).trans x5.2.2
          have hlt6 : w4.heap.size < (w6.alloc (.cells #[.int .u16 0, .slice A6 0 c6, .slice K6 0 k6] 28)).heap.size := Nat.lt_of_lt_of_le hlt4 b46.size
          unfold ndV
          simp only [Nd.t, Nd.v, Nd.ks, zN, List.length_nil]
          go_upto_region 14 with fail
          generalize w6.alloc (.cells #[.int .u16 0, .slice A6 0 c6, .slice K6 0 k6] 28) = v6 at *
          obtain ⟨r0, r1, r2, _, _, _⟩ := y6.three
          have hR : Calls Try.prog 12 #[.agg #[.int .u16 0, .slice A4 0 c4, .slice K4 0 k4], .bool false] v6 (fun e w' => e = .returned (.bool true) ∧ Below v6.heap.size v6 w') := HG.out A4 c4 K4 k4 v6 hN7
          clear x5 hN5 hN5n hN6 b6 bn6 b46 HMs
          go_wp2_with fail
          refine hR.mono ?_
          rintro e w7 ⟨rfl, b7⟩
          have B7 := B6.trans (b7.mono B6.size)
          have hM8 := hM7.on b7
          have hN8 := hN7.on b7
          have hRm : Calls Try.prog 12 #[.agg #[.int .u16 0, .slice A6 0 c6, .slice K6 0 k6], .bool false] w7 (fun e w' => e = .returned (.bool true) ∧ Below w7.heap.size w7 w') := HGm.out A6 c6 K6 k6 w7 hM8
          have u0 := (b7.cell (p := ⟨w6.heap.size, 0, none⟩) y6.lt).trans r0
          have u1 := (b7.cell (p := ⟨w6.heap.size, 1, none⟩) y6.lt).trans r1
          have u2 := (b7.cell (p := ⟨w6.heap.size, 2, none⟩) y6.lt).trans r2
          have q0 := (b7.cell (p := ⟨w4.heap.size, 0, none⟩) hlt6).trans x6
          have q1 := (b7.cell (p := ⟨w4.heap.size, 1, none⟩) hlt6).trans x6b
          have q2 := (b7.cell (p := ⟨w4.heap.size, 2, none⟩) hlt6).trans x6c
          have hy7 : w6.heap.size < w7.heap.size := Nat.lt_of_lt_of_le y6.lt b7.size
          have hx7 : w4.heap.size < w7.heap.size := Nat.lt_of_lt_of_le hlt6 b7.size
          clear r0 r1 r2 x6 x6b x6c hR y6
          go_wp2_with fail
          refine hRm.mono ?_
          rintro e w8 ⟨rfl, b8⟩
          have B8 := B7.trans (b8.mono B7.size)
          have f0 := (b8.cell (p := ⟨w6.heap.size, 0, none⟩) hy7).trans u0
          have f1 := (b8.cell (p := ⟨w6.heap.size, 1, none⟩) hy7).trans u1
          have f2 := (b8.cell (p := ⟨w6.heap.size, 2, none⟩) hy7).trans u2
          have g0 := (b8.cell (p := ⟨w4.heap.size, 0, none⟩) hx7).trans q0
          have g1 := (b8.cell (p := ⟨w4.heap.size, 1, none⟩) hx7).trans q1
          have g2 := (b8.cell (p := ⟨w4.heap.size, 2, none⟩) hx7).trans q2
          clear u0 u1 u2 q0 q1 q2 hRm
          go_wp2_with fail
          go_ret
          exact ⟨rfl, B8⟩
set_option maxRecDepth 100000 in
set_option maxHeartbeats 16000000 in
theorem cb_long (A : Option Addr) (c : Nat) (b : List UInt8) (t : UInt16) (w : World) (h : Lies w w.heap.size A (b.map bv)) (hc : b.length ≤ c) (hcm : c ≤ maxLen) (hl : b.length ≤ 1000) :
    Calls Try.prog 6 #[.slice A b.length c, hv t, .bool true] w fun e w' => e = .returned (.bool true) ∧ Below w.heap.size w w' := by
  have hl' : ¬ (1000 : Int) < (b.length : Int) := by omega
  have H1 := Lib.hid (one_bytes b)
  go_enter Try.func6, Try.ntmps6
  go_wp2_with fail
  refine (awake10_any w).mono ?_
  rintro e w1 ⟨rfl, b1⟩
  have hL1 := (h.below b1).more b1.size
  have hcv := conv_string A c _ b w1 hL1
  have hE := own_empty w1 w1.heap.size (Nat.le_refl _)
  have hL0 := b1.size
  go_upto_region 5 with (at_builtin; refine wpList_append_lies _ rfl (.tmp 24) (.tmp 25) 25 rfl w1.heap.size 5 _ 1 Try.underlying25 u8info rfl _ _ _ rfl hE _ _ b.length c (b.map bv) rfl (by simp) ((hL1.alloc (Nat.le_refl _) _).more (B' := w1.heap.size + 1) (by omega)) H1.out (by omega) (by unfold maxLen; omega) (by simp) ?_; intro A8 c8 w3 hown3 hgrow3 _)
  simp only [Nat.zero_add, List.nil_append] at hown3
  have b3 := ((Below.refl _ w1).alloc (Nat.le_refl _) (.cells #[] 5)).grown hgrow3 (by simp) (fun k e => by cases e; exact Nat.le_refl _)
  have B3 := b1.trans (b3.mono b1.size)
  clear hgrow3

  clear hcv hE hl' H1 hL1 hc hcm h hL0
  have hs3 := B3.size
  obtain ⟨M, hM⟩ : ∃ M, 65525 + b.length % 10 = M := ⟨_, rfl⟩
  have hMM : (65525 : Int) + (b.length : Int) % 10 = (M : Int) := by omega
  have hMb : M ≤ 100000 := by omega
  have hM1 : 65525 ≤ M := by omega
  have hmk : ∀ W : World, (Instr.makeSlice 25 (.int .i64 (65525 + (b.length : Int) % 10)) (.int .i64 (65525 + (b.length : Int) % 10))).run Try.prog W = .ok (.slice (some ⟨W.heap.size, 0, none⟩) M M) (W.alloc (.cells (madeCells #[.int .u8 0] M) 5)) := fun W => by
    rw [hMM]
    exact run_make_row' (P := Try.prog) 25 5 (.int .u8 0) 1 Try.underlying25 u8info rfl .i64 .i64 M (by omega) (by omega) W
  clear hMM hM
  clear hown3
  have hown5 := whole_own10 (base := w3.heap.size) (n := M) (xs := (List.replicate M (0 : UInt8)).map bv) (by rw [← made_zero]; exact Whole.new w3 5 (madeCells #[.int .u8 0] M)) (Nat.le_refl _) (by simp) (by unfold maxLen; omega)
  have b5 : Below w3.heap.size w3 (w3.alloc (.cells (madeCells #[.int .u8 0] M) 5)) := (Below.refl _ _).alloc (Nat.le_refl _) _
  go_upto_region 7 with fail
  generalize w3.alloc (.cells (madeCells #[.int .u8 0] M) 5) = w5 at *
  have B5 := B3.trans (b5.mono B3.size)
  have HLM : Hid ((List.replicate M (0 : UInt8)).length = M) := List.length_replicate ..
  have l5 := Lies.own hown5
  have m5 := (own_cap hown5).2.1
  have m6 := (own_cap hown5).2.2
  have hL0 := hs3
  generalize w3.heap.size = L0 at *
  generalize (some (⟨L0, 0, none⟩ : Addr)) = A8 at *
  have hcv5 := conv_string A8 M _ (List.replicate M (0 : UInt8)) w5 l5
  rw [HLM.out] at hcv5
  clear hmk
  go_upto_region 8 with fail
  clear hcv5
  clear B3 b3 b5 b1
  have hq4 : (4 : Int) ≤ (M : Int) := by omega
  by_cases h5 : M ≤ 65531
  · have hq5 : (M : Int) ≤ 65531 := by omega
    rcases types_1213 t with ⟨t1, ht0⟩ | ⟨t1, t2, ht0⟩ | ⟨t1, t2, ht0⟩
    · skip
      have hC := chunk10_any A8 M (List.replicate M (0 : UInt8)) w5 l5 (by rw [HLM.out]; exact m5) m6 (by rw [HLM.out]; have := hMb; omega)
      rw [HLM.out] at hC
      have HG := Lib.hid (fun A c K k W hN => right10_ret [6] (.mk 6 (List.replicate M (0 : UInt8)) []) (fine_small (by show (List.replicate M (0 : UInt8)).length ≤ 800000; rw [HLM.out]; omega) rfl) A c K k W hN)
      rw [chunk_right] at HG
      have HGm := Lib.hid (fun A c K k W hN => right10_ret [12, 13] (.mk t (List.replicate M (0 : UInt8)) []) (fine_small (by show (List.replicate M (0 : UInt8)).length ≤ 800000; rw [HLM.out]; omega) rfl) A c K k W hN)
      rw [msg_right] at HGm
      have HMs := Lib.hid (fun W => message10_any t (List.replicate M (0 : UInt8)) W (by rw [HLM.out]; omega))
      have hck : chunkO (List.replicate M (0 : UInt8)) = some (.mk 6 (List.replicate M (0 : UInt8)) []) := by unfold chunkO; rw [if_pos (by rw [HLM.out]; exact ⟨by omega, by omega⟩)]
      have hmk : msgO t (List.replicate M (0 : UInt8)) = some (.mk t (List.replicate M (0 : UInt8)) []) := by unfold msgO; rw [if_pos (by rw [HLM.out]; exact ⟨ht0, by omega⟩)]
      rw [hck] at hC HG
      rw [hmk] at HMs HGm
      have HCV := Lib.hid (fun A c B W (h : Lies W B A ((List.replicate M (0 : UInt8)).map bv)) => conv_string A c B (List.replicate M (0 : UInt8)) W h)
      rw [HLM.out] at HCV
      have hsz : (str (List.replicate M (0 : UInt8))).size = M := by rw [str_size]; exact HLM.out
      clear hck hmk ht0
      generalize str (List.replicate M (0 : UInt8)) = s at *
      go_wp2_with fail
      refine Calls.mono (R := RetN w5 (some (.mk 6 (List.replicate M (0 : UInt8)) []))) hC ?_
      rintro e w4 ⟨b4, A4, c4, K4, k4, rfl, hN4⟩
      simp only [Option.getD_some, Option.isSome_some, Option.getD_none, Option.isSome_none] at hN4 ⊢
      have bn := (Below.refl w4.heap.size w4).alloc (Nat.le_refl _) (.cells #[.int .u16 6, .slice A4 M c4, .slice K4 0 k4] 28)
      have x4 := Whole.new w4 28 #[.int .u16 6, .slice A4 M c4, .slice K4 0 k4]
      have o4 := (own_below' hown5 b4).alloc (.cells #[.int .u16 6, .slice A4 M c4, .slice K4 0 k4] 28)
      have B4 := (B5.trans (b4.mono B5.size)).trans (bn.mono (B5.trans (b4.mono B5.size)).size)
      have hN4v : NodeS (w4.alloc (.cells #[.int .u16 6, .slice A4 M c4, .slice K4 0 k4] 28)) (NewS w5 w4) A4 c4 K4 k4 (.mk 6 (List.replicate M (0 : UInt8)) []) := hN4.turn (fun q hq => World.cell?_alloc_lt w4 _ q hq.2) (fun _ h => h)
      have hgx : ∀ g, (w5.heap.size ≤ g ∧ g < w4.heap.size) ∨ g = w4.heap.size → w5.heap.size ≤ g := fun g hg => by have := b4.size; omega
      have hs4 := b4.size
      unfold ndV
      simp only [Nd.t, Nd.v, Nd.ks, zN, List.length_nil, HLM.out]
      go_upto_region 9 with fail
      have hsz4 : (w4.alloc (.cells #[.int .u16 6, .slice A4 M c4, .slice K4 0 k4] 28)).heap.size = w4.heap.size + 1 := by simp
      generalize w4.alloc (.cells #[.int .u16 6, .slice A4 M c4, .slice K4 0 k4] 28) = v4 at *
      clear hC b4 hN4 bn
      go_wp2_with fail
      go_loopw [11] (fun i wr => ∃ (k : Nat) (l : List UInt8), k ≤ M ∧ i = .int .i64 k ∧ l.length = M ∧ wr.ownsRow L0 5 1 (.slice A8 M M) M (l.map bv) ∧ (∀ q : Addr, w5.heap.size ≤ q.block → wr.cell? q = v4.cell? q) ∧ wr.heap.size = v4.heap.size ∧ Below w.heap.size w wr) (fun i _ => M - (intOf i).toNat)
      case atStart => exact ⟨0, List.replicate M (0 : UInt8), Nat.zero_le _, rfl, HLM.out, o4, fun _ _ => rfl, rfl, B4⟩
      case round =>
        obtain ⟨k, l, hk, rfl, hll, hor, hsame, hsize, hbel⟩ := hrel
        by_cases hlt : k < M
        · obtain ⟨g, x, hA, hx, hcc, hfr, hgb, hgl⟩ := own_at10 hor hlt
          subst hA
          obtain ⟨x0, hx0⟩ : ∃ x0 : UInt8, l[k]? = some x0 := ⟨_, List.getElem?_eq_getElem (by omega)⟩
          obtain rfl : x = bv x0 := by have := hx.out; rw [List.getElem?_map, hx0] at this; exact (Option.some.inj this).symm
          have hg3 : g < w5.heap.size := by
            rcases hown5.2 with ⟨q1, _⟩ | ⟨g', cap, cur, q1, _, q3, _⟩
            · cases q1
            · simp only [Value.slice.injEq, Option.some.injEq, Addr.mk.injEq, and_true, true_and] at q1
              rw [q1.1]; exact (Array.getElem?_eq_some_iff.1 q3).1
          have HST := Lib.hid (own_store' hor k (UInt8.ofNat ((x0.toNat + 1) % 256)))
          have hval : ((UInt8.ofNat ((x0.toNat + 1) % 256)).toNat : Int) = ((x0.toNat : Int) + 1) % 256 := by rw [UInt8.toNat_ofNat']; omega
          rw [hval] at HST
          have HSM : Hid (∀ q : Addr, w5.heap.size ≤ q.block → (wr.setCell ⟨g, k, none⟩ (.int .u8 (((x0.toNat : Int) + 1) % 256))).cell? q = v4.cell? q) := fun q hq => by
            rw [World.cell?_setCell_other _ _ _ _ (fun e => by rw [← e] at hq; simp at hq; omega)]; exact hsame q hq
          have HBW : Hid (Below w.heap.size w (wr.setCell ⟨g, k, none⟩ (.int .u8 (((x0.toNat : Int) + 1) % 256)))) := hbel.setCell (Nat.le_trans hL0 hgb) _
          have HSZ : Hid ((wr.setCell ⟨g, k, none⟩ (.int .u8 (((x0.toNat : Int) + 1) % 256))).heap.size = v4.heap.size) := by rw [← hsize]; simp [Hid, World.setCell]
          have HLL : Hid ((l.set k (UInt8.ofNat ((x0.toNat + 1) % 256))).length = M) := by unfold Hid; rw [List.length_set]; exact hll
          have hi1 : (k : Int) < (M : Int) := by omega
          have hi2 : (k : Int) ≤ 100000 := by have := hMb; omega
          clear hval hx hx0 hor
          go_wp2_with fail
          go_roundw
          case rel => exact ⟨k + 1, _, by omega, by go_num, HLL.out, HST.out, HSM.out, HSZ.out, HBW.out⟩
          case measure => simp [intOf]; omega
        · have hke : M = k := by omega
          subst hke
          have x5 : wr.cell? ⟨w4.heap.size, 0, none⟩ = some (.int .u16 6) ∧ wr.cell? ⟨w4.heap.size, 1, none⟩ = some (.slice A4 M c4) ∧ wr.cell? ⟨w4.heap.size, 2, none⟩ = some (.slice K4 0 k4) := by
            obtain ⟨y0, y1, y2, _⟩ := x4.three
            exact ⟨(hsame _ hs4).trans y0, (hsame _ hs4).trans y1, (hsame _ hs4).trans y2⟩
          have hN5 : NodeS wr (NewS w5 w4) A4 c4 K4 k4 (.mk 6 (List.replicate M (0 : UInt8)) []) := hN4v.turn (fun q hq => hsame q hq.1) (fun _ h => h)
          have hN5n : Node wr wr.heap.size A4 c4 K4 k4 (.mk 6 (List.replicate M (0 : UInt8)) []) := hN5.node fun b hb => by have := hb.2; omega
          have hlt4 : w4.heap.size < wr.heap.size := by omega
          clear hor hsame x4 hN4v o4 hown5 l5 hgx
          go_wp2_with fail
          refine Calls.mono (R := RetN wr (some (.mk t (List.replicate M (0 : UInt8)) []))) (HMs.out wr) ?_
          rintro e w6 ⟨b6, A6, c6, K6, k6, rfl, hN6⟩
          simp only [Option.getD_some, Option.isSome_some, Option.getD_none, Option.isSome_none] at hN6 ⊢
          have bn6 := (Below.refl w6.heap.size w6).alloc (Nat.le_refl _) (.cells #[hv t, .slice A6 M c6, .slice K6 0 k6] 28)
          have y6 := Whole.new w6 28 #[hv t, .slice A6 M c6, .slice K6 0 k6]
          have b46 := b6.trans (bn6.mono b6.size)
          have B6 := hbel.trans (b46.mono hbel.size)
          have hN7 := hN5n.on b46
          have hM7 := (hN6.node (B := w6.heap.size) fun b hb => hb.2).on bn6
          have x6 := (b46.cell (p := ⟨w4.heap.size, 0, none⟩) hlt4).trans x5.1
          have x6b := (b46.cell (p := ⟨w4.heap.size, 1, none⟩) hlt4).trans x5.2.1
          have x6c := (b46.cell (p := ⟨w4.heap.size, 2, none⟩) hlt4).trans x5.2.2
          have hlt6 : w4.heap.size < (w6.alloc (.cells #[hv t, .slice A6 M c6, .slice K6 0 k6] 28)).heap.size := Nat.lt_of_lt_of_le hlt4 b46.size
          unfold ndV
          simp only [Nd.t, Nd.v, Nd.ks, zN, List.length_nil, HLM.out]
          go_upto_region 14 with fail
          generalize w6.alloc (.cells #[hv t, .slice A6 M c6, .slice K6 0 k6] 28) = v6 at *
          obtain ⟨r0, r1, r2, _, _, _⟩ := y6.three
          have hR : Calls Try.prog 12 #[.agg #[.int .u16 6, .slice A4 M c4, .slice K4 0 k4], .bool true] v6 (fun e w' => e = .returned (.bool true) ∧ Below v6.heap.size v6 w') := by have h := HG.out A4 c4 K4 k4 v6 hN7; simp only [ndV, Option.getD_some, Option.isSome_some, Nd.t, Nd.v, Nd.ks, List.length_nil, HLM.out] at h; exact h
          clear x5 hN5 hN5n hN6 b6 bn6 b46 HMs
          go_wp2_with fail
          refine hR.mono ?_
          rintro e w7 ⟨rfl, b7⟩
          have B7 := B6.trans (b7.mono B6.size)
          have hM8 := hM7.on b7
          have hN8 := hN7.on b7
          have hRm : Calls Try.prog 12 #[.agg #[hv t, .slice A6 M c6, .slice K6 0 k6], .bool true] w7 (fun e w' => e = .returned (.bool true) ∧ Below w7.heap.size w7 w') := by have h := HGm.out A6 c6 K6 k6 w7 hM8; simp only [ndV, Option.getD_some, Option.isSome_some, Nd.t, Nd.v, Nd.ks, List.length_nil, HLM.out] at h; exact h
          have u0 := (b7.cell (p := ⟨w6.heap.size, 0, none⟩) y6.lt).trans r0
          have u1 := (b7.cell (p := ⟨w6.heap.size, 1, none⟩) y6.lt).trans r1
          have u2 := (b7.cell (p := ⟨w6.heap.size, 2, none⟩) y6.lt).trans r2
          have q0 := (b7.cell (p := ⟨w4.heap.size, 0, none⟩) hlt6).trans x6
          have q1 := (b7.cell (p := ⟨w4.heap.size, 1, none⟩) hlt6).trans x6b
          have q2 := (b7.cell (p := ⟨w4.heap.size, 2, none⟩) hlt6).trans x6c
          have hy7 : w6.heap.size < w7.heap.size := Nat.lt_of_lt_of_le y6.lt b7.size
          have hx7 : w4.heap.size < w7.heap.size := Nat.lt_of_lt_of_le hlt6 b7.size
          clear r0 r1 r2 x6 x6b x6c hR y6
          go_wp2_with fail
          refine hRm.mono ?_
          rintro e w8 ⟨rfl, b8⟩
          have B8 := B7.trans (b8.mono B7.size)
          have f0 := (b8.cell (p := ⟨w6.heap.size, 0, none⟩) hy7).trans u0
          have f1 := (b8.cell (p := ⟨w6.heap.size, 1, none⟩) hy7).trans u1
          have f2 := (b8.cell (p := ⟨w6.heap.size, 2, none⟩) hy7).trans u2
          have g0 := (b8.cell (p := ⟨w4.heap.size, 0, none⟩) hx7).trans q0
          have g1 := (b8.cell (p := ⟨w4.heap.size, 1, none⟩) hx7).trans q1
          have g2 := (b8.cell (p := ⟨w4.heap.size, 2, none⟩) hx7).trans q2
          have cv1 := HCV.out A4 c4 _ w8 (hN8.on b8).data
          have cv2 := HCV.out A6 c6 _ w8 (hM8.on b8).data
          clear u0 u1 u2 q0 q1 q2 hRm
          go_wp2_with fail
          go_ret
          exact ⟨rfl, B8⟩
    · skip
      have hC := chunk10_any A8 M (List.replicate M (0 : UInt8)) w5 l5 (by rw [HLM.out]; exact m5) m6 (by rw [HLM.out]; have := hMb; omega)
      rw [HLM.out] at hC
      have HG := Lib.hid (fun A c K k W hN => right10_ret [6] (.mk 6 (List.replicate M (0 : UInt8)) []) (fine_small (by show (List.replicate M (0 : UInt8)).length ≤ 800000; rw [HLM.out]; omega) rfl) A c K k W hN)
      rw [chunk_right] at HG
      have HGm := Lib.hid (fun A c K k W hN => right10_ret [12, 13] (.mk t (List.replicate M (0 : UInt8)) []) (fine_small (by show (List.replicate M (0 : UInt8)).length ≤ 800000; rw [HLM.out]; omega) rfl) A c K k W hN)
      rw [msg_right] at HGm
      have HMs := Lib.hid (fun W => message10_any t (List.replicate M (0 : UInt8)) W (by rw [HLM.out]; omega))
      have hck : chunkO (List.replicate M (0 : UInt8)) = some (.mk 6 (List.replicate M (0 : UInt8)) []) := by unfold chunkO; rw [if_pos (by rw [HLM.out]; exact ⟨by omega, by omega⟩)]
      have hmk : msgO t (List.replicate M (0 : UInt8)) = some (.mk t (List.replicate M (0 : UInt8)) []) := by unfold msgO; rw [if_pos (by rw [HLM.out]; exact ⟨ht0, by omega⟩)]
      rw [hck] at hC HG
      rw [hmk] at HMs HGm
      have HCV := Lib.hid (fun A c B W (h : Lies W B A ((List.replicate M (0 : UInt8)).map bv)) => conv_string A c B (List.replicate M (0 : UInt8)) W h)
      rw [HLM.out] at HCV
      have hsz : (str (List.replicate M (0 : UInt8))).size = M := by rw [str_size]; exact HLM.out
      clear hck hmk ht0
      generalize str (List.replicate M (0 : UInt8)) = s at *
      go_wp2_with fail
      refine Calls.mono (R := RetN w5 (some (.mk 6 (List.replicate M (0 : UInt8)) []))) hC ?_
      rintro e w4 ⟨b4, A4, c4, K4, k4, rfl, hN4⟩
      simp only [Option.getD_some, Option.isSome_some, Option.getD_none, Option.isSome_none] at hN4 ⊢
      have bn := (Below.refl w4.heap.size w4).alloc (Nat.le_refl _) (.cells #[.int .u16 6, .slice A4 M c4, .slice K4 0 k4] 28)
      have x4 := Whole.new w4 28 #[.int .u16 6, .slice A4 M c4, .slice K4 0 k4]
      have o4 := (own_below' hown5 b4).alloc (.cells #[.int .u16 6, .slice A4 M c4, .slice K4 0 k4] 28)
      have B4 := (B5.trans (b4.mono B5.size)).trans (bn.mono (B5.trans (b4.mono B5.size)).size)
      have hN4v : NodeS (w4.alloc (.cells #[.int .u16 6, .slice A4 M c4, .slice K4 0 k4] 28)) (NewS w5 w4) A4 c4 K4 k4 (.mk 6 (List.replicate M (0 : UInt8)) []) := hN4.turn (fun q hq => World.cell?_alloc_lt w4 _ q hq.2) (fun _ h => h)
      have hgx : ∀ g, (w5.heap.size ≤ g ∧ g < w4.heap.size) ∨ g = w4.heap.size → w5.heap.size ≤ g := fun g hg => by have := b4.size; omega
      have hs4 := b4.size
      unfold ndV
      simp only [Nd.t, Nd.v, Nd.ks, zN, List.length_nil, HLM.out]
      go_upto_region 9 with fail
      have hsz4 : (w4.alloc (.cells #[.int .u16 6, .slice A4 M c4, .slice K4 0 k4] 28)).heap.size = w4.heap.size + 1 := by simp
      generalize w4.alloc (.cells #[.int .u16 6, .slice A4 M c4, .slice K4 0 k4] 28) = v4 at *
      clear hC b4 hN4 bn
      go_wp2_with fail
      go_loopw [11] (fun i wr => ∃ (k : Nat) (l : List UInt8), k ≤ M ∧ i = .int .i64 k ∧ l.length = M ∧ wr.ownsRow L0 5 1 (.slice A8 M M) M (l.map bv) ∧ (∀ q : Addr, w5.heap.size ≤ q.block → wr.cell? q = v4.cell? q) ∧ wr.heap.size = v4.heap.size ∧ Below w.heap.size w wr) (fun i _ => M - (intOf i).toNat)
      case atStart => exact ⟨0, List.replicate M (0 : UInt8), Nat.zero_le _, rfl, HLM.out, o4, fun _ _ => rfl, rfl, B4⟩
      case round =>
        obtain ⟨k, l, hk, rfl, hll, hor, hsame, hsize, hbel⟩ := hrel
        by_cases hlt : k < M
        · obtain ⟨g, x, hA, hx, hcc, hfr, hgb, hgl⟩ := own_at10 hor hlt
          subst hA
          obtain ⟨x0, hx0⟩ : ∃ x0 : UInt8, l[k]? = some x0 := ⟨_, List.getElem?_eq_getElem (by omega)⟩
          obtain rfl : x = bv x0 := by have := hx.out; rw [List.getElem?_map, hx0] at this; exact (Option.some.inj this).symm
          have hg3 : g < w5.heap.size := by
            rcases hown5.2 with ⟨q1, _⟩ | ⟨g', cap, cur, q1, _, q3, _⟩
            · cases q1
            · simp only [Value.slice.injEq, Option.some.injEq, Addr.mk.injEq, and_true, true_and] at q1
              rw [q1.1]; exact (Array.getElem?_eq_some_iff.1 q3).1
          have HST := Lib.hid (own_store' hor k (UInt8.ofNat ((x0.toNat + 1) % 256)))
          have hval : ((UInt8.ofNat ((x0.toNat + 1) % 256)).toNat : Int) = ((x0.toNat : Int) + 1) % 256 := by rw [UInt8.toNat_ofNat']; omega
          rw [hval] at HST
          have HSM : Hid (∀ q : Addr, w5.heap.size ≤ q.block → (wr.setCell ⟨g, k, none⟩ (.int .u8 (((x0.toNat : Int) + 1) % 256))).cell? q = v4.cell? q) := fun q hq => by
            rw [World.cell?_setCell_other _ _ _ _ (fun e => by rw [← e] at hq; simp at hq; omega)]; exact hsame q hq
          have HBW : Hid (Below w.heap.size w (wr.setCell ⟨g, k, none⟩ (.int .u8 (((x0.toNat : Int) + 1) % 256)))) := hbel.setCell (Nat.le_trans hL0 hgb) _
          have HSZ : Hid ((wr.setCell ⟨g, k, none⟩ (.int .u8 (((x0.toNat : Int) + 1) % 256))).heap.size = v4.heap.size) := by rw [← hsize]; simp [Hid, World.setCell]
          have HLL : Hid ((l.set k (UInt8.ofNat ((x0.toNat + 1) % 256))).length = M) := by unfold Hid; rw [List.length_set]; exact hll
          have hi1 : (k : Int) < (M : Int) := by omega
          have hi2 : (k : Int) ≤ 100000 := by have := hMb; omega
          clear hval hx hx0 hor
          go_wp2_with fail
          go_roundw
          case rel => exact ⟨k + 1, _, by omega, by go_num, HLL.out, HST.out, HSM.out, HSZ.out, HBW.out⟩
          case measure => simp [intOf]; omega
        · have hke : M = k := by omega
          subst hke
          have x5 : wr.cell? ⟨w4.heap.size, 0, none⟩ = some (.int .u16 6) ∧ wr.cell? ⟨w4.heap.size, 1, none⟩ = some (.slice A4 M c4) ∧ wr.cell? ⟨w4.heap.size, 2, none⟩ = some (.slice K4 0 k4) := by
            obtain ⟨y0, y1, y2, _⟩ := x4.three
            exact ⟨(hsame _ hs4).trans y0, (hsame _ hs4).trans y1, (hsame _ hs4).trans y2⟩
          have hN5 : NodeS wr (NewS w5 w4) A4 c4 K4 k4 (.mk 6 (List.replicate M (0 : UInt8)) []) := hN4v.turn (fun q hq => hsame q hq.1) (fun _ h => h)
          have hN5n : Node wr wr.heap.size A4 c4 K4 k4 (.mk 6 (List.replicate M (0 : UInt8)) []) := hN5.node fun b hb => by have := hb.2; omega
          have hlt4 : w4.heap.size < wr.heap.size := by omega
          clear hor hsame x4 hN4v o4 hown5 l5 hgx
          go_wp2_with fail
          refine Calls.mono (R := RetN wr (some (.mk t (List.replicate M (0 : UInt8)) []))) (HMs.out wr) ?_
          rintro e w6 ⟨b6, A6, c6, K6, k6, rfl, hN6⟩
          simp only [Option.getD_some, Option.isSome_some, Option.getD_none, Option.isSome_none] at hN6 ⊢
          have bn6 := (Below.refl w6.heap.size w6).alloc (Nat.le_refl _) (.cells #[hv t, .slice A6 M c6, .slice K6 0 k6] 28)
          have y6 := Whole.new w6 28 #[hv t, .slice A6 M c6, .slice K6 0 k6]
          have b46 := b6.trans (bn6.mono b6.size)
          have B6 := hbel.trans (b46.mono hbel.size)
          have hN7 := hN5n.on b46
          have hM7 := (hN6.node (B := w6.heap.size) fun b hb => hb.2).on bn6
          have x6 := (b46.cell (p := ⟨w4.heap.size, 0, none⟩) hlt4).trans x5.1
          have x6b := (b46.cell (p := ⟨w4.heap.size, 1, none⟩) hlt4).trans x5.2.1
          have x6c := (b46.cell (p := ⟨w4.heap.size, 2, none⟩) hlt4).trans x5.2.2
          have hlt6 : w4.heap.size < (w6.alloc (.cells #[hv t, .slice A6 M c6, .slice K6 0 k6] 28)).heap.size := Nat.lt_of_lt_of_le hlt4 b46.size
          unfold ndV
          simp only [Nd.t, Nd.v, Nd.ks, zN, List.length_nil, HLM.out]
          go_upto_region 14 with fail
          generalize w6.alloc (.cells #[hv t, .slice A6 M c6, .slice K6 0 k6] 28) = v6 at *
          obtain ⟨r0, r1, r2, _, _, _⟩ := y6.three
          have hR : Calls Try.prog 12 #[.agg #[.int .u16 6, .slice A4 M c4, .slice K4 0 k4], .bool true] v6 (fun e w' => e = .returned (.bool true) ∧ Below v6.heap.size v6 w') := by have h := HG.out A4 c4 K4 k4 v6 hN7; simp only [ndV, Option.getD_some, Option.isSome_some, Nd.t, Nd.v, Nd.ks, List.length_nil, HLM.out] at h; exact h
          clear x5 hN5 hN5n hN6 b6 bn6 b46 HMs
          go_wp2_with fail
          refine hR.mono ?_
          rintro e w7 ⟨rfl, b7⟩
          have B7 := B6.trans (b7.mono B6.size)
          have hM8 := hM7.on b7
          have hN8 := hN7.on b7
          have hRm : Calls Try.prog 12 #[.agg #[hv t, .slice A6 M c6, .slice K6 0 k6], .bool true] w7 (fun e w' => e = .returned (.bool true) ∧ Below w7.heap.size w7 w') := by have h := HGm.out A6 c6 K6 k6 w7 hM8; simp only [ndV, Option.getD_some, Option.isSome_some, Nd.t, Nd.v, Nd.ks, List.length_nil, HLM.out] at h; exact h
          have u0 := (b7.cell (p := ⟨w6.heap.size, 0, none⟩) y6.lt).trans r0
          have u1 := (b7.cell (p := ⟨w6.heap.size, 1, none⟩) y6.lt).trans r1
          have u2 := (b7.cell (p := ⟨w6.heap.size, 2, none⟩) y6.lt).trans r2
          have q0 := (b7.cell (p := ⟨w4.heap.size, 0, none⟩) hlt6).trans x6
          have q1 := (b7.cell (p := ⟨w4.heap.size, 1, none⟩) hlt6).trans x6b
          have q2 := (b7.cell (p := ⟨w4.heap.size, 2, none⟩) hlt6).trans x6c
          have hy7 : w6.heap.size < w7.heap.size := Nat.lt_of_lt_of_le y6.lt b7.size
          have hx7 : w4.heap.size < w7.heap.size := Nat.lt_of_lt_of_le hlt6 b7.size
          clear r0 r1 r2 x6 x6b x6c hR y6
          go_wp2_with fail
          refine hRm.mono ?_
          rintro e w8 ⟨rfl, b8⟩
          have B8 := B7.trans (b8.mono B7.size)
          have f0 := (b8.cell (p := ⟨w6.heap.size, 0, none⟩) hy7).trans u0
          have f1 := (b8.cell (p := ⟨w6.heap.size, 1, none⟩) hy7).trans u1
          have f2 := (b8.cell (p := ⟨w6.heap.size, 2, none⟩) hy7).trans u2
          have g0 := (b8.cell (p := ⟨w4.heap.size, 0, none⟩) hx7).trans q0
          have g1 := (b8.cell (p := ⟨w4.heap.size, 1, none⟩) hx7).trans q1
          have g2 := (b8.cell (p := ⟨w4.heap.size, 2, none⟩) hx7).trans q2
          have cv1 := HCV.out A4 c4 _ w8 (hN8.on b8).data
          have cv2 := HCV.out A6 c6 _ w8 (hM8.on b8).data
          clear u0 u1 u2 q0 q1 q2 hRm
          go_wp2_with fail
          go_ret
          exact ⟨rfl, B8⟩
    · skip
      have hC := chunk10_any A8 M (List.replicate M (0 : UInt8)) w5 l5 (by rw [HLM.out]; exact m5) m6 (by rw [HLM.out]; have := hMb; omega)
      rw [HLM.out] at hC
      have HG := Lib.hid (fun A c K k W hN => right10_ret [6] (.mk 6 (List.replicate M (0 : UInt8)) []) (fine_small (by show (List.replicate M (0 : UInt8)).length ≤ 800000; rw [HLM.out]; omega) rfl) A c K k W hN)
      rw [chunk_right] at HG
      have HGm := Lib.hid (fun A c K k W hN => right10_ret [12, 13] (.mk t (List.replicate M (0 : UInt8)) []) (fine_small (by show (List.replicate M (0 : UInt8)).length ≤ 800000; rw [HLM.out]; omega) rfl) A c K k W hN)
      rw [msg_right] at HGm
      have HMs := Lib.hid (fun W => message10_any t (List.replicate M (0 : UInt8)) W (by rw [HLM.out]; omega))
      have hck : chunkO (List.replicate M (0 : UInt8)) = some (.mk 6 (List.replicate M (0 : UInt8)) []) := by unfold chunkO; rw [if_pos (by rw [HLM.out]; exact ⟨by omega, by omega⟩)]
      have hmk : msgO t (List.replicate M (0 : UInt8)) = none := by unfold msgO; rw [if_neg (by rw [HLM.out]; intro h; first | omega | exact ht0 h.1)]
      rw [hck] at hC HG
      rw [hmk] at HMs HGm
      have HCV := Lib.hid (fun A c B W (h : Lies W B A ((List.replicate M (0 : UInt8)).map bv)) => conv_string A c B (List.replicate M (0 : UInt8)) W h)
      rw [HLM.out] at HCV
      have hsz : (str (List.replicate M (0 : UInt8))).size = M := by rw [str_size]; exact HLM.out
      clear hck hmk ht0
      generalize str (List.replicate M (0 : UInt8)) = s at *
      go_wp2_with fail
      refine Calls.mono (R := RetN w5 (some (.mk 6 (List.replicate M (0 : UInt8)) []))) hC ?_
      rintro e w4 ⟨b4, A4, c4, K4, k4, rfl, hN4⟩
      simp only [Option.getD_some, Option.isSome_some, Option.getD_none, Option.isSome_none] at hN4 ⊢
      have bn := (Below.refl w4.heap.size w4).alloc (Nat.le_refl _) (.cells #[.int .u16 6, .slice A4 M c4, .slice K4 0 k4] 28)
      have x4 := Whole.new w4 28 #[.int .u16 6, .slice A4 M c4, .slice K4 0 k4]
      have o4 := (own_below' hown5 b4).alloc (.cells #[.int .u16 6, .slice A4 M c4, .slice K4 0 k4] 28)
      have B4 := (B5.trans (b4.mono B5.size)).trans (bn.mono (B5.trans (b4.mono B5.size)).size)
      have hN4v : NodeS (w4.alloc (.cells #[.int .u16 6, .slice A4 M c4, .slice K4 0 k4] 28)) (NewS w5 w4) A4 c4 K4 k4 (.mk 6 (List.replicate M (0 : UInt8)) []) := hN4.turn (fun q hq => World.cell?_alloc_lt w4 _ q hq.2) (fun _ h => h)
      have hgx : ∀ g, (w5.heap.size ≤ g ∧ g < w4.heap.size) ∨ g = w4.heap.size → w5.heap.size ≤ g := fun g hg => by have := b4.size; omega
      have hs4 := b4.size
      unfold ndV
      simp only [Nd.t, Nd.v, Nd.ks, zN, List.length_nil, HLM.out]
      go_upto_region 9 with fail
      have hsz4 : (w4.alloc (.cells #[.int .u16 6, .slice A4 M c4, .slice K4 0 k4] 28)).heap.size = w4.heap.size + 1 := by simp
      generalize w4.alloc (.cells #[.int .u16 6, .slice A4 M c4, .slice K4 0 k4] 28) = v4 at *
      clear hC b4 hN4 bn
      go_wp2_with fail
      go_loopw [11] (fun i wr => ∃ (k : Nat) (l : List UInt8), k ≤ M ∧ i = .int .i64 k ∧ l.length = M ∧ wr.ownsRow L0 5 1 (.slice A8 M M) M (l.map bv) ∧ (∀ q : Addr, w5.heap.size ≤ q.block → wr.cell? q = v4.cell? q) ∧ wr.heap.size = v4.heap.size ∧ Below w.heap.size w wr) (fun i _ => M - (intOf i).toNat)
      case atStart => exact ⟨0, List.replicate M (0 : UInt8), Nat.zero_le _, rfl, HLM.out, o4, fun _ _ => rfl, rfl, B4⟩
      case round =>
        obtain ⟨k, l, hk, rfl, hll, hor, hsame, hsize, hbel⟩ := hrel
        by_cases hlt : k < M
        · obtain ⟨g, x, hA, hx, hcc, hfr, hgb, hgl⟩ := own_at10 hor hlt
          subst hA
          obtain ⟨x0, hx0⟩ : ∃ x0 : UInt8, l[k]? = some x0 := ⟨_, List.getElem?_eq_getElem (by omega)⟩
          obtain rfl : x = bv x0 := by have := hx.out; rw [List.getElem?_map, hx0] at this; exact (Option.some.inj this).symm
          have hg3 : g < w5.heap.size := by
            rcases hown5.2 with ⟨q1, _⟩ | ⟨g', cap, cur, q1, _, q3, _⟩
            · cases q1
            · simp only [Value.slice.injEq, Option.some.injEq, Addr.mk.injEq, and_true, true_and] at q1
              rw [q1.1]; exact (Array.getElem?_eq_some_iff.1 q3).1
          have HST := Lib.hid (own_store' hor k (UInt8.ofNat ((x0.toNat + 1) % 256)))
          have hval : ((UInt8.ofNat ((x0.toNat + 1) % 256)).toNat : Int) = ((x0.toNat : Int) + 1) % 256 := by rw [UInt8.toNat_ofNat']; omega
          rw [hval] at HST
          have HSM : Hid (∀ q : Addr, w5.heap.size ≤ q.block → (wr.setCell ⟨g, k, none⟩ (.int .u8 (((x0.toNat : Int) + 1) % 256))).cell? q = v4.cell? q) := fun q hq => by
            rw [World.cell?_setCell_other _ _ _ _ (fun e => by rw [← e] at hq; simp at hq; omega)]; exact hsame q hq
          have HBW : Hid (Below w.heap.size w (wr.setCell ⟨g, k, none⟩ (.int .u8 (((x0.toNat : Int) + 1) % 256)))) := hbel.setCell (Nat.le_trans hL0 hgb) _
          have HSZ : Hid ((wr.setCell ⟨g, k, none⟩ (.int .u8 (((x0.toNat : Int) + 1) % 256))).heap.size = v4.heap.size) := by rw [← hsize]; simp [Hid, World.setCell]
          have HLL : Hid ((l.set k (UInt8.ofNat ((x0.toNat + 1) % 256))).length = M) := by unfold Hid; rw [List.length_set]; exact hll
          have hi1 : (k : Int) < (M : Int) := by omega
          have hi2 : (k : Int) ≤ 100000 := by have := hMb; omega
          clear hval hx hx0 hor
          go_wp2_with fail
          go_roundw
          case rel => exact ⟨k + 1, _, by omega, by go_num, HLL.out, HST.out, HSM.out, HSZ.out, HBW.out⟩
          case measure => simp [intOf]; omega
        · have hke : M = k := by omega
          subst hke
          have x5 : wr.cell? ⟨w4.heap.size, 0, none⟩ = some (.int .u16 6) ∧ wr.cell? ⟨w4.heap.size, 1, none⟩ = some (.slice A4 M c4) ∧ wr.cell? ⟨w4.heap.size, 2, none⟩ = some (.slice K4 0 k4) := by
            obtain ⟨y0, y1, y2, _⟩ := x4.three
            exact ⟨(hsame _ hs4).trans y0, (hsame _ hs4).trans y1, (hsame _ hs4).trans y2⟩
          have hN5 : NodeS wr (NewS w5 w4) A4 c4 K4 k4 (.mk 6 (List.replicate M (0 : UInt8)) []) := hN4v.turn (fun q hq => hsame q hq.1) (fun _ h => h)
          have hN5n : Node wr wr.heap.size A4 c4 K4 k4 (.mk 6 (List.replicate M (0 : UInt8)) []) := hN5.node fun b hb => by have := hb.2; omega
          have hlt4 : w4.heap.size < wr.heap.size := by omega
          clear hor hsame x4 hN4v o4 hown5 l5 hgx
          go_wp2_with fail
          refine Calls.mono (R := RetN wr none) (HMs.out wr) ?_
          rintro e w6 ⟨b6, A6, c6, K6, k6, rfl, hN6⟩
          simp only [Option.getD_some, Option.isSome_some, Option.getD_none, Option.isSome_none] at hN6 ⊢
          have bn6 := (Below.refl w6.heap.size w6).alloc (Nat.le_refl _) (.cells #[.int .u16 0, .slice A6 0 c6, .slice K6 0 k6] 28)
          have y6 := Whole.new w6 28 #[.int .u16 0, .slice A6 0 c6, .slice K6 0 k6]
          have b46 := b6.trans (bn6.mono b6.size)
          have B6 := hbel.trans (b46.mono hbel.size)
          have hN7 := hN5n.on b46
          have hM7 := (hN6.node (B := w6.heap.size) fun b hb => hb.2).on bn6
          have x6 := (b46.cell (p := ⟨w4.heap.size, 0, none⟩) hlt4).trans x5.1
          have x6b := (b46.cell (p := ⟨w4.heap.size, 1, none⟩) hlt4).trans x5.2.1
          have x6c := (b46.cell (p := ⟨w4.heap.size, 2, none⟩) hlt4).trans x5.2.2
          have hlt6 : w4.heap.size < (w6.alloc (.cells #[.int .u16 0, .slice A6 0 c6, .slice K6 0 k6] 28)).heap.size := Nat.lt_of_lt_of_le hlt4 b46.size
          unfold ndV
          simp only [Nd.t, Nd.v, Nd.ks, zN, List.length_nil, HLM.out]
          go_upto_region 14 with fail
          generalize w6.alloc (.cells #[.int .u16 0, .slice A6 0 c6, .slice K6 0 k6] 28) = v6 at *
          obtain ⟨r0, r1, r2, _, _, _⟩ := y6.three
          have hR : Calls Try.prog 12 #[.agg #[.int .u16 6, .slice A4 M c4, .slice K4 0 k4], .bool true] v6 (fun e w' => e = .returned (.bool true) ∧ Below v6.heap.size v6 w') := by have h := HG.out A4 c4 K4 k4 v6 hN7; simp only [ndV, Option.getD_some, Option.isSome_some, Nd.t, Nd.v, Nd.ks, List.length_nil, HLM.out] at h; exact h
          clear x5 hN5 hN5n hN6 b6 bn6 b46 HMs
          go_wp2_with fail
          refine hR.mono ?_
          rintro e w7 ⟨rfl, b7⟩
          have B7 := B6.trans (b7.mono B6.size)
          have hM8 := hM7.on b7
          have hN8 := hN7.on b7
          have hRm : Calls Try.prog 12 #[.agg #[.int .u16 0, .slice A6 0 c6, .slice K6 0 k6], .bool false] w7 (fun e w' => e = .returned (.bool true) ∧ Below w7.heap.size w7 w') := HGm.out A6 c6 K6 k6 w7 hM8
          have u0 := (b7.cell (p := ⟨w6.heap.size, 0, none⟩) y6.lt).trans r0
          have u1 := (b7.cell (p := ⟨w6.heap.size, 1, none⟩) y6.lt).trans r1
          have u2 := (b7.cell (p := ⟨w6.heap.size, 2, none⟩) y6.lt).trans r2
          have q0 := (b7.cell (p := ⟨w4.heap.size, 0, none⟩) hlt6).trans x6
          have q1 := (b7.cell (p := ⟨w4.heap.size, 1, none⟩) hlt6).trans x6b
          have q2 := (b7.cell (p := ⟨w4.heap.size, 2, none⟩) hlt6).trans x6c
          have hy7 : w6.heap.size < w7.heap.size := Nat.lt_of_lt_of_le y6.lt b7.size
          have hx7 : w4.heap.size < w7.heap.size := Nat.lt_of_lt_of_le hlt6 b7.size
          clear r0 r1 r2 x6 x6b x6c hR y6
          go_wp2_with fail
          refine hRm.mono ?_
          rintro e w8 ⟨rfl, b8⟩
          have B8 := B7.trans (b8.mono B7.size)
          have f0 := (b8.cell (p := ⟨w6.heap.size, 0, none⟩) hy7).trans u0
          have f1 := (b8.cell (p := ⟨w6.heap.size, 1, none⟩) hy7).trans u1
          have f2 := (b8.cell (p := ⟨w6.heap.size, 2, none⟩) hy7).trans u2
          have g0 := (b8.cell (p := ⟨w4.heap.size, 0, none⟩) hx7).trans q0
          have g1 := (b8.cell (p := ⟨w4.heap.size, 1, none⟩) hx7).trans q1
          have g2 := (b8.cell (p := ⟨w4.heap.size, 2, none⟩) hx7).trans q2
          have cv1 := HCV.out A4 c4 _ w8 (hN8.on b8).data
          clear u0 u1 u2 q0 q1 q2 hRm
          go_wp2_with fail
          go_ret
          exact ⟨rfl, B8⟩
  · have hq5 : ¬ (M : Int) ≤ 65531 := by omega
    rcases types_1213 t with ⟨t1, ht0⟩ | ⟨t1, t2, ht0⟩ | ⟨t1, t2, ht0⟩
    · skip
      have hC := chunk10_any A8 M (List.replicate M (0 : UInt8)) w5 l5 (by rw [HLM.out]; exact m5) m6 (by rw [HLM.out]; have := hMb; omega)
      rw [HLM.out] at hC
      have HG := Lib.hid (fun A c K k W hN => right10_ret [6] (.mk 6 (List.replicate M (0 : UInt8)) []) (fine_small (by show (List.replicate M (0 : UInt8)).length ≤ 800000; rw [HLM.out]; omega) rfl) A c K k W hN)
      rw [chunk_right] at HG
      have HGm := Lib.hid (fun A c K k W hN => right10_ret [12, 13] (.mk t (List.replicate M (0 : UInt8)) []) (fine_small (by show (List.replicate M (0 : UInt8)).length ≤ 800000; rw [HLM.out]; omega) rfl) A c K k W hN)
      rw [msg_right] at HGm
      have HMs := Lib.hid (fun W => message10_any t (List.replicate M (0 : UInt8)) W (by rw [HLM.out]; omega))
      have hck : chunkO (List.replicate M (0 : UInt8)) = none := by unfold chunkO; rw [if_neg (by rw [HLM.out]; intro h; omega)]
      have hmk : msgO t (List.replicate M (0 : UInt8)) = none := by unfold msgO; rw [if_neg (by rw [HLM.out]; intro h; first | omega | exact ht0 h.1)]
      rw [hck] at hC HG
      rw [hmk] at HMs HGm
      have HCV := Lib.hid (fun A c B W (h : Lies W B A ((List.replicate M (0 : UInt8)).map bv)) => conv_string A c B (List.replicate M (0 : UInt8)) W h)
      rw [HLM.out] at HCV
      have hsz : (str (List.replicate M (0 : UInt8))).size = M := by rw [str_size]; exact HLM.out
      clear hck hmk ht0
      generalize str (List.replicate M (0 : UInt8)) = s at *
      go_wp2_with fail
      refine Calls.mono (R := RetN w5 none) hC ?_
      rintro e w4 ⟨b4, A4, c4, K4, k4, rfl, hN4⟩
      simp only [Option.getD_some, Option.isSome_some, Option.getD_none, Option.isSome_none] at hN4 ⊢
      have bn := (Below.refl w4.heap.size w4).alloc (Nat.le_refl _) (.cells #[.int .u16 0, .slice A4 0 c4, .slice K4 0 k4] 28)
      have x4 := Whole.new w4 28 #[.int .u16 0, .slice A4 0 c4, .slice K4 0 k4]
      have o4 := (own_below' hown5 b4).alloc (.cells #[.int .u16 0, .slice A4 0 c4, .slice K4 0 k4] 28)
      have B4 := (B5.trans (b4.mono B5.size)).trans (bn.mono (B5.trans (b4.mono B5.size)).size)
      have hN4v : NodeS (w4.alloc (.cells #[.int .u16 0, .slice A4 0 c4, .slice K4 0 k4] 28)) (NewS w5 w4) A4 c4 K4 k4 zN := hN4.turn (fun q hq => World.cell?_alloc_lt w4 _ q hq.2) (fun _ h => h)
      have hgx : ∀ g, (w5.heap.size ≤ g ∧ g < w4.heap.size) ∨ g = w4.heap.size → w5.heap.size ≤ g := fun g hg => by have := b4.size; omega
      have hs4 := b4.size
      unfold ndV
      simp only [Nd.t, Nd.v, Nd.ks, zN, List.length_nil, HLM.out]
      go_upto_region 9 with fail
      have hsz4 : (w4.alloc (.cells #[.int .u16 0, .slice A4 0 c4, .slice K4 0 k4] 28)).heap.size = w4.heap.size + 1 := by simp
      generalize w4.alloc (.cells #[.int .u16 0, .slice A4 0 c4, .slice K4 0 k4] 28) = v4 at *
      clear hC b4 hN4 bn
      go_wp2_with fail
      go_loopw [11] (fun i wr => ∃ (k : Nat) (l : List UInt8), k ≤ M ∧ i = .int .i64 k ∧ l.length = M ∧ wr.ownsRow L0 5 1 (.slice A8 M M) M (l.map bv) ∧ (∀ q : Addr, w5.heap.size ≤ q.block → wr.cell? q = v4.cell? q) ∧ wr.heap.size = v4.heap.size ∧ Below w.heap.size w wr) (fun i _ => M - (intOf i).toNat)
      case atStart => exact ⟨0, List.replicate M (0 : UInt8), Nat.zero_le _, rfl, HLM.out, o4, fun _ _ => rfl, rfl, B4⟩
      case round =>
        obtain ⟨k, l, hk, rfl, hll, hor, hsame, hsize, hbel⟩ := hrel
        by_cases hlt : k < M
        · obtain ⟨g, x, hA, hx, hcc, hfr, hgb, hgl⟩ := own_at10 hor hlt
          subst hA
          obtain ⟨x0, hx0⟩ : ∃ x0 : UInt8, l[k]? = some x0 := ⟨_, List.getElem?_eq_getElem (by omega)⟩
          obtain rfl : x = bv x0 := by have := hx.out; rw [List.getElem?_map, hx0] at this; exact (Option.some.inj this).symm
          have hg3 : g < w5.heap.size := by
            rcases hown5.2 with ⟨q1, _⟩ | ⟨g', cap, cur, q1, _, q3, _⟩
            · cases q1
            · simp only [Value.slice.injEq, Option.some.injEq, Addr.mk.injEq, and_true, true_and] at q1
              rw [q1.1]; exact (Array.getElem?_eq_some_iff.1 q3).1
          have HST := Lib.hid (own_store' hor k (UInt8.ofNat ((x0.toNat + 1) % 256)))
          have hval : ((UInt8.ofNat ((x0.toNat + 1) % 256)).toNat : Int) = ((x0.toNat : Int) + 1) % 256 := by rw [UInt8.toNat_ofNat']; omega
          rw [hval] at HST
          have HSM : Hid (∀ q : Addr, w5.heap.size ≤ q.block → (wr.setCell ⟨g, k, none⟩ (.int .u8 (((x0.toNat : Int) + 1) % 256))).cell? q = v4.cell? q) := fun q hq => by
            rw [World.cell?_setCell_other _ _ _ _ (fun e => by rw [← e] at hq; simp at hq; omega)]; exact hsame q hq
          have HBW : Hid (Below w.heap.size w (wr.setCell ⟨g, k, none⟩ (.int .u8 (((x0.toNat : Int) + 1) % 256)))) := hbel.setCell (Nat.le_trans hL0 hgb) _
          have HSZ : Hid ((wr.setCell ⟨g, k, none⟩ (.int .u8 (((x0.toNat : Int) + 1) % 256))).heap.size = v4.heap.size) := by rw [← hsize]; simp [Hid, World.setCell]
          have HLL : Hid ((l.set k (UInt8.ofNat ((x0.toNat + 1) % 256))).length = M) := by unfold Hid; rw [List.length_set]; exact hll
          have hi1 : (k : Int) < (M : Int) := by omega
          have hi2 : (k : Int) ≤ 100000 := by have := hMb; omega
          clear hval hx hx0 hor
          go_wp2_with fail
          go_roundw
          case rel => exact ⟨k + 1, _, by omega, by go_num, HLL.out, HST.out, HSM.out, HSZ.out, HBW.out⟩
          case measure => simp [intOf]; omega
        · have hke : M = k := by omega
          subst hke
          have x5 : wr.cell? ⟨w4.heap.size, 0, none⟩ = some (.int .u16 0) ∧ wr.cell? ⟨w4.heap.size, 1, none⟩ = some (.slice A4 0 c4) ∧ wr.cell? ⟨w4.heap.size, 2, none⟩ = some (.slice K4 0 k4) := by
            obtain ⟨y0, y1, y2, _⟩ := x4.three
            exact ⟨(hsame _ hs4).trans y0, (hsame _ hs4).trans y1, (hsame _ hs4).trans y2⟩
          have hN5 : NodeS wr (NewS w5 w4) A4 c4 K4 k4 zN := hN4v.turn (fun q hq => hsame q hq.1) (fun _ h => h)
          have hN5n : Node wr wr.heap.size A4 c4 K4 k4 zN := hN5.node fun b hb => by have := hb.2; omega
          have hlt4 : w4.heap.size < wr.heap.size := by omega
          clear hor hsame x4 hN4v o4 hown5 l5 hgx
          go_wp2_with fail
          refine Calls.mono (R := RetN wr none) (HMs.out wr) ?_
          rintro e w6 ⟨b6, A6, c6, K6, k6, rfl, hN6⟩
          simp only [Option.getD_some, Option.isSome_some, Option.getD_none, Option.isSome_none] at hN6 ⊢
          have bn6 := (Below.refl w6.heap.size w6).alloc (Nat.le_refl _) (.cells #[.int .u16 0, .slice A6 0 c6, .slice K6 0 k6] 28)
          have y6 := Whole.new w6 28 #[.int .u16 0, .slice A6 0 c6, .slice K6 0 k6]
          have b46 := b6.trans (bn6.mono b6.size)
          have B6 := hbel.trans (b46.mono hbel.size)
          have hN7 := hN5n.on b46
          have hM7 := (hN6.node (B := w6.heap.size) fun b hb => hb.2).on bn6
          have x6 := (b46.cell (p := ⟨w4.heap.size, 0, none⟩) hlt4).trans x5.1
          have x6b := (b46.cell (p := ⟨w4.heap.size, 1, none⟩) hlt4).trans x5.2.1
          have x6c := (b46.cell (p := ⟨w4.heap.size, 2, none⟩) hlt4).trans x5.2.2
          have hlt6 : w4.heap.size < (w6.alloc (.cells #[.int .u16 0, .slice A6 0 c6, .slice K6 0 k6] 28)).heap.size := Nat.lt_of_lt_of_le hlt4 b46.size
          unfold ndV
          simp only [Nd.t, Nd.v, Nd.ks, zN, List.length_nil, HLM.out]
          go_upto_region 14 with fail
          generalize w6.alloc (.cells #[.int .u16 0, .slice A6 0 c6, .slice K6 0 k6] 28) = v6 at *
          obtain ⟨r0, r1, r2, _, _, _⟩ := y6.three
          have hR : Calls Try.prog 12 #[.agg #[.int .u16 0, .slice A4 0 c4, .slice K4 0 k4], .bool false] v6 (fun e w' => e = .returned (.bool true) ∧ Below v6.heap.size v6 w') := HG.out A4 c4 K4 k4 v6 hN7
          clear x5 hN5 hN5n hN6 b6 bn6 b46 HMs
          go_wp2_with fail
          refine hR.mono ?_
          rintro e w7 ⟨rfl, b7⟩
          have B7 := B6.trans (b7.mono B6.size)
          have hM8 := hM7.on b7
          have hN8 := hN7.on b7
          have hRm : Calls Try.prog 12 #[.agg #[.int .u16 0, .slice A6 0 c6, .slice K6 0 k6], .bool false] w7 (fun e w' => e = .returned (.bool true) ∧ Below w7.heap.size w7 w') := HGm.out A6 c6 K6 k6 w7 hM8
          have u0 := (b7.cell (p := ⟨w6.heap.size, 0, none⟩) y6.lt).trans r0
          have u1 := (b7.cell (p := ⟨w6.heap.size, 1, none⟩) y6.lt).trans r1
          have u2 := (b7.cell (p := ⟨w6.heap.size, 2, none⟩) y6.lt).trans r2
          have q0 := (b7.cell (p := ⟨w4.heap.size, 0, none⟩) hlt6).trans x6
          have q1 := (b7.cell (p := ⟨w4.heap.size, 1, none⟩) hlt6).trans x6b
          have q2 := (b7.cell (p := ⟨w4.heap.size, 2, none⟩) hlt6).trans x6c
          have hy7 : w6.heap.size < w7.heap.size := Nat.lt_of_lt_of_le y6.lt b7.size
          have hx7 : w4.heap.size < w7.heap.size := Nat.lt_of_lt_of_le hlt6 b7.size
          clear r0 r1 r2 x6 x6b x6c hR y6
          go_wp2_with fail
          refine hRm.mono ?_
          rintro e w8 ⟨rfl, b8⟩
          have B8 := B7.trans (b8.mono B7.size)
          have f0 := (b8.cell (p := ⟨w6.heap.size, 0, none⟩) hy7).trans u0
          have f1 := (b8.cell (p := ⟨w6.heap.size, 1, none⟩) hy7).trans u1
          have f2 := (b8.cell (p := ⟨w6.heap.size, 2, none⟩) hy7).trans u2
          have g0 := (b8.cell (p := ⟨w4.heap.size, 0, none⟩) hx7).trans q0
          have g1 := (b8.cell (p := ⟨w4.heap.size, 1, none⟩) hx7).trans q1
          have g2 := (b8.cell (p := ⟨w4.heap.size, 2, none⟩) hx7).trans q2
          clear u0 u1 u2 q0 q1 q2 hRm
          go_wp2_with fail
          go_ret
          exact ⟨rfl, B8⟩
    · skip
      have hC := chunk10_any A8 M (List.replicate M (0 : UInt8)) w5 l5 (by rw [HLM.out]; exact m5) m6 (by rw [HLM.out]; have := hMb; omega)
      rw [HLM.out] at hC
      have HG := Lib.hid (fun A c K k W hN => right10_ret [6] (.mk 6 (List.replicate M (0 : UInt8)) []) (fine_small (by show (List.replicate M (0 : UInt8)).length ≤ 800000; rw [HLM.out]; omega) rfl) A c K k W hN)
      rw [chunk_right] at HG
      have HGm := Lib.hid (fun A c K k W hN => right10_ret [12, 13] (.mk t (List.replicate M (0 : UInt8)) []) (fine_small (by show (List.replicate M (0 : UInt8)).length ≤ 800000; rw [HLM.out]; omega) rfl) A c K k W hN)
      rw [msg_right] at HGm
      have HMs := Lib.hid (fun W => message10_any t (List.replicate M (0 : UInt8)) W (by rw [HLM.out]; omega))
      have hck : chunkO (List.replicate M (0 : UInt8)) = none := by unfold chunkO; rw [if_neg (by rw [HLM.out]; intro h; omega)]
      have hmk : msgO t (List.replicate M (0 : UInt8)) = none := by unfold msgO; rw [if_neg (by rw [HLM.out]; intro h; first | omega | exact ht0 h.1)]
      rw [hck] at hC HG
      rw [hmk] at HMs HGm
      have HCV := Lib.hid (fun A c B W (h : Lies W B A ((List.replicate M (0 : UInt8)).map bv)) => conv_string A c B (List.replicate M (0 : UInt8)) W h)
      rw [HLM.out] at HCV
      have hsz : (str (List.replicate M (0 : UInt8))).size = M := by rw [str_size]; exact HLM.out
      clear hck hmk ht0
      generalize str (List.replicate M (0 : UInt8)) = s at *
      go_wp2_with fail
      refine Calls.mono (R := RetN w5 none) hC ?_
      rintro e w4 ⟨b4, A4, c4, K4, k4, rfl, hN4⟩
      simp only [Option.getD_some, Option.isSome_some, Option.getD_none, Option.isSome_none] at hN4 ⊢
      have bn := (Below.refl w4.heap.size w4).alloc (Nat.le_refl _) (.cells #[.int .u16 0, .slice A4 0 c4, .slice K4 0 k4] 28)
      have x4 := Whole.new w4 28 #[.int .u16 0, .slice A4 0 c4, .slice K4 0 k4]
      have o4 := (own_below' hown5 b4).alloc (.cells #[.int .u16 0, .slice A4 0 c4, .slice K4 0 k4] 28)
      have B4 := (B5.trans (b4.mono B5.size)).trans (bn.mono (B5.trans (b4.mono B5.size)).size)
      have hN4v : NodeS (w4.alloc (.cells #[.int .u16 0, .slice A4 0 c4, .slice K4 0 k4] 28)) (NewS w5 w4) A4 c4 K4 k4 zN := hN4.turn (fun q hq => World.cell?_alloc_lt w4 _ q hq.2) (fun _ h => h)
      have hgx : ∀ g, (w5.heap.size ≤ g ∧ g < w4.heap.size) ∨ g = w4.heap.size → w5.heap.size ≤ g := fun g hg => by have := b4.size; omega
      have hs4 := b4.size
      unfold ndV
      simp only [Nd.t, Nd.v, Nd.ks, zN, List.length_nil, HLM.out]
      go_upto_region 9 with fail
      have hsz4 : (w4.alloc (.cells #[.int .u16 0, .slice A4 0 c4, .slice K4 0 k4] 28)).heap.size = w4.heap.size + 1 := by simp
      generalize w4.alloc (.cells #[.int .u16 0, .slice A4 0 c4, .slice K4 0 k4] 28) = v4 at *
      clear hC b4 hN4 bn
      go_wp2_with fail
      go_loopw [11] (fun i wr => ∃ (k : Nat) (l : List UInt8), k ≤ M ∧ i = .int .i64 k ∧ l.length = M ∧ wr.ownsRow L0 5 1 (.slice A8 M M) M (l.map bv) ∧ (∀ q : Addr, w5.heap.size ≤ q.block → wr.cell? q = v4.cell? q) ∧ wr.heap.size = v4.heap.size ∧ Below w.heap.size w wr) (fun i _ => M - (intOf i).toNat)
      case atStart => exact ⟨0, List.replicate M (0 : UInt8), Nat.zero_le _, rfl, HLM.out, o4, fun _ _ => rfl, rfl, B4⟩
      case round =>
        obtain ⟨k, l, hk, rfl, hll, hor, hsame, hsize, hbel⟩ := hrel
        by_cases hlt : k < M
        · obtain ⟨g, x, hA, hx, hcc, hfr, hgb, hgl⟩ := own_at10 hor hlt
          subst hA
          obtain ⟨x0, hx0⟩ : ∃ x0 : UInt8, l[k]? = some x0 := ⟨_, List.getElem?_eq_getElem (by omega)⟩
          obtain rfl : x = bv x0 := by have := hx.out; rw [List.getElem?_map, hx0] at this; exact (Option.some.inj this).symm
          have hg3 : g < w5.heap.size := by
            rcases hown5.2 with ⟨q1, _⟩ | ⟨g', cap, cur, q1, _, q3, _⟩
            · cases q1
            · simp only [Value.slice.injEq, Option.some.injEq, Addr.mk.injEq, and_true, true_and] at q1
              rw [q1.1]; exact (Array.getElem?_eq_some_iff.1 q3).1
          have HST := Lib.hid (own_store' hor k (UInt8.ofNat ((x0.toNat + 1) % 256)))
          have hval : ((UInt8.ofNat ((x0.toNat + 1) % 256)).toNat : Int) = ((x0.toNat : Int) + 1) % 256 := by rw [UInt8.toNat_ofNat']; omega
          rw [hval] at HST
          have HSM : Hid (∀ q : Addr, w5.heap.size ≤ q.block → (wr.setCell ⟨g, k, none⟩ (.int .u8 (((x0.toNat : Int) + 1) % 256))).cell? q = v4.cell? q) := fun q hq => by
            rw [World.cell?_setCell_other _ _ _ _ (fun e => by rw [← e] at hq; simp at hq; omega)]; exact hsame q hq
          have HBW : Hid (Below w.heap.size w (wr.setCell ⟨g, k, none⟩ (.int .u8 (((x0.toNat : Int) + 1) % 256)))) := hbel.setCell (Nat.le_trans hL0 hgb) _
          have HSZ : Hid ((wr.setCell ⟨g, k, none⟩ (.int .u8 (((x0.toNat : Int) + 1) % 256))).heap.size = v4.heap.size) := by rw [← hsize]; simp [Hid, World.setCell]
          have HLL : Hid ((l.set k (UInt8.ofNat ((x0.toNat + 1) % 256))).length = M) := by unfold Hid; rw [List.length_set]; exact hll
          have hi1 : (k : Int) < (M : Int) := by omega
          have hi2 : (k : Int) ≤ 100000 := by have := hMb; omega
          clear hval hx hx0 hor
          go_wp2_with fail
          go_roundw
          case rel => exact ⟨k + 1, _, by omega, by go_num, HLL.out, HST.out, HSM.out, HSZ.out, HBW.out⟩
          case measure => simp [intOf]; omega
        · have hke : M = k := by omega
          subst hke
          have x5 : wr.cell? ⟨w4.heap.size, 0, none⟩ = some (.int .u16 0) ∧ wr.cell? ⟨w4.heap.size, 1, none⟩ = some (.slice A4 0 c4) ∧ wr.cell? ⟨w4.heap.size, 2, none⟩ = some (.slice K4 0 k4) := by
            obtain ⟨y0, y1, y2, _⟩ := x4.three
            exact ⟨(hsame _ hs4).trans y0, (hsame _ hs4).trans y1, (hsame _ hs4).trans y2⟩
          have hN5 : NodeS wr (NewS w5 w4) A4 c4 K4 k4 zN := hN4v.turn (fun q hq => hsame q hq.1) (fun _ h => h)
          have hN5n : Node wr wr.heap.size A4 c4 K4 k4 zN := hN5.node fun b hb => by have := hb.2; omega
          have hlt4 : w4.heap.size < wr.heap.size := by omega
          clear hor hsame x4 hN4v o4 hown5 l5 hgx
          go_wp2_with fail
          refine Calls.mono (R := RetN wr none) (HMs.out wr) ?_
          rintro e w6 ⟨b6, A6, c6, K6, k6, rfl, hN6⟩
          simp only [Option.getD_some, Option.isSome_some, Option.getD_none, Option.isSome_none] at hN6 ⊢
          have bn6 := (Below.refl w6.heap.size w6).alloc (Nat.le_refl _) (.cells #[.int .u16 0, .slice A6 0 c6, .slice K6 0 k6] 28)
          have y6 := Whole.new w6 28 #[.int .u16 0, .slice A6 0 c6, .slice K6 0 k6]
          have b46 := b6.trans (bn6.mono b6.size)
          have B6 := hbel.trans (b46.mono hbel.size)
          have hN7 := hN5n.on b46
          have hM7 := (hN6.node (B := w6.heap.size) fun b hb => hb.2).on bn6
          have x6 := (b46.cell (p := ⟨w4.heap.size, 0, none⟩) hlt4).trans x5.1
          have x6b := (b46.cell (p := ⟨w4.heap.size, 1, none⟩) hlt4).trans x5.2.1
          have x6c := (b46.cell (p := ⟨w4.heap.size, 2, none⟩) hlt4).trans x5.2.2
          have hlt6 : w4.heap.size < (w6.alloc (.cells #[.int .u16 0, .slice A6 0 c6, .slice K6 0 k6] 28)).heap.size := Nat.lt_of_lt_of_le hlt4 b46.size
          unfold ndV
          simp only [Nd.t, Nd.v, Nd.ks, zN, List.length_nil, HLM.out]
          go_upto_region 14 with fail
          generalize w6.alloc (.cells #[.int .u16 0, .slice A6 0 c6, .slice K6 0 k6] 28) = v6 at *
          obtain ⟨r0, r1, r2, _, _, _⟩ := y6.three
          have hR : Calls Try.prog 12 #[.agg #[.int .u16 0, .slice A4 0 c4, .slice K4 0 k4], .bool false] v6 (fun e w' => e = .returned (.bool true) ∧ Below v6.heap.size v6 w') := HG.out A4 c4 K4 k4 v6 hN7
          clear x5 hN5 hN5n hN6 b6 bn6 b46 HMs
          go_wp2_with fail
          refine hR.mono ?_
          rintro e w7 ⟨rfl, b7⟩
          have B7 := B6.trans (b7.mono B6.size)
          have hM8 := hM7.on b7
          have hN8 := hN7.on b7
          have hRm : Calls Try.prog 12 #[.agg #[.int .u16 0, .slice A6 0 c6, .slice K6 0 k6], .bool false] w7 (fun e w' => e = .returned (.bool true) ∧ Below w7.heap.size w7 w') := HGm.out A6 c6 K6 k6 w7 hM8
          have u0 := (b7.cell (p := ⟨w6.heap.size, 0, none⟩) y6.lt).trans r0
          have u1 := (b7.cell (p := ⟨w6.heap.size, 1, none⟩) y6.lt).trans r1
          have u2 := (b7.cell (p := ⟨w6.heap.size, 2, none⟩) y6.lt).trans r2
          have q0 := (b7.cell (p := ⟨w4.heap.size, 0, none⟩) hlt6).trans x6
          have q1 := (b7.cell (p := ⟨w4.heap.size, 1, none⟩) hlt6).trans x6b
          have q2 := (b7.cell (p := ⟨w4.heap.size, 2, none⟩) hlt6).trans x6c
          have hy7 : w6.heap.size < w7.heap.size := Nat.lt_of_lt_of_le y6.lt b7.size
          have hx7 : w4.heap.size < w7.heap.size := Nat.lt_of_lt_of_le hlt6 b7.size
          clear r0 r1 r2 x6 x6b x6c hR y6
          go_wp2_with fail
          refine hRm.mono ?_
          rintro e w8 ⟨rfl, b8⟩
          have B8 := B7.trans (b8.mono B7.size)
          have f0 := (b8.cell (p := ⟨w6.heap.size, 0, none⟩) hy7).trans u0
          have f1 := (b8.cell (p := ⟨w6.heap.size, 1, none⟩) hy7).trans u1
          have f2 := (b8.cell (p := ⟨w6.heap.size, 2, none⟩) hy7).trans u2
          have g0 := (b8.cell (p := ⟨w4.heap.size, 0, none⟩) hx7).trans q0
          have g1 := (b8.cell (p := ⟨w4.heap.size, 1, none⟩) hx7).trans q1
          have g2 := (b8.cell (p := ⟨w4.heap.size, 2, none⟩) hx7).trans q2
          clear u0 u1 u2 q0 q1 q2 hRm
          go_wp2_with fail
          go_ret
          exact ⟨rfl, B8⟩
    · skip
      have hC := chunk10_any A8 M (List.replicate M (0 : UInt8)) w5 l5 (by rw [HLM.out]; exact m5) m6 (by rw [HLM.out]; have := hMb; omega)
      rw [HLM.out] at hC
      have HG := Lib.hid (fun A c K k W hN => right10_ret [6] (.mk 6 (List.replicate M (0 : UInt8)) []) (fine_small (by show (List.replicate M (0 : UInt8)).length ≤ 800000; rw [HLM.out]; omega) rfl) A c K k W hN)
      rw [chunk_right] at HG
      have HGm := Lib.hid (fun A c K k W hN => right10_ret [12, 13] (.mk t (List.replicate M (0 : UInt8)) []) (fine_small (by show (List.replicate M (0 : UInt8)).length ≤ 800000; rw [HLM.out]; omega) rfl) A c K k W hN)
      rw [msg_right] at HGm
      have HMs := Lib.hid (fun W => message10_any t (List.replicate M (0 : UInt8)) W (by rw [HLM.out]; omega))
      have hck : chunkO (List.replicate M (0 : UInt8)) = none := by unfold chunkO; rw [if_neg (by rw [HLM.out]; intro h; omega)]
      have hmk : msgO t (List.replicate M (0 : UInt8)) = none := by unfold msgO; rw [if_neg (by rw [HLM.out]; intro h; first | omega | exact ht0 h.1)]
      rw [hck] at hC HG
      rw [hmk] at HMs HGm
      have HCV := Lib.hid (fun A c B W (h : Lies W B A ((List.replicate M (0 : UInt8)).map bv)) => conv_string A c B (List.replicate M (0 : UInt8)) W h)
      rw [HLM.out] at HCV
      have hsz : (str (List.replicate M (0 : UInt8))).size = M := by rw [str_size]; exact HLM.out
      clear hck hmk ht0
      generalize str (List.replicate M (0 : UInt8)) = s at *
      go_wp2_with fail
      refine Calls.mono (R := RetN w5 none) hC ?_
      rintro e w4 ⟨b4, A4, c4, K4, k4, rfl, hN4⟩
      simp only [Option.getD_some, Option.isSome_some, Option.getD_none, Option.isSome_none] at hN4 ⊢
      have bn := (Below.refl w4.heap.size w4).alloc (Nat.le_refl _) (.cells #[.int .u16 0, .slice A4 0 c4, .slice K4 0 k4] 28)
      have x4 := Whole.new w4 28 #[.int .u16 0, .slice A4 0 c4, .slice K4 0 k4]
      have o4 := (own_below' hown5 b4).alloc (.cells #[.int .u16 0, .slice A4 0 c4, .slice K4 0 k4] 28)
      have B4 := (B5.trans (b4.mono B5.size)).trans (bn.mono (B5.trans (b4.mono B5.size)).size)
      have hN4v : NodeS (w4.alloc (.cells #[.int .u16 0, .slice A4 0 c4, .slice K4 0 k4] 28)) (NewS w5 w4) A4 c4 K4 k4 zN := hN4.turn (fun q hq => World.cell?_alloc_lt w4 _ q hq.2) (fun _ h => h)
      have hgx : ∀ g, (w5.heap.size ≤ g ∧ g < w4.heap.size) ∨ g = w4.heap.size → w5.heap.size ≤ g := fun g hg => by have := b4.size; omega
      have hs4 := b4.size
      unfold ndV
      simp only [Nd.t, Nd.v, Nd.ks, zN, List.length_nil, HLM.out]
      go_upto_region 9 with fail
      have hsz4 : (w4.alloc (.cells #[.int .u16 0, .slice A4 0 c4, .slice K4 0 k4] 28)).heap.size = w4.heap.size + 1 := by simp
      generalize w4.alloc (.cells #[.int .u16 0, .slice A4 0 c4, .slice K4 0 k4] 28) = v4 at *
      clear hC b4 hN4 bn
      go_wp2_with fail
      go_loopw [11] (fun i wr => ∃ (k : Nat) (l : List UInt8), k ≤ M ∧ i = .int .i64 k ∧ l.length = M ∧ wr.ownsRow L0 5 1 (.slice A8 M M) M (l.map bv) ∧ (∀ q : Addr, w5.heap.size ≤ q.block → wr.cell? q = v4.cell? q) ∧ wr.heap.size = v4.heap.size ∧ Below w.heap.size w wr) (fun i _ => M - (intOf i).toNat)
      case atStart => exact ⟨0, List.replicate M (0 : UInt8), Nat.zero_le _, rfl, HLM.out, o4, fun _ _ => rfl, rfl, B4⟩
      case round =>
        obtain ⟨k, l, hk, rfl, hll, hor, hsame, hsize, hbel⟩ := hrel
        by_cases hlt : k < M
        · obtain ⟨g, x, hA, hx, hcc, hfr, hgb, hgl⟩ := own_at10 hor hlt
          subst hA
          obtain ⟨x0, hx0⟩ : ∃ x0 : UInt8, l[k]? = some x0 := ⟨_, List.getElem?_eq_getElem (by omega)⟩
          obtain rfl : x = bv x0 := by have := hx.out; rw [List.getElem?_map, hx0] at this; exact (Option.some.inj this).symm
          have hg3 : g < w5.heap.size := by
            rcases hown5.2 with ⟨q1, _⟩ | ⟨g', cap, cur, q1, _, q3, _⟩
            · cases q1
            · simp only [Value.slice.injEq, Option.some.injEq, Addr.mk.injEq, and_true, true_and] at q1
              rw [q1.1]; exact (Array.getElem?_eq_some_iff.1 q3).1
          have HST := Lib.hid (own_store' hor k (UInt8.ofNat ((x0.toNat + 1) % 256)))
          have hval : ((UInt8.ofNat ((x0.toNat + 1) % 256)).toNat : Int) = ((x0.toNat : Int) + 1) % 256 := by rw [UInt8.toNat_ofNat']; omega
          rw [hval] at HST
          have HSM : Hid (∀ q : Addr, w5.heap.size ≤ q.block → (wr.setCell ⟨g, k, none⟩ (.int .u8 (((x0.toNat : Int) + 1) % 256))).cell? q = v4.cell? q) := fun q hq => by
            rw [World.cell?_setCell_other _ _ _ _ (fun e => by rw [← e] at hq; simp at hq; omega)]; exact hsame q hq
          have HBW : Hid (Below w.heap.size w (wr.setCell ⟨g, k, none⟩ (.int .u8 (((x0.toNat : Int) + 1) % 256)))) := hbel.setCell (Nat.le_trans hL0 hgb) _
          have HSZ : Hid ((wr.setCell ⟨g, k, none⟩ (.int .u8 (((x0.toNat : Int) + 1) % 256))).heap.size = v4.heap.size) := by rw [← hsize]; simp [Hid, World.setCell]
          have HLL : Hid ((l.set k (UInt8.ofNat ((x0.toNat + 1) % 256))).length = M) := by unfold Hid; rw [List.length_set]; exact hll
          have hi1 : (k : Int) < (M : Int) := by omega
          have hi2 : (k : Int) ≤ 100000 := by have := hMb; omega
          clear hval hx hx0 hor
          go_wp2_with fail
          go_roundw
          case rel => exact ⟨k + 1, _, by omega, by go_num, HLL.out, HST.out, HSM.out, HSZ.out, HBW.out⟩
          case measure => simp [intOf]; omega
        · have hke : M = k := by omega
          subst hke
          have x5 : wr.cell? ⟨w4.heap.size, 0, none⟩ = some (.int .u16 0) ∧ wr.cell? ⟨w4.heap.size, 1, none⟩ = some (.slice A4 0 c4) ∧ wr.cell? ⟨w4.heap.size, 2, none⟩ = some (.slice K4 0 k4) := by
            obtain ⟨y0, y1, y2, _⟩ := x4.three
            exact ⟨(hsame _ hs4).trans y0, (hsame _ hs4).trans y1, (hsame _ hs4).trans y2⟩
          have hN5 : NodeS wr (NewS w5 w4) A4 c4 K4 k4 zN := hN4v.turn (fun q hq => hsame q hq.1) (fun _ h => h)
          have hN5n : Node wr wr.heap.size A4 c4 K4 k4 zN := hN5.node fun b hb => by have := hb.2; omega
          have hlt4 : w4.heap.size < wr.heap.size := by omega
          clear hor hsame x4 hN4v o4 hown5 l5 hgx
          go_wp2_with fail
          refine Calls.mono (R := RetN wr none) (HMs.out wr) ?_
          rintro e w6 ⟨b6, A6, c6, K6, k6, rfl, hN6⟩
          simp only [Option.getD_some, Option.isSome_some, Option.getD_none, Option.isSome_none] at hN6 ⊢
          have bn6 := (Below.refl w6.heap.size w6).alloc (Nat.le_refl _) (.cells #[.int .u16 0, .slice A6 0 c6, .slice K6 0 k6] 28)
          have y6 := Whole.new w6 28 #[.int .u16 0, .slice A6 0 c6, .slice K6 0 k6]
          have b46 := b6.trans (bn6.mono b6.size)
          have B6 := hbel.trans (b46.mono hbel.size)
          have hN7 := hN5n.on b46
          have hM7 := (hN6.node (B := w6.heap.size) fun b hb => hb.2).on bn6
          have x6 := (b46.cell (p := ⟨w4.heap.size, 0, none⟩) hlt4).trans x5.1
          have x6b := (b46.cell (p := ⟨w4.heap.size, 1, none⟩) hlt4).trans x5.2.1
          have x6c := (b46.cell (p := ⟨w4.heap.size, 2, none⟩) hlt4).trans x5.2.2
          have hlt6 : w4.heap.size < (w6.alloc (.cells #[.int .u16 0, .slice A6 0 c6, .slice K6 0 k6] 28)).heap.size := Nat.lt_of_lt_of_le hlt4 b46.size
          unfold ndV
          simp only [Nd.t, Nd.v, Nd.ks, zN, List.length_nil, HLM.out]
          go_upto_region 14 with fail
          generalize w6.alloc (.cells #[.int .u16 0, .slice A6 0 c6, .slice K6 0 k6] 28) = v6 at *
          obtain ⟨r0, r1, r2, _, _, _⟩ := y6.three
          have hR : Calls Try.prog 12 #[.agg #[.int .u16 0, .slice A4 0 c4, .slice K4 0 k4], .bool false] v6 (fun e w' => e = .returned (.bool true) ∧ Below v6.heap.size v6 w') := HG.out A4 c4 K4 k4 v6 hN7
          clear x5 hN5 hN5n hN6 b6 bn6 b46 HMs
          go_wp2_with fail
          refine hR.mono ?_
          rintro e w7 ⟨rfl, b7⟩
          have B7 := B6.trans (b7.mono B6.size)
          have hM8 := hM7.on b7
          have hN8 := hN7.on b7
          have hRm : Calls Try.prog 12 #[.agg #[.int .u16 0, .slice A6 0 c6, .slice K6 0 k6], .bool false] w7 (fun e w' => e = .returned (.bool true) ∧ Below w7.heap.size w7 w') := HGm.out A6 c6 K6 k6 w7 hM8
          have u0 := (b7.cell (p := ⟨w6.heap.size, 0, none⟩) y6.lt).trans r0
          have u1 := (b7.cell (p := ⟨w6.heap.size, 1, none⟩) y6.lt).trans r1
          have u2 := (b7.cell (p := ⟨w6.heap.size, 2, none⟩) y6.lt).trans r2
          have q0 := (b7.cell (p := ⟨w4.heap.size, 0, none⟩) hlt6).trans x6
          have q1 := (b7.cell (p := ⟨w4.heap.size, 1, none⟩) hlt6).trans x6b
          have q2 := (b7.cell (p := ⟨w4.heap.size, 2, none⟩) hlt6).trans x6c
          have hy7 : w6.heap.size < w7.heap.size := Nat.lt_of_lt_of_le y6.lt b7.size
          have hx7 : w4.heap.size < w7.heap.size := Nat.lt_of_lt_of_le hlt6 b7.size
          clear r0 r1 r2 x6 x6b x6c hR y6
          go_wp2_with fail
          refine hRm.mono ?_
          rintro e w8 ⟨rfl, b8⟩
          have B8 := B7.trans (b8.mono B7.size)
          have f0 := (b8.cell (p := ⟨w6.heap.size, 0, none⟩) hy7).trans u0
          have f1 := (b8.cell (p := ⟨w6.heap.size, 1, none⟩) hy7).trans u1
          have f2 := (b8.cell (p := ⟨w6.heap.size, 2, none⟩) hy7).trans u2
          have g0 := (b8.cell (p := ⟨w4.heap.size, 0, none⟩) hx7).trans q0
          have g1 := (b8.cell (p := ⟨w4.heap.size, 1, none⟩) hx7).trans q1
          have g2 := (b8.cell (p := ⟨w4.heap.size, 2, none⟩) hx7).trans q2
          clear u0 u1 u2 q0 q1 q2 hRm
          go_wp2_with fail
          go_ret
          exact ⟨rfl, B8⟩
set_option maxRecDepth 100000 in
theorem law_CauseBytes {H : Type} {enc : TypeId × Value → H} {W : World} {base : Nat} {v0 v1 v2 : Value} {d0 d1 d2 : DataW H} {p0 p1 p2 : List MemPlace}
    (o0 : Value.okWide Try.prog W .any base 25 v0) (h0 : DataW.Trod enc Try.prog W 0 (fun _ => true) true 25 v0 d0 p0) (_s0 : Small Try.prog 25 d0)
    (o1 : Value.okWide Try.prog W .any base 22 v1) (h1 : DataW.Trod enc Try.prog W 0 (fun _ => true) true 22 v1 d1 p1) (_s1 : Small Try.prog 22 d1)
    (o2 : Value.okWide Try.prog W .any base 4 v2) (h2 : DataW.Trod enc Try.prog W 0 (fun _ => true) true 4 v2 d2 p2) (_s2 : Small Try.prog 4 d2) :
    Calls Try.prog 6 #[v0, v1, v2] W fun e w' => e = .returned (.bool true) ∧ Below W.heap.size W w' := by
  obtain ⟨A, n, c, rfl⟩ := okWide_slice Try.underlying25 o0
  obtain ⟨fuel, hf⟩ := h0
  obtain ⟨b, rfl, hl, hc, hcm⟩ := open_bytes Try.underlying25 Try.underlying5 (by kernel_rfl) hf
  obtain ⟨t, rfl, _, _, wt⟩ := open_int Try.underlying22 o1 h1
  obtain ⟨z, rfl, _, _⟩ := open_bool Try.underlying4 o2 h2
  rw [hv_of' (wf_u16 wt)]
  by_cases hb : b.length ≤ 1000
  · cases z
    · exact cb_short A c b (u16of t.toNat) W hl hc hcm hb
    · exact cb_long A c b (u16of t.toNat) W hl hc hcm hb
  · have hb' : (1000 : Int) < (b.length : Int) := by omega
    clear hb
    generalize u16of t.toNat = u
    go_enter Try.func6, Try.ntmps6
    go_wp2_with fail
    refine (awake10_any W).mono ?_
    rintro e w1 ⟨rfl, b1⟩
    go_wp2_with fail
    refine (awake10_any w1).mono ?_
    rintro e w2 ⟨rfl, b2⟩
    go_wp2_with fail
    go_ret
    exact ⟨rfl, b1.trans (b2.mono b1.size)⟩
end Go.Proofs.Ytdnilbebdgohnaa

