/- Layer 12: the reference's Same. It writes nothing that was there. -/
/- Layer 12: the reference's Bytes. It writes nothing that was there. -/
/- Layer 12: the reference's Parse of bytes that are no whole chunk. It writes nothing that was there. -/
import Derived.Test.YthkbcpbgoefanaaGreatDoorQCI
import Derived.Test.YthkbcpbgoefanaaGreatDoorQNodeTV
import Derived.Test.YthkbcpbgoefanaaGreatDoorQA
import Derived.BigGuard
import Derived.Test.YthkbcpbgoefanaaGreatDoorQCR
import Derived.Test.YthkbcpbgoefanaaGreatDoorQCG
import Derived.Test.YthkbcpbgoefanaaGreatDoorQHeadX
import Derived.Test.YthkbcpbgoefanaaGreatDoorQChunkL




namespace Go.Proofs.YthkbcpbgoefanaaGreatDoor
open Go.RowKit

set_option maxRecDepth 100000 in
set_option maxHeartbeats 4000000 in
theorem rcsame12 (a b : Ck) (hda : a.d.length ≤ maxLen) (hka : a.ks.length ≤ 9223372036854775807) (hkb : b.ks.length ≤ 9223372036854775807) (A : Option Addr) (c : Nat) (K : Option Addr) (k : Nat) (A' : Option Addr) (c' : Nat) (K' : Option Addr) (k' : Nat) (w : World) (ha : Chunk w w.heap.size A c K k a) (hb : Chunk w w.heap.size A' c' K' k' b) :
    Calls Tryz.prog 24 #[ckV a A c K k, ckV b A' c' K' k'] w fun e w' => e = .returned (.bool (ckEq a b)) ∧ Below w.heap.size w w' := by
  have b0 : Below w.heap.size w ((w.alloc (.cells (ckCells a A c K k) 25)).alloc (.cells (ckCells b A' c' K' k') 25)) := ((Below.refl _ w).alloc (Nat.le_refl _) _).alloc (by simp) _
  have x0 : CkBox _ w.heap.size a A c K k := (CkBox.new w a A c K k).alloc (.cells (ckCells b A' c' K' k') 25)
  have y0 := CkBox.new (w.alloc (.cells (ckCells a A c K k) 25)) b A' c' K' k'
  simp only [World.size_alloc] at y0
  have HA := Lib.hid (ha.on b0)
  have HB := Lib.hid (hb.on b0)
  have HEQ := Lib.hid ((same_any A A' c c' _ a.d b.d _ (ha.on b0).data (hb.on b0).data hda).mono fun e w' (h : _ ∧ _) => And.intro h.1 (by obtain ⟨q, rfl⟩ := h.2; exact below_drewN (Below.refl _ _) q : Below ((w.alloc (.cells (ckCells a A c K k) 25)).alloc (.cells (ckCells b A' c' K' k') 25)).heap.size ((w.alloc (.cells (ckCells a A c K k) 25)).alloc (.cells (ckCells b A' c' K' k') 25)) w'))
  have HKS : Hid (∀ W, Below ((w.alloc (.cells (ckCells a A c K k) 25)).alloc (.cells (ckCells b A' c' K' k') 25)).heap.size ((w.alloc (.cells (ckCells a A c K k) 25)).alloc (.cells (ckCells b A' c' K' k') 25)) W → Calls Tryz.prog 32 #[.slice K a.ks.length k, .slice K' b.ks.length k'] W fun e w' => e = .returned (.bool (beqL a.ks b.ks)) ∧ Below W.heap.size W w') := fun W hW => rsame_any a.ks b.ks K K' k k' W ((ha.on b0).kids.on hW) ((hb.on b0).kids.on hW) hka hkb
  have HR0 : Hid (ckEq a b = (decide (a.t = b.t) && (decide (a.fl = b.fl) && (decide (a.d = b.d) && beqL a.ks b.ks)))) := rfl
  generalize hres : ckEq a b = res at *
  clear hres
  obtain ⟨p0, p1, p2, p3⟩ := x0.cs
  obtain ⟨q0, q1, q2, q3⟩ := y0.cs
  by_cases h1 : a.t = b.t
  · have e1 : ((a.t.toNat : Int) == (b.t.toNat : Int)) = true := by rw [h1]; simp
    by_cases h2 : a.fl = b.fl
    · have e2 : ((a.fl.toNat : Int) == (b.fl.toNat : Int)) = true := by rw [h2]; simp
      by_cases h3 : a.d = b.d
      · have HR := Lib.hid (show res = beqL a.ks b.ks by rw [HR0.out, decide_eq_true h1, decide_eq_true h2, decide_eq_true h3]; rfl)
        rw [decide_eq_true h3] at HEQ
        generalize beqL a.ks b.ks = kb at *
        clear HR0 h1 h2 h3
        go_enter Tryz.func24, Tryz.ntmps24
        go_wp2_with fail
        refine HEQ.out.mono ?_
        rintro e w1 ⟨rfl, b1⟩
        obtain ⟨p0, p1, p2, p3⟩ := (x0.below b1).cs
        obtain ⟨q0, q1, q2, q3⟩ := (y0.below b1).cs
        go_wp2_with fail
        refine (HKS.out _ b1).mono ?_
        rintro e w2 ⟨rfl, b2⟩
        go_wp2_with fail
        go_ret
        exact ⟨by first | rfl | (rw [HR.out]; rfl), (b0.trans (b1.mono b0.size)).trans (b2.mono (b0.trans (b1.mono b0.size)).size)⟩
      · have HR := Lib.hid (show res = false by rw [HR0.out, decide_eq_true h1, decide_eq_true h2, decide_eq_false h3]; rfl)
        rw [decide_eq_false h3] at HEQ
        clear HR0 h1 h2 h3
        go_enter Tryz.func24, Tryz.ntmps24
        go_wp2_with fail
        refine HEQ.out.mono ?_
        rintro e w1 ⟨rfl, b1⟩
        go_wp2_with fail
        go_ret
        exact ⟨by first | rfl | (rw [HR.out]; rfl), b0.trans (b1.mono b0.size)⟩
    · have HR := Lib.hid (show res = false by rw [HR0.out, decide_eq_true h1, decide_eq_false h2]; rfl)
      have e2 : ((a.fl.toNat : Int) == (b.fl.toNat : Int)) = false := by rw [beq_eq_false_iff_ne]; exact fun e => h2 (UInt8.toNat_inj.1 (by omega))
      clear HR0 h1 h2
      go_enter Tryz.func24, Tryz.ntmps24
      go_wp2_with fail
      go_ret
      exact ⟨by first | rfl | (rw [HR.out]; rfl), b0⟩
  · have HR := Lib.hid (show res = false by rw [HR0.out, decide_eq_false h1]; rfl)
    have e1 : ((a.t.toNat : Int) == (b.t.toNat : Int)) = false := by rw [beq_eq_false_iff_ne]; exact fun e => h1 (UInt8.toNat_inj.1 (by omega))
    clear HR0 h1
    go_enter Tryz.func24, Tryz.ntmps24
    go_wp2_with fail
    go_ret
    exact ⟨by first | rfl | (rw [HR.out]; rfl), b0⟩
end Go.Proofs.YthkbcpbgoefanaaGreatDoor






namespace Go.Proofs.YthkbcpbgoefanaaGreatDoor
open Go.RowKit

set_option linter.unusedSimpArgs false
set_option maxRecDepth 100000 in
set_option maxHeartbeats 2000000 in
theorem rbytes12 (x : Ck) (hf : CkFine x) (hz : csz x ≤ 65535) (hft : ∀ n ∈ x.ks, FitN n) (A : Option Addr) (c : Nat) (K : Option Addr) (k : Nat) (w : World) (h : Chunk w w.heap.size A c K k x) :
    Calls Tryz.prog 23 #[ckV x A c K k] w (JnR w (ckB x)) := by
  have b0 : Below w.heap.size w (w.alloc (.cells (ckCells x A c K k) 25)) := (Below.refl _ w).alloc (Nat.le_refl _) _
  have x0 := CkBox.new w x A c K k
  have hx0 := h.on b0
  have hS := rsize12 x hf (fine_sizes9 hf) A c K k _ hx0
  obtain ⟨q0, q1, q2, q3⟩ := x0.cs
  have HB8 := Lib.hid (fun (W : World) (hW : Nodes W W.heap.size K x.ks) (hq : sizes (lens x.ks) ≤ 9000000) => rbytes8_any x.ks hf.ks hf.each K k W hW hf.ks hq hft)
  unfold JnR at HB8
  have hl : csz x = 4 + x.d.length + (jn (frs x.ks)).length := by unfold csz; rw [jnf_len]
  have HQ : Hid (sizes (lens x.ks) ≤ 9000000) := by unfold Hid; unfold csz at hz; omega
  have HVL : Hid ((ckB x).length = 4 + x.d.length + (jn (frs x.ks)).length) := by
    unfold Hid ckB
    rw [frB_len]
    unfold frL
    simp only [List.length_append]
    omega
  have HV : Hid ((ckB x).map bv = [bv x.t, bv x.fl, .int .u8 ((csz x : Int) / 256), .int .u8 ((csz x : Int) % 256)] ++ x.d.map bv ++ (jn (frs x.ks)).map bv) := by
    unfold Hid ckB frB
    have ht := x.t.toNat_lt
    have hfl := x.fl.toNat_lt
    have hT : (u16of (256 * x.t.toNat + x.fl.toNat)).toNat = 256 * x.t.toNat + x.fl.toNat := by unfold u16of; rw [UInt16.toNat_ofNat']; omega
    rw [List.map_append, ← head_vals _ _ (by simp only [List.length_append]; omega), hT, List.map_append, ← List.append_assoc]
    simp only [List.length_append]
    have e1 : IntKind.u8.wrap (((256 * x.t.toNat + x.fl.toNat : Nat) : Int) / 256) = (x.t.toNat : Int) := by unfold IntKind.wrap IntKind.bits; simp [IntKind.signed]; omega
    have e2 : IntKind.u8.wrap ((256 * x.t.toNat + x.fl.toNat : Nat) : Int) = (x.fl.toNat : Int) := by unfold IntKind.wrap IntKind.bits; simp [IntKind.signed]; omega
    have e3 : (4 + ((x.d.length + (jn (frs x.ks)).length : Nat) : Int)) = ((csz x : Nat) : Int) := by omega
    rw [e1, e2, e3, Int.tdiv_eq_ediv_of_nonneg (by omega), Int.tmod_eq_emod_of_nonneg (by omega)]
    have e4 : IntKind.u8.wrap (IntKind.i64.wrap ((csz x : Int) / 256)) = (csz x : Int) / 256 := by unfold IntKind.wrap IntKind.bits; simp [IntKind.signed]; omega
    have e5 : IntKind.u8.wrap ((csz x : Int) % 256) = (csz x : Int) % 256 := by unfold IntKind.wrap IntKind.bits; simp [IntKind.signed]
    rw [e4, e5]
  generalize ckB x = out at *
  generalize jn (frs x.ks) = q at *
  generalize csz x = sz at *
  unfold JnR
  have hdl : x.d.length ≤ 65535 := by omega
  have hql : q.length ≤ 65535 := by omega
  have hws := b0.size
  clear hft hl
  go_enter Tryz.func23, Tryz.ntmps23
  go_wp2_with fail
  generalize w.alloc (.cells (ckCells x A c K k) 25) = w0 at *
  refine hS.mono ?_
  rintro e w1 ⟨rfl, b1⟩
  have x1 := x0.below b1
  clear q0 q1 q2 q3
  obtain ⟨q0, q1, q2, q3⟩ := x1.cs
  have b1s := b1.size
  have b2 := b1.alloc b1.size (.cells #[bv x.t, bv x.fl, .int .u8 ((sz : Int) / 256), .int .u8 ((sz : Int) % 256)] 5)
  have x2 := x0.below b2
  have y2 := hx0.on b2
  have own2 : (w1.alloc (.cells #[bv x.t, bv x.fl, .int .u8 ((sz : Int) / 256), .int .u8 ((sz : Int) % 256)] 5)).ownsRow w1.heap.size 5 1 (.slice (some ⟨w1.heap.size, 0, none⟩) 4 4) 4 [bv x.t, bv x.fl, .int .u8 ((sz : Int) / 256), .int .u8 ((sz : Int) % 256)] :=
    ⟨by simp, .inr ⟨w1.heap.size, 4, _, rfl, Nat.le_refl _, heap_alloc_new w1 _, Nat.le_refl _, by decide, rfl, by simp⟩⟩
  obtain ⟨r0, r1, r2, r3⟩ := x2.cs
  go_wp2_with (first
    | (at_builtin; refine wpList_append_lies _ rfl (.tmp 17) (.tmp 19) 22 rfl w1.heap.size 5 (.int .u8 0) 1 Tryz.underlying22 u8info rfl _ 4 _ rfl own2 _ A x.d.length c (x.d.map bv) rfl (by simp) y2.data (one_bytes x.d) (by omega) (by unfold maxLen; omega) (by simp) ?_; intro A3 c3 w3 own3 grow3 _; have b3 : Below w1.heap.size w1 w3 := below_own ((Below.refl _ _).alloc (Nat.le_refl _) _) own2 grow3 (Nat.le_refl _) (by simp); have x3 := x1.below b3; have y3 := (hx0.on b1).on b3; obtain ⟨u0, u1, u2, u3⟩ := x3.cs)
    | fail)
  clear q0 q1 q2 q3 r0 r1 r2 r3
  refine (HB8.out w3 y3.kids HQ.out).mono ?_
  rintro e w4 ⟨A4, c4, rfl, own4, b4⟩
  have b4' := b3.trans (b4.mono b3.size)
  have own3' := own_below' own3 b4
  have hs4 := b4'.size
  go_wp2_with (first
    | (at_builtin; refine wpList_append_lies _ rfl (.tmp 21) (.tmp 24) 22 rfl w1.heap.size 5 (.int .u8 0) 1 Tryz.underlying22 u8info rfl _ (4 + x.d.length) _ rfl own3' _ A4 q.length c4 (q.map bv) rfl (by simp) (Lies.own own4) (one_bytes q) (by omega) (by unfold maxLen; omega) hs4 ?_; intro A5 c5 w5 own5 grow5 _; have b5 : Below w1.heap.size w1 w5 := below_own b4' own3' grow5 (Nat.le_refl _) hs4)
    | fail)
  go_ret
  refine ⟨A5, c5, ?_, ?_, ?_⟩
  · rw [HVL.out]; rfl
  · rw [HVL.out, HV.out]
    exact own_base own5 (by omega)
  · exact (b0.trans (b1.mono b0.size)).trans (b5.mono (by omega))
end Go.Proofs.YthkbcpbgoefanaaGreatDoor





namespace Go.Proofs.YthkbcpbgoefanaaGreatDoor
open Go.RowKit

set_option linter.unusedSimpArgs false
set_option maxRecDepth 100000 in
set_option maxHeartbeats 2000000 in
theorem rparse12_part (b : List UInt8) (hb : b.length ≤ 1000000) (hw : whB b = false) (A : Option Addr) (c : Nat) (w : World) (h : Lies w w.heap.size A (b.map bv)) :
    Calls Tryz.prog 25 #[.slice A b.length c] w fun e w' => e = .returned (.tuple #[zck, .int .i64 4, .int .i64 0]) ∧ Below w.heap.size w w' := by
  have z0 := Whole.new w 25 #[.int .u8 0, .int .u8 0, .slice none 0 0, .slice none 0 0]
  have hz0 : Below w.heap.size w (w.alloc (.cells #[.int .u8 0, .int .u8 0, .slice none 0 0, .slice none 0 0] 25)) := (Below.refl _ w).alloc (Nat.le_refl _) _
  by_cases h4 : b.length < 4
  · have e4 : (b.length : Int) < 4 := by omega
    clear hw h
    go_enter Tryz.func25, Tryz.ntmps25
    have z1 := z0
    have hz1 := hz0
    go_wp2_with (first | (at_builtin; fail) | (refine wpList_store_row rfl 25 _ _ rfl w.heap.size #[.int .u8 0, .int .u8 0, .slice none 0 0, .slice none 0 0] rfl rfl _ _ z1 (by kernel_rfl) rfl (by simp [Value.oneCell']) ?_))
    refine bodyPost_ret (results_row_tmp2 rfl _ _ w.heap.size 25 _ _ rfl (z1.setRow _) Tryz.underlying25 rfl (by kernel_rfl)) rfl ?_
    exact ⟨rfl, below_setRow hz1 (Nat.le_refl _) _⟩
  · have e4 : ¬ (b.length : Int) < 4 := by omega
    have hN := fun W (hW : Below w.heap.size w W) => rnumber12 A c b 2 (by omega) (by omega) hb W ((h.below hW).more hW.size)
    have hne : num2 b 2 ≠ b.length := by
      intro e
      unfold whB at hw
      simp [e] at hw
      omega
    have HN := Lib.hid hN
    have e5 : ((num2 b 2 : Int) != (b.length : Int)) = true := by rw [bne_iff_ne]; omega
    clear hw h hN hne
    generalize num2 b 2 = n at *
    go_enter Tryz.func25, Tryz.ntmps25
    go_wp2_with fail
    refine (HN.out _ (by first | exact Below.refl _ _ | exact (Below.refl _ _).alloc (Nat.le_refl _) _)).mono ?_
    rintro e w1 ⟨rfl, b1⟩
    have z1 := z0.below b1 (by simp)
    have hz1 := hz0.trans (b1.mono (by simp))
    go_wp2_with (first | (at_builtin; fail) | (refine wpList_store_row rfl 25 _ _ rfl w.heap.size #[.int .u8 0, .int .u8 0, .slice none 0 0, .slice none 0 0] rfl rfl _ _ z1 (by kernel_rfl) rfl (by simp [Value.oneCell']) ?_))
    refine bodyPost_ret (results_row_tmp2 rfl _ _ w.heap.size 25 _ _ rfl (z1.setRow _) Tryz.underlying25 rfl (by kernel_rfl)) rfl ?_
    exact ⟨rfl, below_setRow hz1 (Nat.le_refl _) _⟩
end Go.Proofs.YthkbcpbgoefanaaGreatDoor


