/- Layer 10, the reference: Types. It writes nothing that was there. -/
import Derived.Test.YtdnilbebdgohnaaCauseI
import Derived.Test.YtdnilbebdgohnaaCauseCD


namespace Go.Proofs.Ytdnilbebdgohnaa
open Go.RowKit

theorem val16 (p q : UInt8) : IntKind.u16.wrap (IntKind.u16.wrap (IntKind.u16.wrap (p.toNat : Int) * 256) + IntKind.u16.wrap (q.toNat : Int)) = ((UInt16.ofNat (p.toNat * 256 + q.toNat)).toNat : Int) := by
  have hp := p.toNat_lt
  have hq := q.toNat_lt
  simp only [IntKind.wrap_u16]
  rw [UInt16.toNat_ofNat']
  omega
set_option maxRecDepth 100000 in
set_option maxHeartbeats 2000000 in
theorem rtypes10_yes (n : Nd) (A : Option Addr) (c : Nat) (K : Option Addr) (k : Nat) (w : World) (hN : Node w w.heap.size A c K k n) (hf : Fine n) (hok : okC [2] n = true) :
    Calls Try.prog 17 #[ndV n A c K k] w (TypR w (some (prs (n.v.drop 4)))) := by
  obtain ⟨ht2, hl6, hev, hle⟩ := typ_even hok
  have hz : chk 4 2 n = 0 := by
    unfold okC at hok
    simp only [Bool.and_eq_true, decide_eq_true_eq] at hok
    exact hok.2
  unfold ndV
  have b0 : Below w.heap.size w (w.alloc (.cells #[hv n.t, .slice A n.v.length c, .slice K n.ks.length k] 28)) := (Below.refl _ _).alloc (Nat.le_refl _) _
  have x0 : NdBox (w.alloc (.cells #[hv n.t, .slice A n.v.length c, .slice K n.ks.length k] 28)) w.heap.size n A c K k := Whole.new w 28 #[hv n.t, .slice A n.v.length c, .slice K n.ks.length k]
  have hN0 := hN.on b0
  have HB := Lib.hid b0
  have hq2 : ((n.t.toNat : Int) != 2) = false := by rw [ht2]; rfl
  have hC : Calls Try.prog 24 #[.int .i64 2, .agg #[hv n.t, .slice A n.v.length c, .slice K n.ks.length k], .int .i64 1] (w.alloc (.cells #[hv n.t, .slice A n.v.length c, .slice K n.ks.length k] 28)) (fun e w' => e = .returned (.int .i64 0) ∧ Below (w.alloc (.cells #[hv n.t, .slice A n.v.length c, .slice K n.ks.length k] 28)).heap.size (w.alloc (.cells #[hv n.t, .slice A n.v.length c, .slice K n.ks.length k] 28)) w') := by
    have h := rcheck1_any 2 (.inr rfl) n A c K k _ hN0 hf
    rw [hz] at h
    exact h
  obtain ⟨m, hm⟩ : ∃ m, n.v.length = 4 + 2 * m := ⟨(n.v.length - 4) / 2, by omega⟩
  have hmb : m ≤ 40000 := by omega
  have HM := Lib.hid hm
  have HPL : Hid ((prs (n.v.drop 4)).length = m) := by unfold Hid; rw [prs_len, List.length_drop]; omega
  have HPA : Hid (∀ (k : Nat) (x y : UInt8), n.v[4 + 2 * k]? = some x → n.v[4 + 2 * k + 1]? = some y → (prs (n.v.drop 4))[k]? = some (UInt16.ofNat (x.toNat * 256 + y.toNat))) := fun k x y hx hy =>
    prs_at (n.v.drop 4) (by rw [List.getElem?_drop]; exact hx) (by rw [List.getElem?_drop]; exact hy)
  clear hm ht2 hl6 hev hok hz hN hf b0
  generalize prs (n.v.drop 4) = Z at *
  go_enter Try.func17, Try.ntmps17
  go_upto_region 1 with fail
  generalize w.alloc (.cells #[hv n.t, .slice A n.v.length c, .slice K n.ks.length k] 28) = w0 at *
  obtain ⟨s0, s1, s2⟩ : NdAt w0 w.heap.size n A c K k := ndAt_of x0 (Below.refl _ _)
  go_wp2_with fail
  refine hC.mono ?_
  rintro e w1 ⟨rfl, b1⟩
  have x1 := x0.below b1
  have hN1 := hN0.on b1
  have HD : Hid (∀ V, Below w1.heap.size w1 V → Lies V w1.heap.size A (n.v.map bv)) := fun V hV => hN1.data.below hV
  have KS : Hid (∀ V, Below w1.heap.size w1 V → NdAt V w.heap.size n A c K k) := fun V hV => ndAt_of x1 hV
  have HB1 := Lib.hid (HB.out.trans (b1.mono HB.out.size))
  obtain ⟨t0, t1, t2⟩ := KS.out w1 (Below.refl _ _)
  have hvm : n.v.length ≤ 65531 := hle
  clear s0 s1 s2 hC b1 x0 x1 hN0 hN1
  go_wp2_with fail
  go_loopw [4, 5] (fun v i wr => ∃ (k j : Nat) (A' : Option Addr) (c' : Nat), k ≤ m ∧ i = .int .i64 (j : Int) ∧ Hid (j = 4 + 2 * k) ∧ v = .slice A' k c' ∧ Hid (wr.ownsRow w1.heap.size 22 1 (.slice A' k c') k ((Z.take k).map hv)) ∧ Below w1.heap.size w1 wr) (fun _ i _ => n.v.length - (intOf i).toNat)
  case atStart => exact ⟨0, 4, none, 0, Nat.zero_le _, rfl, rfl, rfl, World.ownsRow_nil _ _ _ _, Below.refl _ _⟩
  case round =>
    obtain ⟨k, j, A2, c2, hk, rfl, hj, rfl, hown, hbel⟩ := hrel
    have hsz := hbel.size
    obtain ⟨r0, r1, r2⟩ := KS.out wr hbel
    by_cases hlt : k < m
    · have hji : j + 1 < n.v.length := by have h1 := HM.out; have h2 := hj.out; omega
      obtain ⟨ad, p, hA, hb, hp, hc0⟩ := (HD.out wr hbel).byte (k := j) (by omega)
      obtain ⟨ad', q, hA', _, hq, hc1⟩ := (HD.out wr hbel).byte (k := j + 1) hji
      subst hA
      cases hA'
      obtain ⟨j1, hj1⟩ : ∃ j1, j + 1 = j1 := ⟨_, rfl⟩
      rw [hj1] at hc1
      have hwj : IntKind.i64.wrap ((j : Int) + 1) = (j1 : Int) := by rw [IntKind.wrap_i64]; omega
      have hi1 : (j : Int) < (n.v.length : Int) := by omega
      have hi2 : (j1 : Int) < (n.v.length : Int) := by omega
      have hi3 : (j : Int) ≤ 70000 := by omega
      have KC : Hid (∀ V, Below w1.heap.size w1 V → V.cell? ⟨w.heap.size, 1, none⟩ = some (.slice (some ad) n.v.length c) ∧ V.cell? (ad.add j) = some (.int .u8 (p.toNat : Int)) ∧ V.cell? (ad.add j1) = some (.int .u8 (q.toNat : Int))) := fun V hV => by
        refine ⟨(KS.out V hV).2.1, ?_, ?_⟩
        · obtain ⟨_, p', e1, _, e2, e3⟩ := (HD.out V hV).byte (k := j) (by omega)
          cases e1
          have := e2.out
          rw [hp.out] at this
          cases this
          exact e3
        · obtain ⟨_, q', e1, _, e2, e3⟩ := (HD.out V hV).byte (k := j + 1) hji
          cases e1
          have := e2.out
          rw [hq.out] at this
          cases this
          rw [← hj1]
          exact e3
      have HZ : Hid (Z.take (k + 1) = Z.take k ++ [UInt16.ofNat (p.toNat * 256 + q.toNat)]) := by
        apply take_some
        have h1 := hp.out
        have h2 := hq.out
        rw [hj.out] at h1 h2
        exact HPA.out k p q h1 h2
      have HH : Hid (Lies (wr.alloc (.cells #[.int .u16 (IntKind.u16.wrap (IntKind.u16.wrap (IntKind.u16.wrap (p.toNat : Int) * 256) + IntKind.u16.wrap (q.toNat : Int)))] 22)) (wr.heap.size + 1) (some ⟨wr.heap.size, 0, none⟩) [hv (UInt16.ofNat (p.toNat * 256 + q.toNat))]) := by
        unfold Hid
        rw [val16]
        exact Lies.new1 wr _ _
      generalize UInt16.ofNat (p.toNat * 256 + q.toNat) = y at *
      obtain ⟨k1, hk1⟩ : ∃ k1, k + 1 = k1 := ⟨_, rfl⟩
      have HK1 := Lib.hid hk1
      have hk1b : k1 ≤ 100000 := by omega
      have HOW := Lib.hid (hown.out.alloc (.cells #[.int .u16 (IntKind.u16.wrap (IntKind.u16.wrap (IntKind.u16.wrap (p.toNat : Int) * 256) + IntKind.u16.wrap (q.toNat : Int)))] 22))
      clear hk1 hj1
      go_wp2_with fail
      go_region_held3 (fun W => W.cell? ⟨w.heap.size, 1, none⟩ = some (.slice (some ad) n.v.length c) ∧ W.cell? (ad.add j) = some (.int .u8 (p.toNat : Int)) ∧ W.cell? (ad.add j1) = some (.int .u8 (q.toNat : Int)))
        (first | exact KC.out _ (below_drew hbel) | exact KC.out _ (below_drew (hbel.alloc hsz _)) | exact KC.out _ b8 | fail)
        (first
        | (refine step_append_c rfl (.tmp 21) (.tmp 37) 37 rfl w1.heap.size 22 (.int .u16 0) 2 Try.underlying37 u16info rfl _ k _ (by rfl) (World.ownsRow.drew HOW.out) _ (some ⟨wr.heap.size, 0, none⟩) 1 1 [hv y] (by rfl) (by rfl) HH.out (by intro u hu; rw [List.mem_singleton.1 hu]; rfl) k1 HK1.out (by omega) (by unfold maxLen; omega) (by simp; omega) ?_; intro A8 c8 w8 own8 grow8; have b8 : Below w1.heap.size w1 w8 := (below_drew (hbel.alloc hsz _)).grown grow8 (by simp; omega) (fun q e => (hown.out.lt q e).1))
        | fail)
      have H8 : Hid (w8.ownsRow w1.heap.size 22 1 (.slice A8 k1 c8) k1 ((Z.take k1).map hv)) := by
        unfold Hid
        rw [← HK1.out, HZ.out, List.map_append, HK1.out]
        exact own8
      have hj2 : Hid (j + 2 = 4 + 2 * k1) := by have h1 := hj.out; have h2 := HK1.out; unfold Hid; omega
      clear own8 grow8
      go_wp2_with fail
      go_roundw
      case rel => exact ⟨k1, j + 2, A8, c8, by have := HK1.out; omega, by go_num, hj2, rfl, H8, b8⟩
      case measure => simp [intOf]; omega
    · obtain rfl : k = m := by omega
      have hi1 : ¬ (j : Int) < (n.v.length : Int) := by have h1 := HM.out; have h2 := hj.out; omega
      have HE : Hid (Lies wr wr.heap.size A2 (Z.map hv) ∧ k ≤ c2) := by
        have h1 := hown.out
        rw [List.take_of_length_le (by have := HPL.out; omega)] at h1
        exact ⟨Lies.own h1, (own_cap h1).2.1⟩
      clear hown
      go_wp2_with fail
      go_ret2
      have hZl := HPL.out
      refine ⟨HB1.out.trans (hbel.mono HB1.out.size), A2, c2, ?_, HE.out.1, by show Z.length ≤ c2; rw [hZl]; exact HE.out.2⟩
      show Ending.returned (.tuple #[.slice A2 k c2, .bool true]) = .returned (.tuple #[.slice A2 Z.length c2, .bool true])
      rw [hZl]
set_option maxRecDepth 100000 in
set_option maxHeartbeats 2000000 in
theorem rtypes10_any (n : Nd) (A : Option Addr) (c : Nat) (K : Option Addr) (k : Nat) (w : World) (hN : Node w w.heap.size A c K k n) (hf : Fine n) :
    Calls Try.prog 17 #[ndV n A c K k] w (TypR w (typO n)) := by
  cases hok : okC [2] n with
  | true =>
    have e : typO n = some (prs (n.v.drop 4)) := by unfold typO; rw [hok]; rfl
    rw [e]
    exact rtypes10_yes n A c K k w hN hf hok
  | false =>
    have e : typO n = none := by unfold typO; rw [hok]; rfl
    rw [e]
    unfold ndV
    have b0 : Below w.heap.size w (w.alloc (.cells #[hv n.t, .slice A n.v.length c, .slice K n.ks.length k] 28)) := (Below.refl _ _).alloc (Nat.le_refl _) _
    have x0 : NdBox (w.alloc (.cells #[hv n.t, .slice A n.v.length c, .slice K n.ks.length k] 28)) w.heap.size n A c K k := Whole.new w 28 #[hv n.t, .slice A n.v.length c, .slice K n.ks.length k]
    obtain ⟨s0, s1, s2⟩ : NdAt _ w.heap.size n A c K k := ndAt_of x0 (Below.refl _ _)
    by_cases ht : n.t = 2
    · have hz : chk 4 2 n ≠ 0 := by
        intro hz
        unfold okC at hok
        rw [decide_eq_true hz, decide_eq_true (by rw [ht]; exact List.mem_singleton.2 rfl)] at hok
        cases hok
      have hq2 : ((n.t.toNat : Int) != 2) = false := by rw [ht]; rfl
      have hC : Calls Try.prog 24 #[.int .i64 2, .agg #[hv n.t, .slice A n.v.length c, .slice K n.ks.length k], .int .i64 1] (w.alloc (.cells #[hv n.t, .slice A n.v.length c, .slice K n.ks.length k] 28)) _ := rcheck1_any 2 (.inr rfl) n A c K k _ (hN.on b0) hf
      generalize chk 4 2 n = z at *
      have hz' : ((z : Int) != 0) = true := by rw [bne_iff_ne]; omega
      clear hz ht hok e
      go_enter Try.func17, Try.ntmps17
      go_wp2_with fail
      refine hC.mono ?_
      rintro e w1 ⟨rfl, b1⟩
      go_wp2_with fail
      go_ret2
      exact ⟨b0.trans (b1.mono b0.size), none, 0, rfl, Lies.nil, Nat.le_refl _⟩
    · have hq2 : ((n.t.toNat : Int) != 2) = true := by
        rw [bne_iff_ne]; exact fun e => ht (UInt16.toNat_inj.1 (by have : (2 : UInt16).toNat = 2 := rfl; omega))
      clear ht hok e
      go_enter Try.func17, Try.ntmps17
      go_wp2_with fail
      go_ret2
      exact ⟨b0, none, 0, rfl, Lies.nil, Nat.le_refl _⟩
end Go.Proofs.Ytdnilbebdgohnaa

