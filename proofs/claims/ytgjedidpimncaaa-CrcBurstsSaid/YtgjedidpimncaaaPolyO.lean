/- Layer 4, the reference: the remainder by a register, for whatever lists: the walk. -/
import Derived.Test.YtgjedidpimncaaaPolyN
import Derived.Deep.Cut
namespace Go.Proofs.Ytgjedidpimncaaa
open Go.RowKit

theorem rmod_any (A A' : Option Addr) (c c' d : Nat) (a g : List UInt8) (w : World) (ha : Lies w w.heap.size A (a.map bv)) (hg : Lies w w.heap.size A' (g.map bv)) (hla : a.length ≤ 10000) (hlg : g.length ≤ 10000)
    (hd : rl g = d + 1) :
    Calls Try.prog 23 #[.slice A a.length c, .slice A' g.length c'] w fun e w' => ∃ R A n c L, e = .returned (.tuple #[.slice A n c, .bool true]) ∧
      Rem (co a) (co g) d R ∧ Holds w' R A n c L ∧ Below w.heap.size w w' := by
  have HG1 : Hid (co g d = true) := rl_at hd
  have HG2 : Hid (∀ j, d < j → co g j = false) := fun j hj => rl_above (by omega)
  have HLn : Hid (∀ (L : List UInt8), Can (co g) L → L.length = d + 1) := fun L h => by
    have := h.len (red_can g) (fun _ => rfl)
    rw [this, red_len, hd]
  have hdl : d < 10000 := by have := rl_le g; omega
  have H0 : Hid (Rem (co (a.drop a.length)) (co g) d fun _ => false) := by
    refine ⟨(Quo.self _ _).congr (fun _ => rfl) (fun i => ?_), fun _ _ => rfl⟩
    rw [co_out (by simp)]
  have HQ : Hid (a.drop 0 = a) := rfl
  clear hd
  go_enter Try.func23, Try.ntmps23
  go_wp2_with fail
  refine (rreduce_any A' c' g w hg (by omega)).mono ?_
  rintro e w1 ⟨A1, n1, c1, L, rfl, h1, b1⟩
  have hn1 : n1 = d + 1 := by rw [← h1.len]; exact HLn.out L h1.can
  have hL1 : L.length = d + 1 := by rw [h1.len, hn1]
  have hLl := h1.lies
  have HB : Hid (∀ i, i < d + 1 → L[i]? = some (b8 (co g i))) := fun i hi => h1.can.at_ i (by omega)
  have ha1 := (ha.below b1).more b1.size
  subst hn1
  clear h1 HLn
  have hdi : ((d + 1 : Nat) : Int) - 1 = (d : Int) := by omega
  go_wp2_with (at_make; refine wpList_make_zeros _ rfl (.tmp 20) (.tmp 20) 24 rfl Try.underlying24 _ (d + 1) rfl rfl (by omega) (by omega) ?_; intro w2 hrow hb2)
  go_loopw [9] (fun v wr => ∃ (t : Nat) (F : Nat → Bool), t ≤ a.length ∧ v = .int .i64 ((t : Int) - 1) ∧ Row wr w1.heap.size (bits8 F (d + 1)) ∧ Rem (co (a.drop t)) (co g) d F ∧ Below w1.heap.size w1 wr) (fun v _ => (intOf v + 1).toNat)
  case atStart => exact ⟨a.length, _, Nat.le_refl _, by go_num, hrow, H0.out, hb2⟩
  case round =>
    obtain ⟨t, F, ht, rfl, hrk, hR, hbk⟩ := hrel
    clear hrow
    cases t with
    | zero =>
      have HR : Hid (Rem (co a) (co g) d F) := hR
      have hC := rreduce_row (some ⟨w1.heap.size, 0, none⟩) (d + 1) (d + 1) F wr (hrk.lies hrk.lt) (by omega) (fun i hi => HR.out.small i (by omega))
      clear hrk hR
      go_wp2_with fail
      refine hC.mono ?_
      rintro e w4 ⟨A4, n4, c4, L4, rfl, h4, b4⟩
      go_wp2_with fail
      go_ret2
      exact ⟨F, A4, n4, c4, L4, rfl, HR.out, h4, b1.trans ((hbk.mono b1.size).trans (b4.mono (Nat.le_trans b1.size hbk.size)))⟩
    | succ i =>
      obtain ⟨ad, x, rfl, hbl, hx, hcx0⟩ := ha1.byte (k := i) (by omega)
      have hti : ((i + 1 : Nat) : Int) - 1 = (i : Int) := by omega
      have HS0 : Hid (Row wr w1.heap.size (bits8 (mid F d) (d + 1))) := by
        rw [Hid, bits8_congr (f := mid F d) (g := F) fun j hj => by unfold mid; rw [if_neg (by omega)]]
        exact hrk
      have HR := Lib.hid hR
      clear hrk hR
      go_wp2_with fail
      go_loopw [10] (fun v wr => ∃ q : Nat, q ≤ d ∧ v = .int .i64 (q : Int) ∧ Row wr w1.heap.size (bits8 (mid F q) (d + 1)) ∧ Below w1.heap.size w1 wr) (fun v _ => (intOf v).toNat)
      case atStart => exact ⟨d, Nat.le_refl _, rfl, HS0.out, hbk⟩
      case round =>
        obtain ⟨q, hq, rfl, hrq, hbq⟩ := hrel
        cases q with
        | succ q =>
          have hqi : ((q + 1 : Nat) : Int) - 1 = (q : Int) := by omega
          have hc1 := hrq.byte (bits8_at (mid F (q + 1)) (i := q) (by omega))
          have hc2 := hrq.byte (bits8_at (mid F (q + 1)) (i := q + 1) (by omega))
          have hf2 := Whole.frozen hrq (q + 1)
          have hmq : mid F (q + 1) q = F q := by unfold mid; rw [if_neg (by omega)]
          rw [hmq] at hc1
          have HS := Lib.hid (hrq.store (q + 1) (b8 (F q)))
          rw [mid_step] at HS
          have HB2 := Lib.hid (hbq.setCell (p := ⟨w1.heap.size, q + 1, none⟩) (Nat.le_refl _) (.int .u8 ((b8 (F q)).toNat : Int)))
          clear hrq hmq hcx0
          go_wp2_with fail
          go_roundw
          case rel => exact ⟨q, by omega, by go_num, HS.out, HB2.out⟩
          case measure => simp [intOf]
        | zero =>
          obtain ⟨_, y, e1, _, hy, hcx⟩ := (ha1.below hbq).byte (k := i) (by omega)
          cases e1
          have hxy : y = x := by have := hy.out; rw [hx.out] at this; exact (Option.some.inj this).symm
          subst hxy
          have HO2 := b8_odd y
          have hc2 := hrq.byte (bits8_at (mid F 0) (i := 0) (by omega))
          have hf2 := Whole.frozen hrq 0
          have hS := hrq.store 0 (b8 (odd y))
          rw [mid_front] at hS
          rw [HO2] at hS
          have hB3 : Below w1.heap.size w1 (wr.setCell ⟨w1.heap.size, 0, none⟩ (.int .u8 ((y.toNat : Int) % 2))) := hbq.setCell (p := ⟨w1.heap.size, 0, none⟩) (Nat.le_refl _) _
          clear hrq hcx0 HO2
          go_upto_region 14 with fail
          have hB4 := hB3
          generalize wr.setCell ⟨w1.heap.size, 0, none⟩ (.int .u8 ((y.toNat : Int) % 2)) = W at *
          have hcd := hS.byte (bits8_at (front (odd y) F) (i := d) (by omega))
          have hE := b8_eq_one (front (odd y) F d)
          cases hG : front (odd y) F d with
          | false =>
            rw [hG] at hcd hE
            have HR2 := Lib.hid (reg_keep hx.out HR.out hG)
            have HS2 := Lib.hid hS
            clear hG hS
            go_wp2_with fail
            go_roundw
            case rel => exact ⟨i, _, by omega, by go_num, HS2.out, HR2.out, hB4⟩
            case measure => simp [intOf]
          | true =>
            rw [hG] at hcd hE
            have HR2 := Lib.hid (reg_less hx.out HR.out hG HG1.out HG2.out)
            have HS2 : Hid (Row W w1.heap.size (bits8 (lower (front (odd y) F) (co g) 0) (d + 1))) := by
              rw [Hid, bits8_congr (f := lower (front (odd y) F) (co g) 0) (g := front (odd y) F) fun j hj => by unfold lower; rw [if_neg (by omega)]]
              exact hS
            clear hG hS
            generalize front (odd y) F = G at *
            go_wp2_with fail
            go_loopw [11] (fun v wr => ∃ q : Nat, q ≤ d + 1 ∧ v = .int .i64 (q : Int) ∧ Row wr w1.heap.size (bits8 (lower G (co g) q) (d + 1)) ∧ Below w1.heap.size w1 wr) (fun v _ => d + 1 - (intOf v).toNat)
            case atStart => exact ⟨0, Nat.zero_le _, rfl, HS2.out, hB4⟩
            case round =>
              obtain ⟨q, hq, rfl, hrq, hbq⟩ := hrel
              clear hcx hcd hc2 hf2 hB4
              by_cases hlt : q ≤ d
              · have hcr := hrq.byte (bits8_at (lower G (co g) q) (i := q) (by omega))
                have hfr := Whole.frozen hrq q
                have hmq : lower G (co g) q q = G q := by unfold lower; rw [if_neg (by omega)]
                rw [hmq] at hcr
                obtain ⟨adl, z, rfl, hbz, hz, hcz⟩ := (hLl.below hbq).byte (k := q) (by omega)
                have hzz : z = b8 (co g q) := by have := hz.out; rw [HB.out q (by omega)] at this; exact (Option.some.inj this).symm
                rw [hzz] at hcz
                have hl1 := b8_le (G q)
                have hl2 := b8_le (co g q)
                have HS := Lib.hid (hrq.store q (b8 (G q ^^ co g q)))
                rw [lower_step, ← add_bits] at HS
                have HB5 := Lib.hid (hbq.setCell (p := ⟨w1.heap.size, q, none⟩) (Nat.le_refl _) (.int .u8 ((((b8 (G q)).toNat : Int) + ((b8 (co g q)).toNat : Int)) % 2)))
                clear hrq hmq hzz
                generalize b8 (G q) = v1 at *
                generalize b8 (co g q) = v2 at *
                go_wp2_with fail
                go_region
                go_wp2_with fail
                go_roundw
                case rel => exact ⟨q + 1, by omega, by go_num, HS.out.drew, HB5.out.drew⟩
                case measure => simp [intOf]; omega
              · have HE : Hid (bits8 (lower G (co g) q) (d + 1) = bits8 (fun j => G j ^^ co g j) (d + 1)) :=
                  bits8_congr fun j hj => by unfold lower; rw [if_pos (by omega)]
                have HS := Lib.hid hrq
                rw [HE.out] at HS
                clear hrq HE
                go_wp2_with fail
                go_roundw
                case rel => exact ⟨i, _, by omega, by go_num, HS.out, HR2.out, hbq⟩
                case measure => simp [intOf]
end Go.Proofs.Ytgjedidpimncaaa
