/- Layer 5, the reference: packets, seals, drawn bytes; and what the statements invert. For whatever bytes. -/
import Derived.Test.YtgjedidpimncaaaCrcC
namespace Go.Proofs.Ytgjedidpimncaaa
open Go.RowKit

def putF (b : List UInt8) (x : Nat) : Nat → List UInt8
  | 0 => b
  | j + 1 => (putF b x j).set (8 + j) (fb x j)
theorem putF_len (b : List UInt8) (x j : Nat) : (putF b x j).length = b.length := by
  induction j with
  | zero => rfl
  | succ j ih => simp [putF, ih]
theorem putF_all (b : List UInt8) (x : Nat) : putF b x 4 = setF b x := rfl
theorem putF_next (b : List UInt8) (x : Nat) {i : Nat} (h : 8 ≤ i) : putF b x (i + 1 - 8) = (putF b x (i - 8)).set i (fb x (i - 8)) := by
  obtain ⟨j, rfl⟩ : ∃ j, i = 8 + j := ⟨i - 8, by omega⟩
  rw [show 8 + j + 1 - 8 = j + 1 by omega, show 8 + j - 8 = j by omega]
  rfl
theorem fb_zero (i : Nat) : fb 0 i = 0 := by unfold fb; rw [Nat.zero_div]; rfl
theorem own_store {w : World} {base g n c : Nat} {l : List UInt8} (h : w.ownsRow base 5 1 (.slice (some ⟨g, 0, none⟩) n c) n (l.map bv)) (i : Nat) (x : UInt8) :
    (w.setCell ⟨g, i, none⟩ (.int .u8 (x.toNat : Int))).ownsRow base 5 1 (.slice (some ⟨g, 0, none⟩) n c) n ((l.set i x).map bv) := by
  rw [List.map_set]
  exact (h.stored i (bv x)).1
/-- a copy of bytes -/
theorem copy_own {w : World} {A1 : Option Addr} {c1 n : Nat} {b : List UInt8} {w1 : World} (hown : w1.ownsRow w.heap.size 5 1 (.slice A1 n c1) n (b.map bv)) (h0 : 0 < n) :
    ∃ g, A1 = some ⟨g, 0, none⟩ ∧ w.heap.size ≤ g := by
  obtain ⟨g, x, h1, _, _, _, h2, _⟩ := own_at hown h0
  exact ⟨g, h1, h2⟩

theorem rpacket_any (A : Option Addr) (c : Nat) (b : List UInt8) (w : World) (h : Lies w w.heap.size A (b.map bv)) (h12 : 12 ≤ b.length) (hn : b.length ≤ 10000000) :
    Calls Try.prog 18 #[.slice A b.length c] w fun e w' => e = .returned (.int .u32 (crcN (zf b) : Nat)) ∧ Below w.heap.size w w' := by
  have HP : Hid (∀ i, 8 ≤ i → putF b 0 (i + 1 - 8) = (putF b 0 (i - 8)).set i 0) := fun i hi => by rw [putF_next b 0 hi, fb_zero]
  have HL : Hid (∀ j, (putF b 0 j).length = b.length) := putF_len b 0
  have HZ : Hid (putF b 0 4 = zf b) := rfl
  have H0 : Hid (putF b 0 (8 - 8) = b) := rfl
  have ho1 := one_bytes b
  go_enter Try.func18, Try.ntmps18
  go_wp2_with (at_builtin; refine wpList_append_lies _ rfl (.tmp 5) (.tmp 6) 24 rfl w.heap.size 5 _ 1 Try.underlying24 u8info rfl _ 0 [] rfl (own_empty w w.heap.size (Nat.le_refl _)) _ A b.length c _ rfl (by simp) (h.alloc (Nat.le_refl _) _) ho1 (by omega) (by unfold maxLen; omega) (by simp) ?_; intro A1 c1 w1 hown' hgrow _; have hown : w1.ownsRow w.heap.size 5 1 (.slice A1 b.length c1) b.length (b.map bv) := (by simpa using hown'); clear hown')
  have hb1 : Below w.heap.size w w1 := ((Below.refl _ w).alloc (Nat.le_refl _) _).grown hgrow (by simp) (fun j e => by cases e; exact Nat.le_refl _)
  obtain ⟨g, rfl, hg⟩ := copy_own hown (by omega)
  rw [← H0.out] at hown
  have hl : (putF b 0 (8 - 8)).length = b.length := HL.out _
  have HO := Lib.hid hown
  clear hown hgrow
  go_loopw [4] (fun i wr => ∃ k : Nat, 8 ≤ k ∧ k ≤ 12 ∧ i = .int .i64 k ∧ wr.ownsRow w.heap.size 5 1 (.slice (some ⟨g, 0, none⟩) b.length c1) b.length ((putF b 0 (k - 8)).map bv) ∧ Below w.heap.size w wr) (fun i _ => 12 - (intOf i).toNat)
  case atStart => exact ⟨8, Nat.le_refl _, by omega, rfl, HO.out, hb1⟩
  case round =>
    obtain ⟨k, hk8, hk, rfl, hok, hbk⟩ := hrel
    by_cases hlt : k < 12
    · obtain ⟨g', x, e1, _, hc, hf, _, _⟩ := own_at hok (k := k) (by omega)
      cases e1
      have HS := Lib.hid (own_store hok k 0)
      rw [← HP.out k hk8] at HS
      have HB5 := Lib.hid (hbk.setCell (p := ⟨g, k, none⟩) hg (.int .u8 (((0 : UInt8).toNat : Nat) : Int)))
      clear hok
      generalize putF b 0 (k - 8) = l at *
      go_wp2_with fail
      go_roundw
      case rel => exact ⟨k + 1, by omega, by omega, by go_num, HS.out, HB5.out⟩
      case measure => simp [intOf]; omega
    · obtain rfl : k = 12 := by omega
      have hl4 := Lies.own hok
      rw [show 12 - 8 = 4 from rfl, HZ.out] at hl4
      have hC := rfast_any (some ⟨g, 0, none⟩) c1 _ (zf b) wr hl4 (by rw [← HZ.out, HL.out]; omega)
      rw [← HZ.out, HL.out, HZ.out] at hC
      clear hok hl4
      go_wp2_with fail
      refine hC.mono ?_
      rintro e w4 ⟨rfl, rfl⟩
      go_wp2_with fail
      go_ret
      exact ⟨rfl, hbk⟩

theorem rseal_any (A : Option Addr) (c : Nat) (b : List UInt8) (w : World) (h : Lies w w.heap.size A (b.map bv)) (h12 : 12 ≤ b.length) (hn : b.length ≤ 10000000) :
    Calls Try.prog 19 #[.slice A b.length c] w fun e w' => ∃ g c', e = .returned (.slice (some ⟨g, 0, none⟩) b.length c') ∧
      w'.ownsRow w.heap.size 5 1 (.slice (some ⟨g, 0, none⟩) b.length c') b.length ((sealL b).map bv) ∧ w.heap.size ≤ g ∧ Below w.heap.size w w' := by
  have HP : Hid (∀ i, 8 ≤ i → putF b (crcN (zf b)) (i + 1 - 8) = (putF b (crcN (zf b)) (i - 8)).set i (fb (crcN (zf b)) (i - 8))) := fun i hi => putF_next b _ hi
  have HL : Hid (∀ j, (putF b (crcN (zf b)) j).length = b.length) := putF_len b _
  have HZ : Hid (putF b (crcN (zf b)) 4 = sealL b) := rfl
  have H0 : Hid (putF b (crcN (zf b)) (8 - 8) = b) := rfl
  have hv := crcN_lt (zf b)
  have ho1 := one_bytes b
  go_enter Try.func19, Try.ntmps19
  go_wp2_with (at_builtin; refine wpList_append_lies _ rfl (.tmp 6) (.tmp 7) 24 rfl w.heap.size 5 _ 1 Try.underlying24 u8info rfl _ 0 [] rfl (own_empty w w.heap.size (Nat.le_refl _)) _ A b.length c _ rfl (by simp) (h.alloc (Nat.le_refl _) _) ho1 (by omega) (by unfold maxLen; omega) (by simp) ?_; intro A1 c1 w1 hown' hgrow _; have hown : w1.ownsRow w.heap.size 5 1 (.slice A1 b.length c1) b.length (b.map bv) := (by simpa using hown'); clear hown')
  have hb1 : Below w.heap.size w w1 := ((Below.refl _ w).alloc (Nat.le_refl _) _).grown hgrow (by simp) (fun j e => by cases e; exact Nat.le_refl _)
  obtain ⟨g, rfl, hg⟩ := copy_own hown (by omega)
  have hC := rpacket_any A c b w1 ((h.below hb1).more hb1.size) h12 hn
  have hlo := Lib.hid hown
  clear hown hgrow
  refine hC.mono ?_
  rintro e w2 ⟨rfl, b12⟩
  have hown := own_below' hlo.out b12
  have hb2 := hb1.trans (b12.mono hb1.size)
  rw [← H0.out] at hown
  have HO := Lib.hid hown
  clear hown hlo b12 hb1 hC
  have HF : Hid (∀ j, (fb (crcN (zf b)) j).toNat = crcN (zf b) / 256 ^ j % 256) := fb_toNat _
  have HV : Hid (crcN (zf b) / 256 ^ (8 - 8) = crcN (zf b)) := by simp [Hid]
  generalize crcN (zf b) = v at *
  go_wp2_with fail
  go_loopw [4, 5] (fun x i wr => ∃ k : Nat, 8 ≤ k ∧ k ≤ 12 ∧ i = .int .i64 k ∧ x = .int .u32 (v / 256 ^ (k - 8) : Nat) ∧ wr.ownsRow w.heap.size 5 1 (.slice (some ⟨g, 0, none⟩) b.length c1) b.length ((putF b v (k - 8)).map bv) ∧ Below w.heap.size w wr) (fun _ i _ => 12 - (intOf i).toNat)
  case atStart => exact ⟨8, Nat.le_refl _, by omega, rfl, by rw [HV.out], HO.out, hb2⟩
  case round =>
    obtain ⟨k, hk8, hk, rfl, rfl, hok, hbk⟩ := hrel
    by_cases hlt : k < 12
    · obtain ⟨g', x, e1, _, hc, hf, _, _⟩ := own_at hok (k := k) (by omega)
      cases e1
      have HS := Lib.hid (own_store hok k (fb v (k - 8)))
      rw [← HP.out k hk8, HF.out] at HS
      have HB5 := Lib.hid (hbk.setCell (p := ⟨g, k, none⟩) hg (.int .u8 ((v / 256 ^ (k - 8) % 256 : Nat) : Int)))
      have hq : v / 256 ^ (k - 8) ≤ v := Nat.div_le_self _ _
      have HQ : Hid (v / 256 ^ (k + 1 - 8) = v / 256 ^ (k - 8) / 256) := by
        rw [Hid, show k + 1 - 8 = k - 8 + 1 by omega, Nat.pow_succ, Nat.div_div_eq_div_mul]
      clear hok
      generalize putF b v (k - 8) = l at *
      generalize v / 256 ^ (k - 8) = y at *
      go_wp2_with fail
      go_roundw
      case rel => exact ⟨k + 1, by omega, by omega, by go_num, by rw [HQ.out]; rfl, HS.out, HB5.out⟩
      case measure => simp [intOf]; omega
    · obtain rfl : k = 12 := by omega
      rw [show 12 - 8 = 4 from rfl, HZ.out] at hok
      have HO4 := Lib.hid hok
      clear hok
      go_wp2_with fail
      go_ret
      exact ⟨g, c1, rfl, HO4.out, hg, hbk⟩

theorem setF_is {b : List UInt8} (h : 12 ≤ b.length) (x : Nat) : setF b x = b ↔ ∀ j, j < 4 → b[8 + j]? = some (fb x j) := by
  constructor
  · intro e j hj
    have := setF_at b x h (8 + j)
    rw [e, if_pos ⟨by omega, by omega⟩, show 8 + j - 8 = j by omega] at this
    exact this
  · intro e
    refine List.ext_getElem? fun i => ?_
    rw [setF_at b x h]
    split
    · have := e (i - 8) (by omega)
      rw [show 8 + (i - 8) = i by omega] at this
      exact this.symm
    · rfl
theorem u8_beq (x y : UInt8) : ((x.toNat : Int) == (y.toNat : Int)) = decide (x = y) := by
  by_cases h : x = y
  · rw [h]; simp
  · rw [decide_eq_false h, beq_eq_false_iff_ne]
    intro e
    exact h (UInt8.toNat_inj.1 (by omega))
theorem sealed_is {b : List UInt8} {y0 y1 y2 y3 : UInt8} (h : 12 ≤ b.length) (h0 : b[8]? = some y0) (h1 : b[9]? = some y1) (h2 : b[10]? = some y2) (h3 : b[11]? = some y3) :
    isSealed b = (((decide (fb (crcN (zf b)) 0 = y0) && decide (fb (crcN (zf b)) 1 = y1)) && decide (fb (crcN (zf b)) 2 = y2)) && decide (fb (crcN (zf b)) 3 = y3)) := by
  unfold isSealed sealL
  rw [decide_eq_true h, Bool.true_and]
  generalize crcN (zf b) = x
  rw [Bool.eq_iff_iff]
  simp only [decide_eq_true_eq, Bool.and_eq_true]
  rw [setF_is h]
  constructor
  · intro e
    have e0 := e 0 (by omega)
    have e1 := e 1 (by omega)
    have e2 := e 2 (by omega)
    have e3 := e 3 (by omega)
    simp only [h0, h1, h2, h3, Option.some.injEq] at e0 e1 e2 e3
    exact ⟨⟨⟨e0.symm, e1.symm⟩, e2.symm⟩, e3.symm⟩
  · rintro ⟨⟨⟨rfl, rfl⟩, rfl⟩, rfl⟩ j hj
    obtain rfl | rfl | rfl | rfl : j = 0 ∨ j = 1 ∨ j = 2 ∨ j = 3 := by omega
    · exact h0
    · exact h1
    · exact h2
    · exact h3
theorem sealL_at {b : List UInt8} (h : 12 ≤ b.length) (j : Nat) (hj : j < 4) : (sealL b)[8 + j]? = some (fb (crcN (zf b)) j) := by
  unfold sealL
  rw [setF_at b _ h, if_pos ⟨by omega, by omega⟩, show 8 + j - 8 = j by omega]
theorem Lies.byteAt {w : World} {B : Nat} {A : Option Addr} {l : List UInt8} (h : Lies w B A (l.map bv)) {k : Nat} (hk : k < l.length) :
    ∃ ad x, A = some ad ∧ ad.block < B ∧ l[k]? = some x ∧ w.cell? (ad.add k) = some (.int .u8 (x.toNat : Int)) := by
  obtain ⟨ad, x, h1, h2, h3, h4⟩ := h.byte hk
  exact ⟨ad, x, h1, h2, h3.out, h4⟩
theorem rsealed_any (A : Option Addr) (c : Nat) (b : List UInt8) (w : World) (h : Lies w w.heap.size A (b.map bv)) (hn : b.length ≤ 10000000) :
    Calls Try.prog 16 #[.slice A b.length c] w fun e w' => e = .returned (.bool (isSealed b)) ∧ Below w.heap.size w w' := by
  by_cases h12 : 12 ≤ b.length
  · have hb12 : ((b.length : Int) < 12) = False := by simp; omega
    have hC := rseal_any A c b w h h12 hn
    have e0 := sealL_at h12 0 (by omega)
    have e1 := sealL_at h12 1 (by omega)
    have e2 := sealL_at h12 2 (by omega)
    have e3 := sealL_at h12 3 (by omega)
    go_enter Try.func16, Try.ntmps16
    go_wp2_with fail
    refine hC.mono ?_
    rintro e w1 ⟨g, c1, rfl, hown, hg, b1⟩
    have hl1 := h.below b1
    obtain ⟨ad, y0, rfl, hbl, g0, d0⟩ := hl1.byteAt (k := 8) (by omega)
    obtain ⟨ad', y1, e', _, g1, d1⟩ := hl1.byteAt (k := 9) (by omega)
    cases e'
    obtain ⟨ad', y2, e', _, g2, d2⟩ := hl1.byteAt (k := 10) (by omega)
    cases e'
    obtain ⟨ad', y3, e', _, g3, d3⟩ := hl1.byteAt (k := 11) (by omega)
    cases e'
    have ea : ∀ k, 0 < k → ad.add k = ⟨ad.block, ad.off + k, none⟩ := fun k hk => by unfold Addr.add; rw [if_neg (by omega)]
    rw [ea _ (by omega)] at d0 d1 d2 d3
    clear ea
    have hS := sealed_is h12 g0 g1 g2 g3
    have c0 := hown.cellAt 8 (by omega)
    have c1' := hown.cellAt 9 (by omega)
    have c2 := hown.cellAt 10 (by omega)
    have c3 := hown.cellAt 11 (by omega)
    rw [List.getElem?_map, e0, Option.map_some] at c0
    rw [List.getElem?_map, e1, Option.map_some] at c1'
    rw [List.getElem?_map, e2, Option.map_some] at c2
    rw [List.getElem?_map, e3, Option.map_some] at c3
    have i0 := u8_beq (fb (crcN (zf b)) 0) y0
    have i1 := u8_beq (fb (crcN (zf b)) 1) y1
    have i2 := u8_beq (fb (crcN (zf b)) 2) y2
    have i3 := u8_beq (fb (crcN (zf b)) 3) y3
    clear e0 e1 e2 e3 g0 g1 g2 g3 hC h hl1
    generalize fb (crcN (zf b)) 0 = x0 at *
    generalize fb (crcN (zf b)) 1 = x1 at *
    generalize fb (crcN (zf b)) 2 = x2 at *
    generalize fb (crcN (zf b)) 3 = x3 at *
    generalize decide (x0 = y0) = t0 at *
    generalize decide (x1 = y1) = t1 at *
    generalize decide (x2 = y2) = t2 at *
    generalize decide (x3 = y3) = t3 at *
    have HS := Lib.hid hS
    clear hS
    have hh : (t0 = false) ∨ (t0 = true ∧ t1 = false) ∨ (t0 = true ∧ t1 = true ∧ t2 = false) ∨ (t0 = true ∧ t1 = true ∧ t2 = true ∧ t3 = false) ∨ (t0 = true ∧ t1 = true ∧ t2 = true ∧ t3 = true) := by
      cases t0 <;> cases t1 <;> cases t2 <;> cases t3 <;> simp
    rcases hh with rfl | ⟨rfl, rfl⟩ | ⟨rfl, rfl, rfl⟩ | ⟨rfl, rfl, rfl, rfl⟩ | ⟨rfl, rfl, rfl, rfl⟩
    all_goals
      go_wp2_with fail
      go_region
      go_wp2_with fail
      go_ret
      exact ⟨ret_bool (by rw [HS.out]; rfl), below_drewN b1 _⟩
  · have hb12 : ((b.length : Int) < 12) = True := by simp; omega
    have hS : Hid (isSealed b = false) := by
      unfold isSealed
      rw [decide_eq_false h12]
      rfl
    go_enter Try.func16, Try.ntmps16
    go_wp2_with fail
    go_ret
    exact ⟨ret_bool (by rw [hS.out]), Below.refl _ _⟩
end Go.Proofs.Ytgjedidpimncaaa
