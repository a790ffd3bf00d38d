/- Layer 4, the reference: products, for whatever lists. -/
import Derived.Test.YtembggidhmdnfaaPolyL
namespace Go.Proofs.Ytembggidhmdnfaa
open Go.RowKit

theorem and_bits (a b : Bool) : ((a.toNat : Nat) : Int) * ((b.toNat : Nat) : Int) = (((a && b).toNat : Nat) : Int) := by cases a <;> cases b <;> rfl
theorem cnt_step {s : Nat} {x y : Bool} (hs : s % 2 = x.toNat) : (s + y.toNat) % 2 = (x ^^ y).toNat := by
  cases x <;> cases y <;> simp at hs ⊢ <;> omega
theorem cnt_b8 {s : Nat} {x : Bool} (hs : s % 2 = x.toNat) : (s : Int) % 2 = ((b8 x).toNat : Int) := by
  cases x <;> simp [b8] at hs ⊢ <;> omega

theorem rmul_any (A A' : Option Addr) (c c' : Nat) (a b : List UInt8) (w : World) (ha : Lies w w.heap.size A (a.map bv)) (hb : Lies w w.heap.size A' (b.map bv)) (hla : a.length ≤ 10000) (hlb : b.length ≤ 10000) :
    Calls Try.prog 15 #[.slice A a.length c, .slice A' b.length c'] w fun e w' => ∃ A n c L, e = .returned (.slice A n c) ∧
      Holds w' (cv (co a) (co b)) A n c L ∧ Below w.heap.size w w' := by
  have HO : Hid (∀ i, a.length + b.length ≤ i → cv (co a) (co b) i = false) := fun i hi =>
    cv_above (m := a.length) (n := b.length) (fun _ h => co_out h) (fun _ h => co_out h) (by omega)
  obtain ⟨m, hm1, hm2⟩ : ∃ m, m ≤ a.length + b.length ∧ a.length + b.length ≤ m := ⟨_, Nat.le_refl _, Nat.le_refl _⟩
  go_enter Try.func15, Try.ntmps15
  go_wp2
  go_loopw [6, 5] (fun i v wr => ∃ (k : Nat) (A' : Option Addr) (c' : Nat), k ≤ m ∧ i = .int .i64 k ∧ v = .slice A' k c' ∧
      wr.ownsRow w.heap.size 5 1 (.slice A' k c') k ((bits8 (cv (co a) (co b)) k).map bv) ∧ Below w.heap.size w wr) (fun i _ _ => m - (intOf i).toNat)
  case atStart => exact ⟨0, none, 0, Nat.zero_le _, rfl, rfl, own_nil _ _ _, Below.refl _ _⟩
  case round =>
    obtain ⟨i, A2, c2, hi, rfl, rfl, hown, hbk⟩ := hrel
    by_cases hlt : i < m
    · have hsz := Lib.hid hbk.size
      have ha2 := ha.below hbk
      have hb2 := hb.below hbk
      have HS := Lib.hid (bits8_snoc (cv (co a) (co b)) i)
      have HC : Hid (cv (co a) (co b) i = xs (i + 1) fun j => co a j && co b (i - j)) := rfl
      have HX : Hid (∀ k, xs (k + 1) (fun j => co a j && co b (i - j)) = (xs k (fun j => co a j && co b (i - j)) ^^ (co a k && co b (i - k)))) := fun k => rfl
      have HZ : Hid (xs 0 (fun j => co a j && co b (i - j)) = false) := rfl
      have Hown := Lib.hid hown
      have Hbel := Lib.hid hbk
      generalize xs = X at *
      clear hown hbk
      generalize wr = T at *
      have hltI : (i : Int) < (a.length : Int) + (b.length : Int) := by omega
      go_wp2
      go_loopw [8, 7] (fun k v wx => ∃ (q s : Nat), q ≤ i + 1 ∧ k = .int .i64 q ∧ v = .int .i64 s ∧ s ≤ q ∧ Hid (s % 2 = (X q (fun j => co a j && co b (i - j))).toNat) ∧ T = wx) (fun k _ _ => i + 1 - (intOf k).toNat)
      case atStart => exact ⟨0, 0, Nat.zero_le _, rfl, rfl, Nat.le_refl _, by rw [Hid, HZ.out]; rfl, rfl⟩
      case round =>
        obtain ⟨q, s, hq, rfl, rfl, hs1, hs2, rfl⟩ := hrel
        by_cases hlt2 : q ≤ i
        · have hRa := rat_any A c w.heap.size a q T ha2 (by omega)
          have hRb := rat_any A' c' w.heap.size b (i - q) T hb2 (by omega)
          have hj : ((i - q : Nat) : Int) = (i : Int) - (q : Int) := by omega
          rw [hj] at hRb
          have HT : Hid ((s + (co a q && co b (i - q)).toNat) % 2 = (X (q + 1) (fun j => co a j && co b (i - j))).toNat) := by
            rw [Hid, HX.out]
            exact cnt_step hs2.out
          have hmul := and_bits (co a q) (co b (i - q))
          have hle := Bool.toNat_le (co a q && co b (i - q))
          have hm3 : 0 ≤ (((co a q).toNat : Nat) : Int) * (((co b (i - q)).toNat : Nat) : Int) := by rw [hmul]; omega
          have hm4 : (((co a q).toNat : Nat) : Int) * (((co b (i - q)).toNat : Nat) : Int) ≤ 1 := by rw [hmul]; omega
          have HM := Lib.hid hmul
          generalize co a q = x at *
          generalize co b (i - q) = y at *
          clear hmul hj
          go_wp2_with fail
          refine hRa.mono ?_
          rintro e w' ⟨rfl, rfl⟩
          go_wp2_with fail
          refine hRb.mono ?_
          rintro e w' ⟨rfl, rfl⟩
          go_wp2_with fail
          go_roundw
          case rel => exact ⟨q + 1, s + (x && y).toNat, by omega, by go_num, by rw [HM.out]; go_num, by omega, HT.out, trivial⟩
          case measure => simp [intOf]; omega
        · have hqi : q = i + 1 := by omega
          have HV : Hid (s % 2 = (cv (co a) (co b) i).toNat) := by
            rw [Hid, HC.out, ← hqi]
            exact hs2.out
          have HY := Lib.hid (cnt_b8 HV.out)
          clear hqi
          have hown := Hown.out
          have hbk := Hbel.out
          go_wp2_with (at_builtin; refine wpList_append_lies _ rfl (.tmp 34) (.tmp 38) 22 rfl w.heap.size 5 _ 1 Try.underlying22 u8info rfl _ _ _ rfl (hown.alloc _) _ _ 1 1 _ rfl rfl (Lies.new1 _ _ _) (by intro u hu; rw [List.mem_singleton.1 hu]; rfl) (by omega) (by unfold maxLen; omega) (by simp; have := hsz.out; omega) ?_; intro A4 c4 w4 hown4 hgrow4 _)
          have hbel4 := below_own (hbk.alloc hbk.size _) (hown.alloc _) hgrow4 (Nat.le_refl _) (by simp; have := hbk.size; omega)
          have H5 : Hid (w4.ownsRow w.heap.size 5 1 (.slice A4 (i + 1) c4) (i + 1) ((bits8 (cv (co a) (co b)) (i + 1)).map bv)) := by
            rw [Hid, HS.out, List.map_append, List.map_singleton, bv, ← HY.out]
            exact hown4
          clear hown hown4 hgrow4
          go_wp2
          go_roundw
          case rel => exact ⟨i + 1, A4, c4, by omega, by go_num, rfl, H5.out, hbel4⟩
          case measure => simp [intOf]; omega
    · have hkm : i = m := by omega
      have hC := rreduce_row A2 i c2 _ wr (Lies.own hown) (by omega) (fun j hj => HO.out j (by omega))
      clear hown hkm
      go_wp2_with fail
      refine hC.mono ?_
      rintro e w4 ⟨A4, n4, c4, L, rfl, h4, b4⟩
      go_wp2_with fail
      go_ret
      exact ⟨A4, n4, c4, L, rfl, h4, hbk.trans (b4.mono hbk.size)⟩
end Go.Proofs.Ytembggidhmdnfaa
