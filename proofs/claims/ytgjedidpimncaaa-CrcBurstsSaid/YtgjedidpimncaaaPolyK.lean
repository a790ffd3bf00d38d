/- Layer 4, the reference: a coefficient, the reduced list, sums and products, for whatever lists. -/
import Derived.Test.YtgjedidpimncaaaPolyJ
namespace Go.Proofs.Ytgjedidpimncaaa
open Go.RowKit

theorem rat_any (A : Option Addr) (c B : Nat) (l : List UInt8) (i : Nat) (w : World) (h : Lies w B A (l.map bv)) (hi : i ≤ 1000000) :
    Calls Try.prog 38 #[.slice A l.length c, .int .i64 (i : Int)] w fun e w' => e = .returned (.int .i64 ((co l i).toNat : Int)) ∧ w = w' := by
  by_cases hlt : i < l.length
  · obtain ⟨ad, x, rfl, hb, hx, hc⟩ := h.byte hlt
    have HE : Hid ((x.toNat : Int) % 2 = ((co l i).toNat : Int)) := by
      rw [Hid, co_some hx.out]
      unfold odd
      rcases Nat.mod_two_eq_zero_or_one x.toNat with h | h <;> rw [h] <;> simp <;> omega
    have hx8 : x.toNat < 256 := x.toNat_lt
    go_enter Try.func38, Try.ntmps38
    go_wp2
    go_ret
    exact ⟨ret_int HE.out, rfl⟩
  · have HE : Hid (co l i = false) := co_out (by omega)
    have h2 : (l.length : Int) ≤ (i : Int) := by omega
    go_enter Try.func38, Try.ntmps38
    go_wp2
    go_ret
    exact ⟨ret_int (by rw [HE.out]; rfl), rfl⟩

theorem bits8_snoc (f : Nat → Bool) (k : Nat) : bits8 f (k + 1) = bits8 f k ++ [b8 (f k)] := by
  unfold bits8
  rw [List.range_succ, List.map_append]
  rfl

theorem rreduce_any (A : Option Addr) (c : Nat) (l : List UInt8) (w : World) (h : Lies w w.heap.size A (l.map bv)) (hn : l.length ≤ 100000) :
    Calls Try.prog 37 #[.slice A l.length c] w fun e w' => ∃ A' n' c' L, e = .returned (.slice A' n' c') ∧
      Holds w' (co l) A' n' c' L ∧ Below w.heap.size w w' := by
  have HC := Lib.hid (red_can l)
  have HR : Hid (red l = bits8 (co l) (rl l)) := rfl
  have hr := rl_le l
  go_enter Try.func37, Try.ntmps37
  go_wp2
  go_loop [3] (fun i => ∃ m : Nat, m ≤ l.length ∧ i = .int .i64 m ∧ Hid (rl l = top (co l) m)) (fun i => (intOf i).toNat)
  case atStart => exact ⟨l.length, Nat.le_refl _, rfl, rfl⟩
  case round =>
    obtain ⟨m, hm, rfl, ht⟩ := hrel
    by_cases hgo : ∃ j, m = j + 1 ∧ co l j = false
    · obtain ⟨j, rfl, hj⟩ := hgo
      obtain ⟨ad, x, rfl, hb, hx, hc⟩ := h.byte (k := j) (by omega)
      have hodd : odd x = false := by rw [← co_some hx.out, hj]
      have hE : ((x.toNat : Int) % 2 == 0) = true := by
        have := b8_odd x
        rw [hodd] at this
        rw [← this]
        rfl
      have HT : Hid (rl l = top (co l) j) := by rw [Hid, ht.out, top_snoc_down _ _ hj]
      have hidx : ((j + 1 : Nat) : Int) - 1 = (j : Int) := by omega
      clear hodd hj
      go_wp2
      go_round
      case rel => exact ⟨j, by omega, by go_num, HT⟩
      case measure => simp [intOf]
    · have hmr : rl l = m := by
        rw [ht.out]
        cases m with
        | zero => rfl
        | succ j =>
          refine top_hit _ _ ?_
          cases hb : co l j with
          | true => rfl
          | false => exact absurd ⟨j, rfl, hb⟩ hgo
      rw [hmr] at HR
      have HM := Lib.hid hmr
      have HL := Lib.hid (red_len l)
      clear hmr
      have hcase : m ≤ 0 ∨ ∃ (j : Nat) (ad : Addr) (x : UInt8), 0 < m ∧ (m : Int) - 1 = (j : Int) ∧ j < l.length ∧ A = some ad ∧ w.cell? (ad.add j) = some (.int .u8 (x.toNat : Int)) ∧ ((x.toNat : Int) % 2 == 0) = false := by
        cases m with
        | zero => exact .inl (Nat.le_refl _)
        | succ j =>
          obtain ⟨ad, x, rfl, hb, hx, hc⟩ := h.byte (k := j) (by omega)
          refine .inr ⟨j, ad, x, by omega, by omega, by omega, rfl, hc, ?_⟩
          have h1 : odd x = true := by
            rw [← co_some hx.out]
            cases hb : co l j with
            | true => rfl
            | false => exact absurd ⟨j, rfl, hb⟩ hgo
          have h2 := b8_odd x
          rw [h1] at h2
          rw [← h2]
          rfl
      clear hgo ht
      rcases hcase with hm0 | ⟨j, ad, x, hm0, hmj, hjl, rfl, hcx, hE⟩
      all_goals
        go_wp2
        go_loopw [5, 4] (fun i v wr => ∃ (k : Nat) (A' : Option Addr) (c' : Nat), k ≤ m ∧ i = .int .i64 k ∧ v = .slice A' k c' ∧
          wr.ownsRow w.heap.size 5 1 (.slice A' k c') k ((bits8 (co l) k).map bv) ∧ Below w.heap.size w wr) (fun i _ _ => m - (intOf i).toNat)
        case atStart => exact ⟨0, none, 0, Nat.zero_le _, rfl, rfl, own_nil _ _ _, Below.refl _ _⟩
        case round =>
          obtain ⟨k, A2, c2, hk, rfl, rfl, hown, hbk⟩ := hrel
          by_cases hlt : k < m
          · first
              | (exfalso; omega)
              | (obtain ⟨ad2, y, hA, hb, hy, hcy⟩ := (h.below hbk).byte (k := k) (by omega)
                 cases hA
                 have HS : Hid (bits8 (co l) (k + 1) = bits8 (co l) k ++ [b8 (odd y)]) := by rw [Hid, bits8_snoc, co_some hy.out]
                 have HY := Lib.hid (b8_odd y)
                 have hsz := Lib.hid hbk.size
                 go_wp2_with (at_builtin; refine wpList_append_lies _ rfl (.tmp 26) (.tmp 32) 24 rfl w.heap.size 5 _ 1 Try.underlying24 u8info rfl _ _ _ rfl (hown.alloc _) _ _ 1 1 _ rfl rfl (Lies.new1 _ _ _) (by intro u hu; rw [List.mem_singleton.1 hu]; rfl) (by omega) (by unfold maxLen; omega) (by simp; have := hsz.out; omega) ?_; intro A4 c4 w4 hown4 hgrow4 _)
                 have hbel4 := below_own (hbk.alloc hbk.size _) (hown.alloc _) hgrow4 (Nat.le_refl _) (by simp; have := hbk.size; omega)
                 have H5 : Hid (w4.ownsRow w.heap.size 5 1 (.slice A4 (k + 1) c4) (k + 1) ((bits8 (co l) (k + 1)).map bv)) := by
                   rw [Hid, HS.out, List.map_append, List.map_singleton, bv, HY.out]
                   exact hown4
                 clear hown hown4 hgrow4
                 go_wp2
                 go_roundw
                 case rel => exact ⟨k + 1, A4, c4, by omega, by go_num, rfl, H5.out, hbel4⟩
                 case measure => simp [intOf]; omega)
          · have hkm : k = m := by omega
            have H5 : Hid (wr.ownsRow w.heap.size 5 1 (.slice A2 k c2) k ((red l).map bv)) := by
              rw [Hid, HR.out, ← hkm]
              exact hown
            have HK : Hid ((red l).length = k) := by rw [Hid, HL.out, HM.out, hkm]
            clear hown hkm
            go_wp2
            go_ret
            exact ⟨A2, k, c2, red l, rfl, ⟨HK.out, (own_cap H5.out).2.1, HC.out, Lies.own H5.out⟩, hbk⟩
end Go.Proofs.Ytgjedidpimncaaa
