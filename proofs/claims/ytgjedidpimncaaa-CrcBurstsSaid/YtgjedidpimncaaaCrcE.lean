/- Layer 5, what the statements draw and invert, for whatever bytes. -/
import Derived.Test.YtgjedidpimncaaaCrcD
namespace Go.Proofs.Ytgjedidpimncaaa
open Go.RowKit

theorem rspread_any (z : Int) (n : Nat) (w : World) (hz : 0 ≤ z ∧ z < 18446744073709551616) (hn : n ≤ 10000000) :
    Calls Try.prog 20 #[.int .u64 z, .int .i64 (n : Int)] w fun e w' => ∃ A c l, e = .returned (.slice A n c) ∧ List.length l = n ∧
      w'.ownsRow w.heap.size 5 1 (.slice A n c) n (l.map bv) ∧ Below w.heap.size w w' := by
  obtain ⟨hz0, hz1⟩ := hz
  go_enter Try.func20, Try.ntmps20
  go_wp2
  go_loopw [5, 6, 7] (fun o x i wr => ∃ (k : Nat) (A' : Option Addr) (c' : Nat) (y : Int) (l : List UInt8), k ≤ n ∧ i = .int .i64 k ∧ x = .int .u64 y ∧ 0 ≤ y ∧ y < 18446744073709551616 ∧ l.length = k ∧ o = .slice A' k c' ∧
      wr.ownsRow w.heap.size 5 1 (.slice A' k c') k (l.map bv) ∧ Below w.heap.size w wr) (fun _ _ i _ => n - (intOf i).toNat)
  case atStart => exact ⟨0, none, 0, z, [], Nat.zero_le _, rfl, rfl, hz0, hz1, rfl, rfl, World.ownsRow_nil _ _ _ _, Below.refl _ _⟩
  case round =>
    obtain ⟨k, A2, c2, y, l, hk, rfl, rfl, hy0, hy1, hl, rfl, hown, hbk⟩ := hrel
    by_cases hlt : k < n
    · have hsz := Lib.hid hbk.size
      go_wp2_with (at_builtin; refine wpList_append_lies _ rfl (.tmp 17) (.tmp 21) 24 rfl w.heap.size 5 _ 1 Try.underlying24 u8info rfl _ _ _ rfl (hown.alloc _) _ _ 1 1 _ rfl rfl (Lies.new1 _ _ _) (by intro u hu; rw [List.mem_singleton.1 hu]; rfl) (by omega) (by unfold maxLen; omega) (by simp; have := hsz.out; omega) ?_; intro A4 c4 w4 hown4 hgrow4 _)
      have hbel4 := below_own (hbk.alloc hbk.size _) (hown.alloc _) hgrow4 (Nat.le_refl _) (by simp; have := hbk.size; omega)
      have hy2 : 0 ≤ IntKind.u64.wrap (IntKind.u64.wrap (y * 6364136223846793005) + 1442695040888963407) ∧ IntKind.u64.wrap (IntKind.u64.wrap (y * 6364136223846793005) + 1442695040888963407) < 18446744073709551616 := by
        rw [IntKind.wrap_u64]
        omega
      generalize IntKind.u64.wrap (IntKind.u64.wrap (y * 6364136223846793005) + 1442695040888963407) = y2 at *
      obtain ⟨x, hx⟩ : ∃ x : UInt8, y2 / 8589934592 % 256 = (x.toNat : Int) := ⟨UInt8.ofNat (y2 / 8589934592 % 256).toNat, by rw [UInt8.toNat_ofNat']; omega⟩
      rw [hx] at hown4
      have H5 : Hid (w4.ownsRow w.heap.size 5 1 (.slice A4 (k + 1) c4) (k + 1) ((l ++ [x]).map bv)) := by rw [Hid, List.map_append, List.map_singleton]; exact hown4
      clear hown hown4 hgrow4
      go_wp2
      go_roundw
      case rel => exact ⟨k + 1, A4, c4, y2, l ++ [x], by omega, by go_num, rfl, hy2.1, hy2.2, by simp [hl], rfl, H5.out, hbel4⟩
      case measure => simp [intOf]; omega
    · obtain rfl : k = n := by omega
      have H2 := Lib.hid hown
      clear hown
      go_wp2
      go_ret
      exact ⟨A2, c2, l, rfl, hl, H2.out, hbk⟩

theorem mod8 (bit n p : Nat) (h : p = bit % (8 * n)) : (bit : Int) % (8 * (n : Int)) = (p : Int) := by
  have e8 : ((8 * n : Nat) : Int) = 8 * (n : Int) := by omega
  rw [h, ← e8]
  exact (Int.natCast_emod bit (8 * n)).symm
set_option maxRecDepth 100000 in
theorem flip_any (g c bit : Nat) (base : Nat) (l : List UInt8) (w : World) (hown : w.ownsRow base 5 1 (.slice (some ⟨g, 0, none⟩) l.length c) l.length (l.map bv)) (h0 : 0 < l.length) (hn : l.length ≤ 10000000) (hb : bit < 4294967296) :
    Calls Try.prog 21 #[.slice (some ⟨g, 0, none⟩) l.length c, .int .i64 (bit : Int)] w fun e w' => e = .returned (.slice (some ⟨g, 0, none⟩) l.length c) ∧
      w'.ownsRow base 5 1 (.slice (some ⟨g, 0, none⟩) l.length c) l.length ((flipL l (bit % (8 * l.length))).map bv) ∧ w.grownBy w' (some g) := by
  obtain ⟨p, hp⟩ : ∃ p, p = bit % (8 * l.length) := ⟨_, rfl⟩
  have hp2 := mod8 bit l.length p hp
  have hpl : p < 8 * l.length := by rw [hp]; exact Nat.mod_lt _ (by omega)
  obtain ⟨i, r, hr, hir⟩ : ∃ i r, r < 8 ∧ p = 8 * i + r := ⟨p / 8, p % 8, by omega, by omega⟩
  have hi1 : (p : Int) / 8 = (i : Int) := by omega
  have hi2 : (p : Int) % 8 = (r : Int) := by omega
  have hi3 : p / 8 = i := by omega
  have hi4 : p % 8 = r := by omega
  have hil : i < l.length := by omega
  obtain ⟨x, hx⟩ : ∃ x, l[i]? = some x := ⟨_, List.getElem?_eq_getElem hil⟩
  obtain ⟨g', v, e1, hv, hc, hf, _, _⟩ := own_at hown (k := i) hil
  cases e1
  have hv2 : v = .int .u8 (x.toNat : Int) := by
    have := hv.out
    rw [List.getElem?_map, hx] at this
    exact (Option.some.inj this).symm
  subst hv2
  rw [← hp, flipL_some (x := x) (by rw [hi3]; exact hx), hi3, hi4]
  have HS := Lib.hid (own_store hown i (x ^^^ UInt8.ofNat (2 ^ r)))
  have hX : bits BinOp.xor IntKind.u8 (x.toNat : Int) ((2 : Int) ^ r % 256) = ((x ^^^ UInt8.ofNat (2 ^ r)).toNat : Int) := by
    have e1 : ((2 ^ r % 256 : Nat) : Int) = (2 : Int) ^ r % 256 := by simp
    rw [← xor_u8, UInt8.toNat_ofNat', ← e1]
  clear hp hx hv hi3 hi4 hir hown
  go_enter Try.func21, Try.ntmps21
  go_upto_region 2 with fail
  rw [hp2]
  clear hp2
  generalize hval : ((x ^^^ UInt8.ofNat (2 ^ r)).toNat : Int) = z at *
  go_wp2_with fail
  go_ret
  exact ⟨rfl, HS.out, grown_set _ _ _ _⟩
end Go.Proofs.Ytgjedidpimncaaa
