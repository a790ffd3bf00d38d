/- Layer 4, the reference: sums and products, for whatever lists. -/
import Derived.Test.YtgjedidpimncaaaPolyK
namespace Go.Proofs.Ytgjedidpimncaaa
open Go.RowKit

theorem rreduce_row (A : Option Addr) (m c : Nat) (F : Nat → Bool) (w : World) (h : Lies w w.heap.size A ((bits8 F m).map bv)) (hm : m ≤ 100000) (hF : ∀ i, m ≤ i → F i = false) :
    Calls Try.prog 37 #[.slice A m c] w fun e w' => ∃ A n c L, e = .returned (.slice A n c) ∧
      Holds w' F A n c L ∧ Below w.heap.size w w' := by
  have h := rreduce_any A c (bits8 F m) w h (by rw [bits8_len]; exact hm)
  rw [bits8_len] at h
  refine h.mono ?_
  rintro e w' ⟨A', n', c', L, rfl, h1, h2⟩
  refine ⟨A', n', c', L, rfl, ⟨h1.len, h1.cap, h1.can.congr fun i => ?_, h1.lies⟩, h2⟩
  rw [co_bits8]
  by_cases hi : i < m
  · simp [hi]
  · rw [hF i (by omega)]; simp

theorem sum_bits (a b : Bool) : (((a.toNat : Nat) : Int) + ((b.toNat : Nat) : Int)) % 2 = ((b8 (a ^^ b)).toNat : Int) := by cases a <;> cases b <;> rfl

theorem radd_any (A A' : Option Addr) (c c' : Nat) (a b : List UInt8) (w : World) (ha : Lies w w.heap.size A (a.map bv)) (hb : Lies w w.heap.size A' (b.map bv)) (hla : a.length ≤ 10000) (hlb : b.length ≤ 10000) :
    Calls Try.prog 24 #[.slice A a.length c, .slice A' b.length c'] w fun e w' => ∃ A n c L, e = .returned (.slice A n c) ∧
      Holds w' (fun i => co a i ^^ co b i) A n c L ∧ Below w.heap.size w w' := by
  have HO : Hid (∀ i, max a.length b.length ≤ i → (co a i ^^ co b i) = false) := fun i hi => by
    rw [co_out (l := a) (by omega), co_out (l := b) (by omega)]; rfl
  obtain ⟨m, hm⟩ : ∃ m, m = max a.length b.length := ⟨_, rfl⟩
  rw [← hm] at HO
  have hcase : ((a.length < b.length) ∨ (b.length < a.length) ∨ (a.length ≤ b.length ∧ b.length ≤ a.length)) ∧ a.length ≤ m ∧ b.length ≤ m ∧ (m ≤ a.length ∨ m ≤ b.length) := by omega
  clear hm
  obtain ⟨hcase, ham, hbm, hmm⟩ := hcase
  have hm2 : m ≤ 10000 := by omega
  rcases hcase with hab | hab | ⟨hab, hba⟩
  all_goals
    go_enter Try.func24, Try.ntmps24
    go_wp2
    go_loopw [6, 5] (fun i v wr => ∃ (k : Nat) (A' : Option Addr) (c' : Nat), k ≤ m ∧ i = .int .i64 k ∧ v = .slice A' k c' ∧
        wr.ownsRow w.heap.size 5 1 (.slice A' k c') k ((bits8 (fun i => co a i ^^ co b i) k).map bv) ∧ Below w.heap.size w wr) (fun i _ _ => m - (intOf i).toNat)
    case atStart => exact ⟨0, none, 0, Nat.zero_le _, rfl, rfl, own_nil _ _ _, Below.refl _ _⟩
    case round =>
      obtain ⟨k, A2, c2, hk, rfl, rfl, hown, hbk⟩ := hrel
      by_cases hlt : k < m
      · have HS := Lib.hid (bits8_snoc (fun i => co a i ^^ co b i) k)
        have HY := Lib.hid (sum_bits (co a k) (co b k))
        have hsz := Lib.hid hbk.size
        have hRa := rat_any A c w.heap.size a k wr (ha.below hbk) (by omega)
        have hRb := rat_any A' c' w.heap.size b k wr (hb.below hbk) (by omega)
        have ht1 := Bool.toNat_le (co a k)
        have ht2 := Bool.toNat_le (co b k)
        go_wp2_with fail
        refine hRa.mono ?_
        rintro e w' ⟨rfl, rfl⟩
        go_wp2_with fail
        refine hRb.mono ?_
        rintro e w' ⟨rfl, rfl⟩
        go_wp2_with (at_builtin; refine wpList_append_lies _ rfl (.tmp 16) (.tmp 26) 24 rfl w.heap.size 5 _ 1 Try.underlying24 u8info rfl _ _ _ rfl (hown.alloc _) _ _ 1 1 _ rfl rfl (Lies.new1 _ _ _) (by intro u hu; rw [List.mem_singleton.1 hu]; rfl) (by omega) (by unfold maxLen; omega) (by simp; have := hsz.out; omega) ?_; intro A4 c4 w4 hown4 hgrow4 _)
        have hbel4 := below_own (hbk.alloc hbk.size _) (hown.alloc _) hgrow4 (Nat.le_refl _) (by simp; have := hbk.size; omega)
        have H5 : Hid (w4.ownsRow w.heap.size 5 1 (.slice A4 (k + 1) c4) (k + 1) ((bits8 (fun i => co a i ^^ co b i) (k + 1)).map bv)) := by
          rw [Hid, HS.out, List.map_append, List.map_singleton, bv, ← HY.out]
          exact hown4
        clear hown hown4 hgrow4
        go_wp2
        go_roundw
        case rel => exact ⟨k + 1, A4, c4, by omega, by go_num, rfl, H5.out, hbel4⟩
        case measure => simp [intOf]; omega
      · have hkm : k = m := by omega
        have hC := rreduce_row A2 k c2 _ wr (Lies.own hown) (by omega) (fun i hi => HO.out i (by omega))
        clear hown hkm
        go_wp2_with fail
        refine hC.mono ?_
        rintro e w4 ⟨A4, n4, c4, L, rfl, h4, b4⟩
        go_wp2_with fail
        go_ret
        exact ⟨A4, n4, c4, L, rfl, h4, hbk.trans (b4.mono hbk.size)⟩
end Go.Proofs.Ytgjedidpimncaaa
