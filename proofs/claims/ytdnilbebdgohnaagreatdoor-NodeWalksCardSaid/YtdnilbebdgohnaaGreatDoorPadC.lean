/- Layer 3, package pad and its reference: Bytes, for whatever bytes: what is handed back is a new row. -/
import Derived.Laws.CopyOwn
import Derived.Test.YtdnilbebdgohnaaGreatDoorPadB


namespace Go.Proofs.YtdnilbebdgohnaaGreatDoor
open Go.RowKit

/-- a row that fills its block -/
theorem own_whole {w : World} {base e g n : Nat} {xs : List Value} (h : w.ownsRow base e 1 (.slice (some ⟨g, 0, none⟩) n n) n xs) : Whole w g e xs.toArray ∧ base ≤ g := by
  rcases h.2 with ⟨h1, _⟩ | ⟨g', cap, cur, h1, h2, h3, _, _, h6, h7⟩
  · simp at h1
  · simp only [Value.slice.injEq, Option.some.injEq, Addr.mk.injEq, and_true, true_and] at h1
    obtain ⟨rfl, rfl⟩ := h1
    rw [List.take_of_length_le (by simp; omega)] at h7
    subst h7
    exact ⟨h3, h2⟩
theorem whole_own {w : World} {base e g n : Nat} {xs : List Value} (h : Whole w g e xs.toArray) (hb : base ≤ g) (hn : xs.length = n) (hm : n ≤ maxLen) : w.ownsRow base e 1 (.slice (some ⟨g, 0, none⟩) n n) n xs :=
  ⟨by omega, .inr ⟨g, n, xs.toArray, rfl, hb, h, Nat.le_refl _, hm, by simp; omega, by rw [List.take_of_length_le (by simp; omega)]⟩⟩

def padB (b : List UInt8) : List UInt8 := b ++ List.replicate (gap b.length) 0
theorem padB_len (b : List UInt8) : (padB b).length = up b.length := by simp [padB, up]

theorem splice_pad (b : List UInt8) : splice (List.replicate (up b.length) (Value.int .u8 0)) 0 (b.map bv) = (padB b).map bv := by
  simp only [splice, padB, List.take_zero, List.nil_append, List.map_append, List.length_map, Nat.zero_add, List.drop_replicate, List.map_replicate]
  congr 2
  unfold up
  omega

theorem bytes_any (A : Option Addr) (c : Nat) (b : List UInt8) (w : World) (h : Lies w w.heap.size A (b.map bv)) (hn : b.length ≤ 10000000) :
    Calls Tryz.prog 50 #[.slice A b.length c] w fun e w' => ∃ A' c', e = .returned (.slice A' (up b.length) c') ∧
      w'.ownsRow w.heap.size 5 1 (.slice A' (up b.length) c') (up b.length) ((padB b).map bv) ∧ Below w.heap.size w w' := by
  obtain ⟨i0, hi, hz0, hz1, hz2⟩ := info_parts u8info
  have hg := gap_lt b.length
  have hu : up b.length = b.length + gap b.length := rfl
  have hU := up_any b.length (by omega)
  have HS := Lib.hid (splice_pad b)
  have HL := Lib.hid (padB_len b)
  have ho1 := one_bytes b
  have hlen : (b.map bv).length = b.length := by simp
  generalize up b.length = u at *
  generalize b.map bv = cs at *
  have hbu : b.length ≤ u := by omega
  have hu2 : u ≤ 10000003 := by omega
  have hbu' : cs.length = Nat.min b.length u := by rw [hlen]; exact (Nat.min_eq_left hbu).symm
  have hfit : 0 + cs.length ≤ (List.replicate u (Value.int .u8 0)).length := by rw [hlen]; simp; omega
  obtain ⟨zs, hzs⟩ : ∃ zs, zs = List.replicate u (Value.int .u8 0) := ⟨_, rfl⟩
  rw [← hzs] at hfit HS
  have HZ := Lib.hid hzs
  clear hu hg hlen hzs
  have HB := Lib.hid hbu'
  have HF := Lib.hid hfit
  clear hbu' hfit
  go_enter Tryz.func50, Tryz.ntmps50
  go_wp2_with (first
    | (go_at_call 63; refine (hU _).mono ?_; rintro e w' ⟨rfl, rfl⟩)
    | (at_make; refine wpList_make_full _ rfl (.tmp 6) (.tmp 6) 32 rfl w.heap.size 5 i0 _ 1 Tryz.underlying32 hi hz0 hz1 .i64 .i64 _ _ u rfl rfl rfl rfl (by rw [hz2]; omega) (by unfold maxLen; omega) (Nat.le_refl _) ?_; intro w1 hown hgrow; have hb1 : Below w.heap.size w w1 := (Below.refl _ w).grown hgrow (Nat.le_refl _) (by simp); have hl1 := h.below hb1; have hW : w1.heap[w.heap.size]? = some (.cells zs.toArray 5 (0, 0)) := by (have := (own_whole hown).1; rw [HZ.out]; simpa [Whole, toList_madeCells_one, Value.cells] using this))
    | ((with_reducible show wpList _ _ _ (⟨some 10, _, _, _, _, _⟩ :: _) _ _); refine wpList_copy_splice rfl (.tmp 8) (.tmp 9) 32 32 rfl 5 Tryz.underlying32 (by kernel_rfl) _ _ u u _ _ rfl rfl w.heap.size 0 zs 5 hW cs HB.out (fun hp => ⟨rfl, by obtain ⟨ad, e, _, hc⟩ := hl1 (fun e => by rw [e] at hp; simp at hp); exact ⟨ad, e, hc⟩⟩) HF.out ho1 w.heap.size w hb1 (Nat.le_refl _) ?_; intro w2 HG2 hB2))
  go_ret
  refine ⟨_, _, rfl, whole_own ?_ (Nat.le_refl _) (by simpa using HL.out) (by unfold maxLen; omega), hB2⟩
  rw [← HS.out]
  exact HG2.out

end Go.Proofs.YtdnilbebdgohnaaGreatDoor

