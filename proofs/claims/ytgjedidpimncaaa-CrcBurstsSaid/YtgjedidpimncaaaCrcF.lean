/- What package crc calls of the library (Equal, Grow, Concat), and how it divides a packet, for whatever bytes. -/
import Derived.Test.YtgjedidpimncaaaCrcE
import Derived.Test.YtgjedidpimncaaaJoin
import Derived.Lib.AppendZerosOnto
import Derived.Lib.AppendZeros
import Derived.Laws.BytesArg
namespace Go.Proofs.Ytgjedidpimncaaa
open Go.RowKit

/-! ### bytes.Equal -/
theorem nums_of (b : List UInt8) : strOfNums (b.map fun x => (x.toNat : Int)) = ⟨b.toArray⟩ := by
  unfold strOfNums
  congr 1
  rw [List.map_map]
  congr 1
  conv => rhs; rw [← List.map_id b]
  exact List.map_congr_left fun x _ => by simp
theorem conv_lies {P : Program} {w : World} {B : Nat} {A : Option Addr} {b : List UInt8} (c : Nat) (h : Lies w B A (b.map bv)) (src e dst : TypeId)
    (hs : P.underlying src = some (.slice e)) (he : P.underlying e = some (.int .u8)) (hd : P.underlying dst = some .string) :
    (convert src dst (.slice A b.length c)).run P w = .ok (.string ⟨b.toArray⟩) w := by
  rw [run_convert_bytes_string w src dst e A b.length c hs he hd]
  rcases Nat.eq_zero_or_pos b.length with h0 | h0
  · obtain rfl : b = [] := List.eq_nil_of_length_eq_zero h0
    cases A <;> simp [Conv.bytesToString, loadCells]
    all_goals rfl
  · obtain ⟨ad, rfl, _, hc⟩ := h (by intro e; simp at e; subst e; simp at h0)
    have hl : (loadCells ad b.length).run P w = .ok ((b.map fun x => (x.toNat : Int)).map (Value.int .u8)).toArray w := by
      have := run_loadCells_list (P := P) w ad (b.map bv) (fun j v hj => hc j v hj)
      simpa [List.map_map, Function.comp_def, bv] using this
    rw [run_bytesToString w _ b.length c _ hl, foldl_push_bytes]
    have e2 := nums_of b
    unfold strOfNums at e2
    rw [show (ByteArray.empty.data ++ ((b.map fun x => (x.toNat : Int)).map fun n => UInt8.ofNat n.toNat).toArray) = ((b.map fun x => (x.toNat : Int)).map fun n => UInt8.ofNat n.toNat).toArray from (by simp [ByteArray.empty, ByteArray.emptyWithCapacity]; rfl), e2]
theorem equal_any (A A' : Option Addr) (c c' B B' : Nat) (a b : List UInt8) (w : World) (ha : Lies w B A (a.map bv)) (hb : Lies w B' A' (b.map bv)) :
    Calls Try.prog 36 #[.slice A a.length c, .slice A' b.length c'] w fun e w' => e = .returned (.bool (decide (a = b))) ∧ w = w' := by
  have h1 := conv_lies (P := Try.prog) c ha 24 5 9 Try.underlying24 Try.underlying5 Try.underlying9
  have h2 := conv_lies (P := Try.prog) c' hb 24 5 9 Try.underlying24 Try.underlying5 Try.underlying9
  go_enter Try.func36, Try.ntmps36
  go_wp2
  go_ret
  exact ⟨ret_bool (by rw [Bool.eq_iff_iff]; simp), rfl⟩

/-! ### slices.Grow of nothing, slices.Concat -/
theorem own_new (w : World) (cs : Array Value) (G : Nat) (hs : cs.size = G) (hG : G ≤ maxLen) : (w.drew.alloc (.cells cs 5)).ownsRow w.heap.size 5 1 (.slice (some ⟨w.heap.size, 0, none⟩) 0 G) 0 [] :=
  ⟨rfl, .inr ⟨w.heap.size, G, cs, rfl, Nat.le_refl _, heap_alloc_new w.drew _, Nat.zero_le _, hG, by rw [hs, Nat.mul_one], by simp⟩⟩
theorem grow_nil (n : Nat) (w : World) (hn : n ≤ 100000000) :
    Calls Try.prog 46 #[.slice none 0 0, .int .i64 (n : Int)] w fun e w' => ∃ A c, e = .returned (.slice A 0 c) ∧
      w'.ownsRow w.heap.size 5 1 (.slice A 0 c) 0 [] ∧ Below w.heap.size w w' := by
  obtain ⟨i0, hi, hz0, hz1, hz2⟩ := info_parts u8info
  rcases Nat.eq_zero_or_pos n with h0 | h0
  · subst h0
    go_enter Try.func46, Try.ntmps46
    go_wp2
    go_ret
    exact ⟨none, 0, rfl, World.ownsRow_nil _ _ _ _, Below.refl _ _⟩
  · have hrz : ∀ ty, (Builtin.append_ #[24, 3] ty #[.slice none 0 0, .int .i64 (n : Int)]).run Try.prog w =
        .ok (.slice (some ⟨w.heap.size, 0, none⟩) n (grownCap w n 0 5)) (w.drew.alloc (.cells (#[] ++ Builtin.zeroCells (Value.int .u8 0).cells n ++ Builtin.zeroCells (Value.int .u8 0).cells (grownCap w n 0 5 - n)) 5)) := fun ty => by
      have h := Lib.run_append_grow_zeros w 24 3 ty 5 i0 _ .i64 .i64 Try.underlying24 Try.underlying3 hi hz0 none 0 0 [] (run_firstCells_none w.drew i0.size 0 0 0) n h0 (by rw [hz1]; omega) (by omega) (by omega) (by rw [hz2]; omega) (by rw [hz2]; exact growslice_fits (by omega) (by omega))
      rw [Nat.zero_add] at h
      exact h
    have hGn : n ≤ grownCap w n 0 5 := grownCap_ge w _ _ _
    have hGm : grownCap w n 0 5 ≤ maxLen := grownCap_le_maxLen w n 0 5 (by unfold maxLen; omega)
    generalize grownCap w n 0 5 = G at *
    have hG63 : G ≤ 9223372036854775807 := by unfold maxLen at hGm; omega
    have HO := Lib.hid (own_new w (#[] ++ Builtin.zeroCells (Value.int .u8 0).cells n ++ Builtin.zeroCells (Value.int .u8 0).cells (G - n)) G (by simp [Builtin.zeroCells, Value.cells]; omega) hGm)
    have HB : Hid (Below w.heap.size w (w.drew.alloc (.cells (#[] ++ Builtin.zeroCells (Value.int .u8 0).cells n ++ Builtin.zeroCells (Value.int .u8 0).cells (G - n)) 5))) := (below_drewN (Below.refl _ w) 1).alloc (Nat.le_refl _) _
    generalize (Obj.cells (#[] ++ Builtin.zeroCells (Value.int .u8 0).cells n ++ Builtin.zeroCells (Value.int .u8 0).cells (G - n)) 5) = ob at *
    go_enter Try.func46, Try.ntmps46
    go_wp2_with (at_builtin; refine Lib.wpList_append_run _ rfl _ _ _ _ rfl _ _ rfl rfl _ _ (hrz _) ?_)
    go_ret
    exact ⟨_, _, rfl, HO.out, HB.out⟩

theorem concat_any (A : Option Addr) (c : Nat) (vs : List Value) (ps : List (List UInt8)) (w : World) (h : Parts w w.heap.size A vs ps) (hn : ps.length ≤ 1000) (ht : tot ps ≤ 10000000) :
    Calls Try.prog 34 #[.slice A ps.length c] w fun e w' => ∃ A' c', e = .returned (.slice A' (tot ps) c') ∧
      w'.ownsRow w.heap.size 5 1 (.slice A' (tot ps) c') (tot ps) (ps.flatten.map bv) ∧ Below w.heap.size w w' := by
  have HZ : Hid (tot (ps.take 0) = 0) := rfl
  go_enter Try.func34, Try.ntmps34
  go_wp2_with fail
  go_loop [3, 11] (fun v i => ∃ (k : Nat), k ≤ ps.length ∧ i = .int .i64 k ∧ v = .int .i64 (tot (ps.take k) : Nat)) (fun _ i => ps.length - (intOf i).toNat)
  case atStart => exact ⟨0, Nat.zero_le _, rfl, by rw [HZ.out]; rfl⟩
  case round =>
    obtain ⟨k, hk, rfl, rfl⟩ := hrel
    have t1 := tot_le ps k
    have t2 := tot_le ps (k + 1)
    by_cases hlt : k < ps.length
    · obtain ⟨ad, A', c', p, rfl, _, hp, hc0, hlp, hl1, hl2⟩ := h.at_ hlt
      have H2 := Lib.hid (tot_take hp.out)
      have hb1 : tot (ps.take k) + p.length ≤ 10000000 := by have := H2.out; omega
      generalize tot (ps.take k) = t at *
      go_wp2_with fail
      go_round
      case rel => exact ⟨k + 1, by omega, by go_num, by rw [H2.out]; go_num⟩
      case measure => simp [intOf]; omega
    · have e1 : Hid (ps.take k = ps) := List.take_of_length_le (by omega)
      have hG := grow_nil (tot (ps.take k)) w (by omega)
      have HG : Hid (tot (ps.take k) = tot ps) := by rw [e1.out]; rfl
      clear t1 t2
      generalize tot (ps.take k) = t at *
      go_wp2_with fail
      refine hG.mono ?_
      rintro e w1 ⟨A1, c1, rfl, hown1, hb1⟩
      have h1 : Parts w1 w.heap.size A vs ps := h.below hb1
      have HO := Lib.hid hown1
      clear hown1 hG
      go_wp2_with fail
      go_loopw [6, 27] (fun v i wr => ∃ (k : Nat) (A' : Option Addr) (c' : Nat), k ≤ ps.length ∧ i = .int .i64 k ∧ v = .slice A' (tot (ps.take k)) c' ∧
          wr.ownsRow w.heap.size 5 1 (.slice A' (tot (ps.take k)) c') (tot (ps.take k)) ((ps.take k).flatten.map bv) ∧ Below w.heap.size w wr)
        (fun _ i _ => ps.length - (intOf i).toNat)
      case atStart => exact ⟨0, A1, c1, Nat.zero_le _, rfl, rfl, HO.out, hb1⟩
      case round =>
        obtain ⟨k2, A2, c2, hk2, rfl, rfl, hown2, hbel⟩ := hrel
        have t1 := tot_le ps k2
        have t2 := tot_le ps (k2 + 1)
        by_cases hlt2 : k2 < ps.length
        · obtain ⟨ad, A', c', p, rfl, _, hp, hc0, hlp, hl1, hl2⟩ := (h.below hbel).at_ hlt2
          have H2 := Lib.hid (tot_take hp.out)
          have hb1 : tot (ps.take k2) + p.length ≤ 10000000 := by have := H2.out; omega
          go_wp2_with (at_builtin; refine wpList_append_lies _ rfl (.tmp 31) (.tmp 32) 24 rfl w.heap.size 5 _ 1 Try.underlying24 u8info rfl _ _ _ rfl hown2 _ A' p.length c' _ rfl (by simp) hlp (one_bytes p) (by omega) (by unfold maxLen; omega) hbel.size ?_; intro A3 c3 w3 hown3 hgrow3 _)
          have hbel3 := below_own hbel hown2 hgrow3 (Nat.le_refl _) hbel.size
          have hown4 : w3.ownsRow w.heap.size 5 1 (.slice A3 (tot (ps.take (k2 + 1))) c3) (tot (ps.take (k2 + 1))) ((ps.take (k2 + 1)).flatten.map bv) := by
            rw [H2.out, take_some hp.out]
            simpa using hown3
          have H4 := Lib.hid hown4
          clear hown4 hown3 hown2 hgrow3
          go_wp2
          go_roundw
          case rel => exact ⟨k2 + 1, A3, c3, by omega, by go_num, by rw [H2.out], H4.out, hbel3⟩
          case measure => simp [intOf]; omega
        · have e1 : ps.take k2 = ps := List.take_of_length_le (by omega)
          rw [e1] at hown2
          have H5 := Lib.hid hown2
          have H6 := Lib.hid e1
          clear hown2 e1
          go_wp2
          go_ret
          exact ⟨A2, c2, ret_slice (by rw [H6.out]), H5.out, hbel⟩

/-! ### a packet is divided; a word, the lowest byte first -/
theorem results_tmp4 {fn : Func} {t u v x : Tmp} (h : fn.results = #[.tmp t, .tmp u, .tmp v, .tmp x]) (tmps : Array Value) (P : Program) (w : World) :
    (results fn tmps).run P w = .ok (.tuple #[tmps.getD t undef, tmps.getD u undef, tmps.getD v undef, tmps.getD x undef]) w := by
  simp [results, h]
theorem divide_any (A : Option Addr) (c B : Nat) (b : List UInt8) (w : World) (h : Lies w B A (b.map bv)) (h12 : 12 ≤ b.length) (hc : b.length ≤ c) (hcm : c ≤ maxLen) :
    Calls Try.prog 33 #[.slice A b.length c] w fun e w' => ∃ A1 A2 A3, e = .returned (.tuple #[.slice A1 8 8, .slice A2 4 4, .slice A3 (b.length - 12) (b.length - 12), .bool true]) ∧ w = w' ∧
      Lies w B A1 ((b.take 8).map bv) ∧ Lies w B A3 ((b.drop 12).map bv) := by
  unfold maxLen at hcm
  have h1 := h.take 8
  have h3 := h.drop (k := 12) (c := b.length) (by simp)
  obtain ⟨ad, rfl, _, _⟩ := h (by intro e; simp at e; subst e; simp at h12)
  rw [← List.map_take] at h1
  rw [← List.map_drop] at h3
  have h4 : 12 < b.length → Lies w B (some ⟨ad.block, ad.off + 12, none⟩) ((b.drop 12).map bv) := fun hl => by
    rw [if_neg (by omega)] at h3
    have e : ad.add 12 = ⟨ad.block, ad.off + 12, none⟩ := by unfold Addr.add; rw [if_neg (by omega)]
    rw [← e]
    exact h3
  have H1 := Lib.hid h1
  have H4 := Lib.hid h4
  have H5 : Hid (b.length = 12 → (b.drop 12).map bv = []) := fun e => by rw [List.drop_of_length_le (by omega)]; rfl
  clear h1 h3 h4
  have hcase : b.length = 12 ∨ (12 < b.length ∧ ¬ b.length = 12 ∧ ¬ ((b.length : Int) < 12)) := by omega
  generalize (b.take 8).map bv = l1 at *
  generalize (b.drop 12).map bv = l3 at *
  generalize b.length = n at *
  go_enter Try.func33, Try.ntmps33
  rcases hcase with hn | ⟨hn1, hn2, hn3⟩
  · have H6 := Lib.hid (H5.out hn)
    clear H4 H5
    subst hn
    go_wp2
    refine bodyPost_ret (results_tmp4 rfl _ _ _) rfl ?_
    exact ⟨_, _, _, rfl, rfl, H1.out, by rw [H6.out]; exact Lies.nil⟩
  · go_wp2
    refine bodyPost_ret (results_tmp4 rfl _ _ _) rfl ?_
    exact ⟨_, _, _, rfl, rfl, H1.out, H4.out hn1⟩
theorem divide_no (A : Option Addr) (c n : Nat) (w : World) (h12 : n < 12) :
    Calls Try.prog 33 #[.slice A n c] w fun e w' => e = .returned (.tuple #[.slice none 0 0, .slice none 0 0, .slice none 0 0, .bool false]) ∧ w = w' := by
  have h : (n : Int) < 12 := by omega
  go_enter Try.func33, Try.ntmps33
  go_wp2
  refine bodyPost_ret (results_tmp4 rfl _ _ _) rfl ?_
  exact ⟨rfl, rfl⟩
theorem lowest_any (x : Nat) (w : World) (hx : x < 4294967296) :
    Calls Try.prog 35 #[.int .u32 (x : Int)] w fun e w' => e = .returned (.slice (some ⟨w.heap.size, 0, none⟩) 4 4) ∧
      w' = wal w 5 ([fb x 0, fb x 1, fb x 2, fb x 3].map bv) := by
  go_enter Try.func35, Try.ntmps35
  go_wp2
  go_ret
  refine ⟨rfl, ?_⟩
  unfold wal bv
  simp only [List.map_cons, List.map_nil, fb_toNat]
  have e0 : ((x / 256 ^ 0 % 256 : Nat) : Int) = (x : Int) % 256 := by simp
  have e1 : ((x / 256 ^ 1 % 256 : Nat) : Int) = (x : Int) / 256 % 256 := by simp
  have e2 : ((x / 256 ^ 2 % 256 : Nat) : Int) = (x : Int) / 65536 % 256 := by simp
  have e3 : ((x / 256 ^ 3 % 256 : Nat) : Int) = (x : Int) / 16777216 := by
    rw [show (256 : Nat) ^ 3 = 16777216 from rfl]
    omega
  rw [e0, e1, e2, e3]
end Go.Proofs.Ytgjedidpimncaaa
