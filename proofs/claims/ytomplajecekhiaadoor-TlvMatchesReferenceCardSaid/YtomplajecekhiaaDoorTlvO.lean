/- Layer 6, the reference: Join, for whatever frames. It writes nothing that was there. -/
import Derived.Test.YtomplajecekhiaaDoorTlvM
import Derived.Deep.RegionLaw
import Derived.Deep.AppendLies
namespace Go.Proofs.YtomplajecekhiaaDoor
open Go.RowKit

theorem byte_val {x : Nat} {i : Int} (h : i = ((x % 256 : Nat) : Int)) : Value.int .u8 i = bv (UInt8.ofNat x) := by
  rw [bv, UInt8.toNat_ofNat', h]
theorem headB_list (t : UInt16) (n : Nat) (hn : n ≤ 65531) : headB t n = [UInt8.ofNat (t.toNat / 256), UInt8.ofNat t.toNat, UInt8.ofNat ((4 + n) / 256), UInt8.ofNat (4 + n)] := by
  have ht := t.toNat_lt
  have e1 : (u32of t.toNat).toNat = t.toNat := u32of_toNat (by omega)
  have e2 : (u32of (4 + n)).toNat = 4 + n := u32of_toNat (by omega)
  rw [headB_eq]
  simp [be, List.range, List.range.loop, beByte, e1, e2]
theorem head_vals (t : UInt16) (n : Nat) (hn : n ≤ 65531) : [Value.int .u8 (IntKind.u8.wrap ((t.toNat : Int) / 256)), .int .u8 (IntKind.u8.wrap (t.toNat : Int)),
    .int .u8 (IntKind.u8.wrap (IntKind.i64.wrap (Int.tdiv (4 + (n : Int)) 256))), .int .u8 (IntKind.u8.wrap (Int.tmod (4 + (n : Int)) 256))] = (headB t n).map bv := by
  have d1 : Int.tdiv (4 + (n : Int)) 256 = (((4 + n) / 256 : Nat) : Int) := by rw [Int.tdiv_eq_ediv_of_nonneg (by omega)]; omega
  have d2 : Int.tmod (4 + (n : Int)) 256 = (((4 + n) % 256 : Nat) : Int) := by rw [Int.tmod_eq_emod_of_nonneg (by omega)]; omega
  have v1 : IntKind.u8.wrap ((t.toNat : Int) / 256) = ((t.toNat / 256 % 256 : Nat) : Int) := by rw [IntKind.wrap_u8]; omega
  have v2 : IntKind.u8.wrap (t.toNat : Int) = ((t.toNat % 256 : Nat) : Int) := by rw [IntKind.wrap_u8]; omega
  have v3 : IntKind.u8.wrap (IntKind.i64.wrap (Int.tdiv (4 + (n : Int)) 256)) = (((4 + n) / 256 % 256 : Nat) : Int) := by
    have hq : (4 + n) / 256 ≤ 256 := by omega
    rw [d1]
    clear d1 d2 v1 v2
    generalize (4 + n) / 256 = q at *
    have hw : IntKind.i64.wrap (q : Int) = (q : Int) := by rw [IntKind.wrap_i64]; omega
    rw [hw, IntKind.wrap_u8]
    omega
  have v4 : IntKind.u8.wrap (Int.tmod (4 + (n : Int)) 256) = (((4 + n) % 256 : Nat) : Int) := by rw [d2, IntKind.wrap_u8]; omega
  rw [headB_list t n hn, byte_val v1, byte_val v2, byte_val v3, byte_val v4]
  rfl

set_option maxRecDepth 100000 in
set_option maxHeartbeats 2000000 in
theorem rjoin6_any (A : Option Addr) (c : Nat) (vs : List Value) (fs : List Fr) (w : World) (h : Frames w w.heap.size A vs fs) (hn : fs.length ≤ 100) (hv : ∀ f ∈ fs, f.v.length ≤ 140737488355328) :
    Calls Tryd.prog 16 #[.slice A fs.length c] w (JoinR w fs) := by
  obtain ⟨i0, hi, hz0, hz1, hz2⟩ := info_parts u8info
  go_enter Tryd.func16, Tryd.ntmps16
  go_wp2_with fail
  go_loopw [4, 5] (fun v i wr => ∃ (k : Nat) (A' : Option Addr) (c' : Nat), k ≤ fs.length ∧ i = .int .i64 k ∧ v = .slice A' (jn (fs.take k)).length c' ∧
      wr.ownsRow w.heap.size 5 1 (.slice A' (jn (fs.take k)).length c') (jn (fs.take k)).length ((jn (fs.take k)).map bv) ∧ Below w.heap.size w wr ∧ Hid (∀ f ∈ fs.take k, Fit f) ∧ Hid ((jn (fs.take k)).length ≤ k * 65540))
    (fun _ i _ => fs.length - (intOf i).toNat)
  case atStart => exact ⟨0, none, 0, Nat.zero_le _, rfl, rfl, World.ownsRow_nil _ _ _ _, Below.refl _ _, by simp [Hid], by simp [Hid, jn]⟩
  case round =>
    obtain ⟨k, A2, c2, hk, rfl, rfl, hown, hbel, hfit, hjl⟩ := hrel
    by_cases hlt : k < fs.length
    · obtain ⟨ad, A', c', f, rfl, hb, hf, hc0, hc1, hl, hlc, hcm⟩ := (h.below hbel).at_ hlt
      by_cases hft : Fit f
      · unfold Fit at hft
        have hbnd := hjl.out
        have hRB := rbytes_any A2 c2 (jn (fs.take k)) wr (Lies.own hown) (by omega)
        have HP : Hid ((padB (jn (fs.take k))).length = up (jn (fs.take k)).length) := padB_len _
        go_wp2_with fail
        refine hRB.mono ?_
        rintro e w1 ⟨A3, c3, rfl, own1, b1⟩
        have g0 : w1.cell? (ad.add (k * 2)) = some (.int .u16 (f.t.toNat : Int)) := (b1.cell (p := ad.add (k * 2)) (by rw [blk_add]; have := hbel.size; omega)).trans hc0
        go_wp2_with fail
        have hnew : ∀ j u, ((headB f.t f.v.length).map bv)[j]? = some u → (w1.alloc (.cells #[.int .u8 (IntKind.u8.wrap ((f.t.toNat : Int) / 256)), .int .u8 (IntKind.u8.wrap (f.t.toNat : Int)),
            .int .u8 (IntKind.u8.wrap (IntKind.i64.wrap (Int.tdiv (4 + (f.v.length : Int)) 256))), .int .u8 (IntKind.u8.wrap (Int.tmod (4 + (f.v.length : Int)) 256))] 5)).drew.cell? ((⟨w1.heap.size, 0, none⟩ : Addr).add j) = some u := fun j u hu => by
          rw [← head_vals f.t f.v.length hft] at hu
          rw [add_row]
          refine ((Whole.new w1 5 _).drew.cell j).trans ?_
          simpa using hu
        have HN := Lib.hid hnew
        clear hnew
        have hul : up (jn (fs.take k)).length ≤ 10000000 := by have := gap_lt (jn (fs.take k)).length; unfold up; omega
        have hbw1 : Below w.heap.size w w1 := hbel.trans (b1.mono hbel.size)
        have hw1 := hbw1.size
        have own1b := Lib.hid (own_base own1 hbel.size)
        clear own1
        go_region_law (refine step_append_lies _ rfl (.tmp 24) (.tmp 44) 22 rfl w.heap.size 5 i0 _ 1 1 Tryd.underlying22 hi hz0 hz1 hz2 rfl (by omega) _ _ _ rfl ((own1b.out.alloc _).drew) _ 4 4 ((headB f.t f.v.length).map bv) rfl (by simp [headB_len]) HN.out (one_bytes _) (by omega) (by unfold maxLen; omega) (by omega) (by simp; omega) _ rfl ?_; intro g cap w2 own2 grow2 hblk hglt)
        all_goals
          have hb2 : Below w.heap.size w w2 := (below_drew (hbw1.alloc hw1 _)).grown grow2 (by simp; omega) (fun q e => (own1b.out.lt q e).1)
          obtain ⟨ad2, A5, c5, f5, had, _, hf5, _, q1, ql, qc, _⟩ := (h.below hb2).at_ hlt
          cases had
          have e5 : f5 = f := by have h1 := hf5.out; rw [hf.out] at h1; exact (Option.some.inj h1).symm
          subst e5
          have hz2' := hb2.size
          have own2b := Lib.hid own2
          clear own2 grow2
          go_wp2_with (at_builtin; refine wpList_append_lies _ rfl (.tmp 46) (.tmp 51) 22 rfl w.heap.size 5 _ 1 Tryd.underlying22 u8info rfl _ _ _ rfl own2b.out _ A5 f5.v.length c5 _ rfl (by simp) ql (one_bytes _) (by omega) (by unfold maxLen; omega) (by omega) ?_; intro A6 c6 w6 own6 grow6 _)
          have hb6 : Below w.heap.size w w6 := below_own hb2 own2b.out grow6 (Nat.le_refl _) hb2.size
          have HJ : Hid (jn (fs.take (k + 1)) = padB (jn (fs.take k)) ++ frB f5) := jn_take hf.out
          have HLn : Hid ((jn (fs.take (k + 1))).length = up (jn (fs.take k)).length + 4 + f5.v.length) := by
            rw [Hid, HJ.out, List.length_append, HP.out, frB_len]
            unfold frL
            omega
          have own7 : Hid (w6.ownsRow w.heap.size 5 1 (.slice A6 (jn (fs.take (k + 1))).length c6) (jn (fs.take (k + 1))).length ((jn (fs.take (k + 1))).map bv)) := by
            rw [Hid, HLn.out, HJ.out]
            unfold frB
            rw [List.map_append, List.map_append, ← List.append_assoc]
            exact own6
          have hfit2 : Hid (∀ q ∈ fs.take (k + 1), Fit q) := fun q hq => by
            rw [take_some hf.out] at hq
            rcases List.mem_append.1 hq with h1 | h1
            · exact hfit.out q h1
            · rw [List.mem_singleton.1 h1]; exact hft
          have hbd2 : Hid ((jn (fs.take (k + 1))).length ≤ (k + 1) * 65540) := by
            rw [Hid, HLn.out]
            have := gap_lt (jn (fs.take k)).length
            unfold up
            omega
          clear own6 grow6 own2b
          go_wp2_with fail
          go_roundw
          case rel => exact ⟨k + 1, A6, c6, by omega, by go_num, by rw [HLn.out], own7.out, hb6, hfit2, hbd2⟩
          case measure => simp [intOf]; omega
      · have hbad : Hid (∃ f ∈ fs, ¬ Fit f) := ⟨f, List.mem_of_getElem? hf.out, hft⟩
        unfold Fit at hft
        have hcm' : f.v.length ≤ maxLen := Nat.le_trans hlc hcm
        have hfl : f.v.length ≤ 140737488355328 := hv f (List.mem_of_getElem? hf.out)
        go_wp2_with fail
        go_ret2
        exact ⟨hbel, .inr ⟨hbad.out, rfl⟩⟩
    · obtain rfl : k = fs.length := by omega
      rw [List.take_length] at hown hfit
      have H1 := Lib.hid hown
      clear hown
      go_wp2_with fail
      go_ret2
      exact ⟨hbel, .inl ⟨hfit.out, A2, c2, by rw [List.take_length]; rfl, H1.out⟩⟩
end Go.Proofs.YtomplajecekhiaaDoor
