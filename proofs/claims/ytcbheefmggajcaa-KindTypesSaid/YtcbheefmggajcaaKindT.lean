/- Layer 11: the law KindTypes. -/
import Derived.Test.YtcbheefmggajcaaKindE
import Derived.Test.YtcbheefmggajcaaKindR
import Derived.Test.YtcbheefmggajcaaKindM



namespace Go.Proofs.Ytcbheefmggajcaa
open Go.ChangeShapes Go.WideShapes Go.ChangeAt Go.RowKit


def ktyl (L : List Kd) : List UInt8 := L.map fun f => f.ty
theorem ktys_eq (L : List Kd) : ktys L = (ktyl L).map bv := by simp [ktys, ktyl]

set_option maxRecDepth 100000 in
set_option maxHeartbeats 8000000 in
theorem kltypes_any (at' : UInt8) (w : World) :
    Calls Try.prog 5 #[bv at'] w fun e w' => e = .returned (.bool true) ∧ Below w.heap.size w w' := by
  have hTy := ktypes_any
  have hR := rktab_any
  have hlen : kT.length = 23 := rfl
  have hE := fun A c A' c' B w h h' => same_any A A' c c' B (ktyl kT) (ktyl kT) w h h' (by simp only [ktyl, List.length_map, hlen]; unfold maxLen; omega)
  simp only [show (ktyl kT).length = 23 by rw [ktyl, List.length_map]; exact hlen, ← ktys_eq, decide_true] at hE
  generalize kT = L at *
  obtain ⟨m, hm, e1⟩ : ∃ m : Nat, m < 23 ∧ ((at'.toNat : Int).tmod 23 = (m : Int)) := ⟨at'.toNat % 23, Nat.mod_lt _ (by omega), by rw [Int.tmod_eq_emod_of_nonneg (by omega)]; omega⟩
  have e2 : (at'.toNat : Int) % 23 = (m : Int) := by rw [← e1, Int.tmod_eq_emod_of_nonneg (by omega)]
  have hat : (at'.toNat : Int) < 256 := by have := at'.toNat_lt; omega
  go_enter Try.func5, Try.ntmps5
  go_wp2_with fail
  refine (kawake_any w).mono ?_
  rintro e w1 ⟨rfl, b1⟩
  go_wp2_with fail
  refine (hTy _).mono ?_
  rintro e w2 ⟨A2, c2, rfl, own2, b2⟩
  have hb2 := b1.trans (b2.mono b1.size)
  have hl2 := Lies.own own2
  rw [ktys_eq] at hl2
  obtain ⟨ad, x, rfl, hbl, hx, hc⟩ := hl2.byte (k := m) (by rw [ktyl, List.length_map, hlen]; exact hm)
  have hfar : w1.heap.size ≤ ad.block := (own2.lt ad.block rfl).1
  have hfz : w2.frozen? (ad.add m) = false := by
    rcases own2.2 with ⟨h1, h2⟩ | ⟨g, cap, cur, h1, h2, h3, _⟩
    · cases h1
    · simp only [Value.slice.injEq, Option.some.injEq] at h1
      obtain ⟨rfl, _, _⟩ := h1
      rw [add_row]
      exact frozen_of_row w2 g m _ _ h3
  have hb3 : Below w.heap.size w (w2.setCell (ad.add m) (.int .u8 (((x.toNat : Int) + 1) % 256))) := hb2.setCell (by rw [blk_add]; exact Nat.le_trans b1.size hfar) _
  go_wp2_with fail
  generalize w2.setCell (ad.add m) (.int .u8 (((x.toNat : Int) + 1) % 256)) = w3 at *
  clear own2 hl2 hbl hx hc hfar hfz b2 hb2 e1 e2 hm hat
  refine (hR _).mono ?_
  rintro e w4 ⟨ad4, rfl, _, hl, b4⟩
  have hb4 := hb3.trans (b4.mono hb3.size)
  clear b4 hb3 b1 hR
  have hs4 := hb4.size
  go_wp2_with fail
  go_loopw [4, 6] (fun v i wr => ∃ (k : Nat) (A' : Option Addr) (c' : Nat), k ≤ 23 ∧ i = .int .i64 k ∧ v = .slice A' k c' ∧
      Hid (wr.ownsRow w4.heap.size 5 1 (.slice A' k c') k (ktys (L.take k))) ∧ Below w4.heap.size w4 wr) (fun _ i _ => 23 - (intOf i).toNat)
  case atStart => exact ⟨0, none, 0, Nat.zero_le _, rfl, rfl, World.ownsRow_nil _ _ _ _, Below.refl _ _⟩
  case round =>
    obtain ⟨k, A2, c2, hk, rfl, rfl, hown, hbel⟩ := hrel
    have hsz := hbel.size
    by_cases hlt : k < 23
    · obtain ⟨ad, f, e', hb, hf, hcs, hc0, hc1⟩ := (hl.below hbel).kd (by omega : k < L.length)
      cases e'
      go_wp2_with (first
        | (at_builtin; refine wpList_append_lies _ rfl (.tmp 30) (.tmp 36) 35 rfl w4.heap.size 5 _ 1 Try.underlying35 u8info rfl _ _ _ rfl (hown.out.alloc _) _ _ 1 1 [bv f.ty] rfl rfl (Lies.new1 _ _ _) (by intro u hu; rw [List.mem_singleton.1 hu]; rfl) (by omega) (by unfold maxLen; omega) (by simp; omega) ?_; intro A4 c4 w5 hown4 hgrow4 _))
      have H2 : Hid (w5.ownsRow w4.heap.size 5 1 (.slice A4 (k + 1) c4) (k + 1) (ktys (L.take (k + 1)))) := by
        unfold Hid
        rw [ktys_take hf.out]
        exact hown4
      have hb5 : Below w4.heap.size w4 w5 := (hbel.alloc hsz _).grown hgrow4 (by simp; omega) (fun q e => (hown.out.lt q e).1)
      clear hown4 hgrow4
      go_wp2_with fail
      go_roundw
      case rel => exact ⟨k + 1, A4, c4, by omega, by go_num, rfl, H2, hb5⟩
      case measure => simp [intOf]; omega
    · obtain rfl : k = 23 := by omega
      have HE := Lib.hid (Lies.own hown.out)
      rw [List.take_of_length_le (by omega)] at HE
      clear hown
      have hbw := hb4.trans (hbel.mono hs4)
      go_wp2_with fail
      refine (hTy _).mono ?_
      rintro e w6 ⟨A6, c6, rfl, own6, b6⟩
      have hl7 := Lies.own own6
      have hl6 := (HE.out.below b6).more b6.size
      have hb6 := hbw.trans (b6.mono hbw.size)
      go_wp2_with fail
      refine (hE A6 c6 A2 c2 w6.heap.size w6 hl7 hl6).mono ?_
      rintro e w7 ⟨rfl, q, rfl⟩
      go_wp2_with fail
      go_ret
      exact ⟨rfl, ⟨hb6.os, hb6.tape, hb6.output, hb6.size, hb6.block⟩⟩

theorem law_KindTypes {H : Type} {enc : TypeId × Value → H} {W : World} {base : Nat} {v0 : Value} {d0 : DataW H} {p0 : List MemPlace}
    (o0 : Value.okWide Try.prog W .any base 5 v0) (h0 : DataW.Trod enc Try.prog W 0 (fun _ => true) true 5 v0 d0 p0) (_s0 : Small Try.prog 5 d0) :
    Calls Try.prog 5 #[v0] W fun e w' => e = .returned (.bool true) ∧ Below W.heap.size W w' := by
  obtain ⟨t, rfl, _, _, wt⟩ := open_int Try.underlying5 o0 h0
  rw [bv_of (wf_u8 wt)]
  exact kltypes_any (u8of t.toNat) W
end Go.Proofs.Ytcbheefmggajcaa

