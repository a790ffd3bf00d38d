/- Layer 6: the law TlvJoins. -/
import Derived.Test.YtomplajecekhiaaDoorTlvR
import Derived.Test.YtomplajecekhiaaDoorTlvO
import Derived.Test.YtomplajecekhiaaDoorTlvL
namespace Go.Proofs.YtomplajecekhiaaDoor
open Go.ChangeShapes Go.WideShapes Go.ChangeAt Go.RowKit

theorem sizes_jn (fs : List Fr) : sizes (fs.map frL) = (jn fs).length := by
  have h : ∀ (fs : List Fr) (out : List UInt8) (s : Nat), out.length = s → (fs.foldl (fun out f => padB out ++ frB f) out).length = (fs.map frL).foldl (fun s n => up s + n) s := by
    intro fs
    induction fs with
    | nil => intro out s h; exact h
    | cons f fs ih =>
      intro out s h
      exact ih _ _ (by rw [List.length_append, padB_len, frB_len, h])
  exact (h fs [] 0 rfl).symm

set_option maxRecDepth 100000 in
set_option maxHeartbeats 8000000 in
theorem tjoins_any (A : Option Addr) (c : Nat) (vs : List Value) (fs : List Fr) (w : World) (h : Frames w w.heap.size A vs fs) (hn : fs.length ≤ maxLen) (hv : ∀ f ∈ fs, f.v.length ≤ 140737488355328) (hh : Handle w) :
    Calls Tryd.prog 4 #[.slice A fs.length c] w fun e w' => e = .returned (.bool true) ∧ Below w.heap.size w w' := by
  have HV := Lib.hid hv
  clear hv
  cases hfew : fewB fs with
  | false =>
    go_enter Tryd.func4, Tryd.ntmps4
    go_wp2_with fail
    refine (awake_any w hh).mono ?_
    rintro e w1 ⟨rfl, b1⟩
    have hF := few_any A c vs fs w1 ((h.below b1).more b1.size) hn HV.out
    rw [hfew] at hF
    clear hfew
    go_wp2_with fail
    refine hF.mono ?_
    rintro e w2 ⟨rfl, b2⟩
    have hB2 := b1.trans (b2.mono b1.size)
    go_wp2_with fail
    refine (awake_any w2 (hh.below hB2 hh.lt)).mono ?_
    rintro e w3 ⟨rfl, b3⟩
    go_wp2_with fail
    go_ret
    exact ⟨rfl, hB2.trans (b3.mono hB2.size)⟩
  | true =>
    have hfw : fs.length ≤ 50 ∧ nsum fs ≤ 140000 := by unfold fewB at hfew; exact of_decide_eq_true hfew
    have h50 := hfw.1
    have hS1 : Small1 fs := fun i f hf => by have := nsum_mem (List.mem_of_getElem? hf); omega
    go_enter Tryd.func4, Tryd.ntmps4
    go_wp2_with fail
    refine (awake_any w hh).mono ?_
    rintro e w1 ⟨rfl, b1⟩
    have hF := few_any A c vs fs w1 ((h.below b1).more b1.size) hn HV.out
    rw [hfew] at hF
    clear hfew hfw
    go_wp2_with fail
    refine hF.mono ?_
    rintro e w2 ⟨rfl, b2⟩
    have hB2 := b1.trans (b2.mono b1.size)
    have hG := given_any A c vs fs w2 ((h.below hB2).more hB2.size) (by omega)
    clear hF
    go_wp2_with fail
    refine hG.mono ?_
    rintro e w3 ⟨A3, c3, rfl, F3, _, _, b3⟩
    have hB3 := hB2.trans (b3.mono hB2.size)
    have hJ := tjoin_any A3 c3 vs fs w3 F3 (by omega)
    clear hG
    go_wp2_with fail
    refine hJ.mono ?_
    rintro e w4 ⟨b4, ⟨hfit, A4, c4, rfl, own4⟩ | ⟨hbad, rfl⟩⟩
    · have hB4 := hB3.trans (b4.mono hB3.size)
      have hR := rjoin6_any A c vs fs w4 ((h.below hB4).more hB4.size) (by omega) HV.out
      clear hJ
      go_wp2_with fail
      refine hR.mono ?_
      rintro e w5 ⟨b5, ⟨_, A5, c5, rfl, own5⟩ | ⟨⟨q, hq, hbad⟩, _⟩⟩
      rotate_left
      · exact absurd (hfit q hq) hbad
      have hB5 := hB4.trans (b5.mono hB4.size)
      have hbd : (jn fs).length ≤ 10000000 := by
        have h1 := pcs_bound hfit
        unfold tot at h1
        rw [pcs_all] at h1
        omega
      have hcap4 := own_cap own4
      have L4 := ((Lies.own own4).below b5).more b5.size
      have L5 := Lies.own own5
      have hSm := same_any A4 A5 c4 c5 w5.heap.size (jn fs) (jn fs) w5 L4 L5 (by unfold maxLen; omega)
      simp only [decide_true] at hSm
      have hSp := spl_jn fs hfit
      have hsz := sizes_jn fs
      clear hR own4 own5
      go_wp2_with fail
      refine hSm.mono ?_
      rintro e w6 ⟨rfl, q, rfl⟩
      have L6 := L4.drewN q
      have hB6 : Below w.heap.size w (w5.drewN q) := below_drewN hB5 q
      have hsp := split_any A4 c4 (jn fs) (w5.drewN q) L6 hcap4.2.1 hcap4.2.2 hbd
      rw [hSp] at hsp
      clear hSm L4 L5
      generalize w5.drewN q = w6 at *
      go_wp2_with fail
      refine hsp.mono ?_
      rintro e w7 ⟨b7, A7, c7, us, rfl, F7, hc7, hm7⟩
      have hB7 := hB6.trans (b7.mono hB6.size)
      have hK := back_any A7 c7 us fs w7 F7 (by omega)
      clear hsp
      go_wp2_with fail
      refine hK.mono ?_
      rintro e w8 ⟨A8, c8, rfl, F8, _, _, b8⟩
      have hB8 := hB7.trans (b8.mono hB7.size)
      have hRS := rsame6_eq A8 A c8 c w8.heap.size w.heap.size us vs fs w8 F8 (h.below hB8) (Nat.le_refl _) hB8.size (by omega) HV.out
      clear hK
      go_wp2_with fail
      refine hRS.mono ?_
      rintro e w9 ⟨rfl, b9⟩
      have hB9 := hB8.trans (b9.mono hB8.size)
      have hG2 := given_any A c vs fs w9 ((h.below hB9).more hB9.size) (by omega)
      clear hRS
      go_wp2_with fail
      refine hG2.mono ?_
      rintro e w10 ⟨A10, c10, rfl, F10, _, _, b10⟩
      have hB10 := hB9.trans (b10.mono hB9.size)
      have hSz := tsize_any A10 c10 vs fs w10 F10 (by omega) hS1
      rw [hsz] at hSz
      clear hG2 hsz
      go_wp2_with fail
      refine hSz.mono ?_
      rintro e w11 ⟨rfl, b11⟩
      go_wp2_with fail
      go_ret
      exact ⟨by simp, hB10.trans (b11.mono hB10.size)⟩
    · have hB4 := hB3.trans (b4.mono hB3.size)
      have hR := rjoin6_any A c vs fs w4 ((h.below hB4).more hB4.size) (by omega) HV.out
      clear hJ
      go_wp2_with fail
      refine hR.mono ?_
      rintro e w5 ⟨b5, ⟨hfit, _⟩ | ⟨_, rfl⟩⟩
      · obtain ⟨q, hq, hb⟩ := hbad
        exact absurd (hfit q hq) hb
      have hB5 := hB4.trans (b5.mono hB4.size)
      have hSm := same_any none none 0 0 0 [] [] w5 Lies.nil Lies.nil (by simp)
      simp only [decide_true] at hSm
      clear hR
      go_wp2_with fail
      refine hSm.mono ?_
      rintro e w6 ⟨rfl, q, rfl⟩
      have hB6 : Below w.heap.size w (w5.drewN q) := below_drewN hB5 q
      generalize w5.drewN q = w6 at *
      go_wp2_with fail
      go_ret
      exact ⟨rfl, hB6⟩
end Go.Proofs.YtomplajecekhiaaDoor
