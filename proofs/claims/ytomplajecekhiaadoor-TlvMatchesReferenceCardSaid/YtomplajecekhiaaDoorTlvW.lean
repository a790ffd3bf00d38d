/- Layer 6: the law TlvMatchesReference. -/
import Derived.Test.YtomplajecekhiaaDoorTlvV
import Derived.Test.YtomplajecekhiaaDoorTlvT
namespace Go.Proofs.YtomplajecekhiaaDoor
open Go.ChangeShapes Go.WideShapes Go.ChangeAt Go.RowKit

theorem spl_code {b : List UInt8} {code k : Nat} (h : spl b = .bad code k) : code ≠ 0 := by
  unfold spl at h
  split at h
  · cases h
  · split at h <;> (simp only [Out.bad.injEq] at h; omega)
theorem jn_many (fs : List Fr) : 4 * fs.length ≤ (jn fs).length := by
  have h : ∀ (fs : List Fr) (out : List UInt8), out.length + 4 * fs.length ≤ (fs.foldl (fun out f => padB out ++ frB f) out).length := by
    intro fs
    induction fs with
    | nil => intro out; exact Nat.le_refl _
    | cons f fs ih =>
      intro out
      have h1 := ih (padB out ++ frB f)
      rw [List.length_append, padB_len, frB_len] at h1
      have h2 : out.length ≤ up out.length := by unfold up; omega
      have h3 : 4 ≤ frL f := by unfold frL; omega
      rw [List.length_cons]
      show _ ≤ (fs.foldl (fun out f => padB out ++ frB f) (padB out ++ frB f)).length
      omega
  have := h fs []
  simp only [List.length_nil, Nat.zero_add] at this
  exact this
set_option maxRecDepth 100000 in
set_option maxHeartbeats 8000000 in
theorem tmatches_any (A : Option Addr) (c : Nat) (b : List UInt8) (w : World) (h : Lies w w.heap.size A (b.map bv)) (hc : b.length ≤ c) (hm : c ≤ maxLen) (hh : Handle w) :
    Calls Tryd.prog 3 #[.slice A b.length c] w fun e w' => e = .returned (.bool true) ∧ Below w.heap.size w w' := by
  by_cases hbig : 2000 < b.length
  · have hbig' : (2000 : Int) < (b.length : Int) := by omega
    go_enter Tryd.func3, Tryd.ntmps3
    go_wp2_with fail
    refine (awake_any w hh).mono ?_
    rintro e w1 ⟨rfl, b1⟩
    go_wp2_with fail
    refine (awake_any w1 (hh.below b1 hh.lt)).mono ?_
    rintro e w2 ⟨rfl, b2⟩
    go_wp2_with fail
    go_ret
    exact ⟨rfl, b1.trans (b2.mono b1.size)⟩
  · have hle : (b.length : Int) ≤ 2000 := by omega
    cases ho : spl b with
    | bad code k =>
      have hcode := spl_code ho
      go_enter Tryd.func3, Tryd.ntmps3
      go_wp2_with fail
      refine (awake_any w hh).mono ?_
      rintro e w1 ⟨rfl, b1⟩
      have hS := split_any A c b w1 ((h.below b1).more b1.size) hc hm (by omega)
      rw [ho] at hS
      go_wp2_with fail
      refine hS.mono ?_
      rintro e w2 ⟨b2, rfl⟩
      have hB2 := b1.trans (b2.mono b1.size)
      have hR := rsplit_any A c b w2 ((h.below hB2).more hB2.size) hc hm (by omega)
      rw [ho] at hR
      clear hS
      go_wp2_with fail
      refine hR.mono ?_
      rintro e w3 ⟨b3, A1, n1, c1, A2, n2, c2, rfl⟩
      have hB3 := hB2.trans (b3.mono hB2.size)
      have hc0 : ((code : Int) != 0) = true := by rw [bne_iff_ne]; omega
      have hbx := Whole.new w3 32 #[.slice A1 n1 c1, .slice A2 n2 c2, .int .i64 (code : Int), .int .i64 (k : Int)]
      have hB4 := hB3.alloc hB3.size (.cells #[.slice A1 n1 c1, .slice A2 n2 c2, .int .i64 (code : Int), .int .i64 (k : Int)] 32)
      have hT := told_same code k hcode _ (hh.below hB4 hh.lt)
      have hcz : ((code : Int) == 0) = false := by rw [beq_eq_false_iff_ne]; omega
      clear hR
      go_wp2_with fail
      refine hT.mono ?_
      rintro e w4 ⟨rfl, b4⟩
      have hbx4 := hbx.below b4 (by rw [World.size_alloc]; omega)
      have m2 := hbx4.cell 2
      simp only [List.getElem?_toArray, List.getElem?_cons_zero, List.getElem?_cons_succ] at m2
      have hB5 := hB4.trans (b4.mono hB4.size)
      clear hT hbx
      go_wp2_with fail
      go_ret
      exact ⟨by simp, hB5⟩
    | ok fs =>
      obtain ⟨hjn, hfit⟩ := spl_back ho
      have hfl := jn_many fs
      rw [hjn] at hfl
      go_enter Tryd.func3, Tryd.ntmps3
      go_wp2_with fail
      refine (awake_any w hh).mono ?_
      rintro e w1 ⟨rfl, b1⟩
      have hS := split_any A c b w1 ((h.below b1).more b1.size) hc hm (by omega)
      rw [ho] at hS
      go_wp2_with fail
      refine hS.mono ?_
      rintro e w2 ⟨b2, A7, c7, vs, rfl, F7, hc7, hm7⟩
      have hB2 := b1.trans (b2.mono b1.size)
      have hR := rsplit_any A c b w2 ((h.below hB2).more hB2.size) hc hm (by omega)
      rw [ho] at hR
      clear hS
      go_wp2_with fail
      refine hR.mono ?_
      rintro e w3 ⟨b3, A1, c1, A2, n2, c2, us, rfl, F3⟩
      have hB3 := hB2.trans (b3.mono hB2.size)
      have hbx := Whole.new w3 32 #[.slice A1 fs.length c1, .slice A2 n2 c2, .int .i64 0, .int .i64 0]
      have hB4 := hB3.alloc hB3.size (.cells #[.slice A1 fs.length c1, .slice A2 n2 c2, .int .i64 0, .int .i64 0] 32)
      have b34 : Below w3.heap.size w3 (w3.alloc (.cells #[.slice A1 fs.length c1, .slice A2 n2 c2, .int .i64 0, .int .i64 0] 32)) := (Below.refl _ w3).alloc (Nat.le_refl _) _
      have F4 := F3.below b34
      have G4 := (F7.below b3).below (b34.mono b3.size)
      clear hR
      go_wp2_with fail
      refine (told_zero 0 _).mono ?_
      rintro e w4 ⟨rfl, rfl⟩
      have m0 := hbx.cell 0
      have m2 := hbx.cell 2
      simp only [List.getElem?_toArray, List.getElem?_cons_zero, List.getElem?_cons_succ] at m0 m2
      have hz4 : w3.heap.size < (w3.alloc (.cells #[.slice A1 fs.length c1, .slice A2 n2 c2, .int .i64 0, .int .i64 0] 32)).heap.size := by rw [World.size_alloc]; omega
      have hz24 : w2.heap.size ≤ w3.heap.size := b3.size
      generalize w3.alloc (.cells #[.slice A1 fs.length c1, .slice A2 n2 c2, .int .i64 0, .int .i64 0] 32) = w4 at *
      have hJ := tjoin_any A7 c7 vs fs w4 (G4.more (by omega)) (by omega)
      go_wp2_with fail
      refine hJ.mono ?_
      rintro e w5 ⟨b5, ⟨_, A5, c5, rfl, own5⟩ | ⟨⟨q, hq, hbad⟩, _⟩⟩
      rotate_left
      · exact absurd (hfit q hq) hbad
      have hB5 := hB4.trans (b5.mono hB4.size)
      have hbx5 := hbx.below b5 hz4
      rw [hjn] at own5
      have m05 := hbx5.cell 0
      simp only [List.getElem?_toArray, List.getElem?_cons_zero] at m05
      have hz5 := b5.size
      have G5 : Frames w5 w5.heap.size A7 vs fs := (G4.below (b5.mono (by omega))).more (by omega)
      have F5 : Frames w5 w5.heap.size A1 us fs := (F4.below (b5.mono (by omega))).more (by omega)
      have hBk : ∀ W, Below w5.heap.size w5 W → Calls Tryd.prog 12 #[.slice A7 fs.length c7] W (fun e w' => ∃ A' c', e = .returned (.slice A' fs.length c') ∧ Frames w' w'.heap.size A' vs fs ∧ fs.length ≤ c' ∧ c' ≤ maxLen ∧ Below W.heap.size W w') :=
        fun W hW => back_any A7 c7 vs fs W ((G5.below hW).more hW.size) (by omega)
      have hSm : ∀ W A8 c8, Frames W W.heap.size A8 vs fs → Below w5.heap.size w5 W → Calls Tryd.prog 11 #[.slice A8 fs.length c8, .slice A1 fs.length c1] W (fun e w' => e = .returned (.bool true) ∧ Below W.heap.size W w') :=
        fun W A8 c8 F8 hW => rsame6_eq A8 A1 c8 c1 W.heap.size w5.heap.size vs us fs W F8 (F5.below hW) (Nat.le_refl _) hW.size (by omega) (fun f hf => by have := hfit f hf; unfold Fit at this; omega)
      have hLo : Lies w5 w5.heap.size A5 (b.map bv) := Lies.own own5
      have hLb : Lies w5 w5.heap.size A (b.map bv) := (h.below hB5).more hB5.size
      have hSb : ∀ W, Below w5.heap.size w5 W → Calls Tryd.prog 13 #[.slice A5 b.length c5, .slice A b.length c] W (fun e w' => e = .returned (.bool true) ∧ ∃ q, w' = W.drewN q) := fun W hW => by
        have h1 := same_any A5 A c5 c w5.heap.size b b W (hLo.below hW) (hLb.below hW) (by unfold maxLen; omega)
        simpa only [decide_true] using h1
      have HBk := Lib.hid hBk
      have HSm := Lib.hid hSm
      have HSb := Lib.hid hSb
      have hz35 : w3.heap.size < w5.heap.size := by omega
      clear hJ hBk hSm hSb hLo hLb own5 hfit ho h F7 F3 F4 G4 G5 F5 hbx hbx5 m0 m2 b1 b2 b3 b34 b5 hB2 hB3 hB4
      generalize w3.heap.size = g3 at *
      go_wp2_with fail
      go_region_held3 (fun W => W.cell? ⟨g3, 0, none⟩ = some (.slice A1 fs.length c1)) (first | exact m05 | exact d0 | exact d1 | go_keep) (first | (go_at_call 12; refine (HBk.out _ (by first | exact Below.refl _ _ | exact below_drew (Below.refl _ _))).mono ?_; rintro e w6 ⟨A8, c8, rfl, F8, _, _, b8⟩; have d0 : w6.cell? ⟨g3, 0, none⟩ = some (.slice A1 fs.length c1) := (b8.cell (p := ⟨g3, 0, none⟩) hz35).trans m05; have hB6 := below_undrew b8) | (go_at_call 11; refine (HSm.out w6 _ _ F8 hB6).mono ?_; rintro e w7 ⟨rfl, b9⟩; have d1 : w7.cell? ⟨g3, 0, none⟩ = some (.slice A1 fs.length c1) := (b9.cell (p := ⟨g3, 0, none⟩) (Nat.lt_of_lt_of_le hz35 hB6.size)).trans d0; have hB7 := hB6.trans (b9.mono hB6.size)) | (go_at_call 13; refine (HSb.out w7 hB7).mono ?_; rintro e w8 ⟨rfl, q, rfl⟩))
      have hE : Below w.heap.size w (w7.drewN q) := below_drewN (hB5.trans (hB7.mono hB5.size)) q
      generalize w7.drewN q = w8 at *
      go_wp2_with fail
      go_ret
      exact ⟨by simp, hE⟩
set_option maxRecDepth 100000 in
theorem law_TlvMatchesReference {H : Type} {enc : TypeId × Value → H} {W : World} {base : Nat} {v0 : Value} {d0 : DataW H} {p0 : List MemPlace}
    (o0 : Value.okWide Tryd.prog W .any base 22 v0) (h0 : DataW.Trod enc Tryd.prog W 0 (fun _ => true) true 22 v0 d0 p0) (_s0 : Small Tryd.prog 22 d0) (hL : laidMetH Tryd.prog laidL W) :
    Calls Tryd.prog 3 #[v0] W fun e w' => e = .returned (.bool true) ∧ Below W.heap.size W w' := by
  obtain ⟨A, n, c, rfl⟩ := okWide_slice Tryd.underlying22 o0
  obtain ⟨fuel, hf⟩ := h0
  obtain ⟨b, rfl, hl, hc, hcm⟩ := open_bytes Tryd.underlying22 Tryd.underlying5 (by kernel_rfl) hf
  exact tmatches_any A c b W hl hc hcm (handle_of_laid hL)
end Go.Proofs.YtomplajecekhiaaDoor
