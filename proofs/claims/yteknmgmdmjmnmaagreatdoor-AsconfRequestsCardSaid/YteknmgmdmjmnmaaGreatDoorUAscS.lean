/- Layer 18: what the laws share; the law AsconfAnswers. They write nothing that was there. -/
import Derived.Test.YteknmgmdmjmnmaaGreatDoorUASL
import Derived.Test.YteknmgmdmjmnmaaGreatDoorUASM
import Derived.Test.YteknmgmdmjmnmaaGreatDoorUAscX
import Derived.Test.YteknmgmdmjmnmaaGreatDoorUSTI
import Derived.Test.YteknmgmdmjmnmaaGreatDoorUWireF
import Derived.Test.YteknmgmdmjmnmaaGreatDoorUChunkT
import Derived.Test.YteknmgmdmjmnmaaGreatDoorUCO
import Derived.Test.YteknmgmdmjmnmaaGreatDoorUChunkX
import Derived.Test.YteknmgmdmjmnmaaGreatDoorUNO
import Derived.BigGuard











namespace Go.Proofs.YteknmgmdmjmnmaaGreatDoor
open Go.ChangeShapes Go.WideShapes Go.ChangeAt Go.RowKit

set_option linter.unusedSimpArgs false
theorem rput1_18 (x : UInt32) (w : World) : Calls Tryz.prog 25 #[.int .i64 4, .slice (some ⟨w.heap.size, 0, none⟩) 1 1] (w.alloc (.cells #[uv x] 22)) fun e w' => ∃ A' c', e = .returned (.slice A' 4 c') ∧ w'.ownsRow w.heap.size 5 1 (.slice A' 4 c') 4 ((be 4 x).map bv) ∧ Below w.heap.size w w' :=
  Calls.mono (rput_any 4 (.inr (.inr rfl)) (some ⟨w.heap.size, 0, none⟩) 1 [x] (w.alloc (.cells #[uv x] 22)) ((Lies.newN w [uv x] _).more (by simp)) (by simp)) fun e w' h => by
    obtain ⟨A', c', he, ho, hb⟩ := h
    rw [puts1_18] at ho
    exact ⟨A', c', he, own_base ho (by simp), ((Below.refl _ w).alloc (Nat.le_refl _) _).trans (hb.mono (by simp))⟩
theorem ckEq_self18 (a : Ck) : ckEq a a = true := by
  unfold ckEq
  rw [beqL_true rfl]
  simp
def ckz18 : Ck := ⟨0, 0, [], []⟩
theorem ckz_chunk {w : World} : Chunk w w.heap.size none 0 none 0 ckz18 := ⟨Lies.nil, Nat.le_refl _, Nat.zero_le _, Nodes.nil _ _ _, Nat.le_refl _, Nat.zero_le _⟩
/-- the zero chunk is the zero chunk -/
theorem cksame_z (w : World) : Calls Tryz.prog 39 #[.agg #[.int .u8 0, .int .u8 0, .slice none 0 0, .slice none 0 0], .agg #[.int .u8 0, .int .u8 0, .slice none 0 0, .slice none 0 0]] w fun e w' => e = .returned (.bool true) ∧ Below w.heap.size w w' := by
  have h := rcsame12 ckz18 ckz18 (Nat.zero_le _) (Nat.zero_le _) (Nat.zero_le _) none 0 none 0 none 0 none 0 w ckz_chunk ckz_chunk
  rw [ckEq_self18] at h
  exact h
/-- a chunk is the same as itself, wherever both lie -/
theorem cksame_self (x : Ck) (hf : CkFine x) (A : Option Addr) (c : Nat) (K : Option Addr) (k : Nat) (A' : Option Addr) (c' : Nat) (K' : Option Addr) (k' : Nat) (w : World) (ha : Chunk w w.heap.size A c K k x) (hb : Chunk w w.heap.size A' c' K' k' x) :
    Calls Tryz.prog 39 #[ckV x A c K k, ckV x A' c' K' k'] w fun e w' => e = .returned (.bool true) ∧ Below w.heap.size w w' := by
  have h := rcsame12 x x (by have := hf.d; unfold maxLen; omega) (by have := hf.ks; omega) (by have := hf.ks; omega) A c K k A' c' K' k' w ha hb
  rw [ckEq_self18] at h
  exact h
theorem serV_be {x : Ck} {s : UInt32} (h : serB x = true) (hd : x.d = be 4 s) : serV x = s := by
  unfold serV
  rw [if_pos h, hd]
  exact numD_be s
theorem serB_ack {x : Ck} (h : x.t = 128) : serB x = ackB x := by
  unfold serB reqB
  rw [decide_eq_false (by rw [h]; decide)]
  simp
theorem serB_req {x : Ck} (h : x.t = 193) : serB x = reqB x := by
  unfold serB ackB
  rw [decide_eq_false (by rw [h]; decide)]
  simp
theorem ckFine_of (t : UInt8) (s : UInt32) (ks : List Nd) (hl : ks.length ≤ 1000) (hf : ∀ n ∈ ks, Fine n) : CkFine ⟨t, 0, be 4 s, ks⟩ := ⟨by show (be 4 s).length ≤ _; rw [be4_len18]; omega, hl, hf⟩
set_option maxRecDepth 100000 in
set_option maxHeartbeats 16000000 in
theorem answers_law18 (s : UInt32) (l : List Nd) (hbl : ∀ n ∈ l, Bnd n) (hgl : l.length ≤ 9223372036854775807) (L : Option Addr) (m : Nat) (w : World) (h : Nodes w w.heap.size L l) (hlm : l.length ≤ m) (hmm : m ≤ maxLen) (hh : Handle w) (hT : Tbl w) :
    Calls Tryz.prog 9 #[uv s, .slice L l.length m] w fun e w' => e = .returned (.bool true) ∧ Below w.heap.size w w' := by
  have HAW := Lib.hid (fun (V : World) (hb : Below w.heap.size w V) => awake18_any V (hh.below hb hh.lt) (hT.below hb))
  have HFL := Lib.hid (fun (V : World) (hb : Below w.heap.size w V) => few_any L m l V (h.on hb) hgl hbl)
  have HFN : Hid (decide (cnt 21 l ≤ 200) = true → CkFine ⟨128, 0, be 4 s, l⟩) := Lib.hid (fun hc => by
    obtain ⟨f1, _, f3⟩ := few_fine 21 l (of_decide_eq_true hc)
    exact ckFine_of 128 s l (by omega) f3)
  have HAN : Hid (decide (cnt 21 l ≤ 200) = true → ∀ V, Below w.heap.size w V → Calls Tryz.prog 40 #[uv s, .slice L l.length m] V (MkK ⟨128, 0, be 4 s, l⟩ (ackB ⟨128, 0, be 4 s, l⟩) V)) := Lib.hid (fun hc V hV => by
    have h1 := answer18_any s l (HFN.out hc) L m V (h.on hV) hlm hmm (hh.below hV hh.lt)
    rw [serB_ack rfl] at h1
    exact h1)
  have HCK : Hid (∀ (V : World) (A' : Option Addr) (c' : Nat), Below w.heap.size w V → Lies V V.heap.size A' ((be 4 s).map bv) → 4 ≤ c' → c' ≤ maxLen → Chunk V V.heap.size A' c' L m ⟨128, 0, be 4 s, l⟩) := Lib.hid (fun V A' c' hV hl h1 h2 => ⟨hl, by show (be 4 s).length ≤ c'; rw [be4_len18]; exact h1, h2, h.on hV, hlm, hmm⟩)
  have HIA : Hid (decide (cnt 21 l ≤ 200) = true → ∀ (V : World) (A' : Option Addr) (c' : Nat), Chunk V V.heap.size A' c' L m ⟨128, 0, be 4 s, l⟩ → Calls Tryz.prog 36 #[.agg #[.int .u8 128, .int .u8 0, .slice A' 4 c', .slice L l.length m]] V fun e w' => e = .returned (.bool (ackB ⟨128, 0, be 4 s, l⟩)) ∧ Below V.heap.size V w') := Lib.hid (fun hc V A' c' hC => rack18_any ⟨128, 0, be 4 s, l⟩ (HFN.out hc) A' c' L m V hC)
  have HSE : Hid (decide (cnt 21 l ≤ 200) = true → ackB ⟨128, 0, be 4 s, l⟩ = true → ∀ (V : World) (A' : Option Addr) (c' : Nat) (K' : Option Addr) (k' : Nat), Below w.heap.size w V → Chunk V V.heap.size A' c' K' k' ⟨128, 0, be 4 s, l⟩ → Calls Tryz.prog 34 #[.agg #[.int .u8 128, .int .u8 0, .slice A' 4 c', .slice K' l.length k']] V fun e w' => e = .returned (.tuple #[uv s, .bool true]) ∧ Below V.heap.size V w') := Lib.hid (fun hc ha V A' c' K' k' hV hC => by
    have h1 := serial18_any ⟨128, 0, be 4 s, l⟩ (HFN.out hc) A' c' K' k' V hC (hh.below hV hh.lt)
    have h2 : serB ⟨128, 0, be 4 s, l⟩ = true := by rw [serB_ack rfl]; exact ha
    rw [serV_be h2 rfl, h2] at h1
    exact h1)
  have HSM : Hid (decide (cnt 21 l ≤ 200) = true → ∀ (V : World) (A' : Option Addr) (c' : Nat) (K' : Option Addr) (k' : Nat) (A2 : Option Addr) (c2 : Nat), Chunk V V.heap.size A' c' K' k' ⟨128, 0, be 4 s, l⟩ → Chunk V V.heap.size A2 c2 L m ⟨128, 0, be 4 s, l⟩ → Calls Tryz.prog 39 #[.agg #[.int .u8 128, .int .u8 0, .slice A' 4 c', .slice K' l.length k'], .agg #[.int .u8 128, .int .u8 0, .slice A2 4 c2, .slice L l.length m]] V fun e w' => e = .returned (.bool true) ∧ Below V.heap.size V w') := Lib.hid (fun hc V A' c' K' k' A2 c2 h1 h2 => cksame_self ⟨128, 0, be 4 s, l⟩ (HFN.out hc) A' c' K' k' A2 c2 L m V h1 h2)
  have HM : Hid (∀ ok V e w', MkK ⟨128, 0, be 4 s, l⟩ ok V e w' → Below V.heap.size V w' ∧
    ((ok = true ∧ ∃ A' c' K' k', e = .returned (.tuple #[.agg #[.int .u8 128, .int .u8 0, .slice A' 4 c', .slice K' l.length k'], .bool true]) ∧ Chunk w' w'.heap.size A' c' K' k' ⟨128, 0, be 4 s, l⟩) ∨ (ok = false ∧ e = .returned (.tuple #[.agg #[.int .u8 0, .int .u8 0, .slice none 0 0, .slice none 0 0], .bool false])))) := Lib.hid (fun ok V e w' hk => by
    cases ok with
    | true => obtain ⟨h1, A', c', K', k', h2, h3⟩ := mkK_yes hk; exact ⟨h1, .inl ⟨rfl, A', c', K', k', h2, h3⟩⟩
    | false => obtain ⟨h1, h2⟩ := mkK_no hk; exact ⟨h1, .inr ⟨rfl, h2⟩⟩)
  clear h hh hT hbl HFN
  generalize ackB ⟨128, 0, be 4 s, l⟩ = ab at *
  generalize decide (cnt 21 l ≤ 200) = fq at *
  generalize hX : (⟨128, 0, be 4 s, l⟩ : Ck) = X at *
  clear hX
  generalize l.length = ll at *
  have b0 := Below.refl w.heap.size w
  have HW0 := Lib.hid (HAW.out w b0)
  go_enter Tryz.func9, Tryz.ntmps9
  go_wp2_with fail
  refine HW0.out.mono ?_
  rintro e w1 ⟨rfl, B1⟩
  have HF1 := Lib.hid (HFL.out w1 B1)
  clear HW0 b0 HFL
  cases fq with
  | false =>
    go_wp2_with fail
    refine HF1.out.mono ?_
    rintro e w2 ⟨rfl, b2⟩
    have B2 := B1.trans (b2.mono B1.size)
    have HW2 := Lib.hid (HAW.out w2 B2)
    clear HF1
    go_wp2_with fail
    refine HW2.out.mono ?_
    rintro e w3 ⟨rfl, b3⟩
    go_wp2_with fail
    go_ret
    exact ⟨rfl, B2.trans (b3.mono B2.size)⟩
  | true =>
    go_wp2_with fail
    refine HF1.out.mono ?_
    rintro e w2 ⟨rfl, b2⟩
    have B2 := B1.trans (b2.mono B1.size)
    have HA2 := Lib.hid (HAN.out (by trivial) w2 B2)
    clear HF1 HAW b2 B1 HAN
    go_wp2_with fail
    refine HA2.out.mono ?_
    intro e w3 hk
    obtain ⟨b3, hk2⟩ := HM.out ab w2 e w3 hk
    have B3 := B2.trans (b3.mono B2.size)
    clear HA2 HM hk b3 B2
    rcases hk2 with ⟨rfl, A3, c3, K3, k3, rfl, C3⟩ | ⟨rfl, rfl⟩
    · go_upto_region 4 with fail
      have b4 : Below w3.heap.size w3 (w3.alloc (.cells #[.int .u8 128, .int .u8 0, .slice A3 4 c3, .slice K3 ll k3] 62)) := (Below.refl _ w3).alloc (Nat.le_refl _) _
      have B4 := B3.trans (b4.mono B3.size)
      have x4 := Whole.new w3 62 #[.int .u8 128, .int .u8 0, .slice A3 4 c3, .slice K3 ll k3]
      have C4 := C3.on b4
      clear C3 B3 b4
      generalize w3.alloc (.cells #[.int .u8 128, .int .u8 0, .slice A3 4 c3, .slice K3 ll k3] 62) = w4 at *
      generalize w3.heap.size = g3 at *
      have HP := Lib.hid (rput1_18 s w4)
      go_wp2_with fail
      refine HP.out.mono ?_
      rintro e w5 ⟨A5, c5, rfl, o5, b5⟩
      have B5 := B4.trans (b5.mono B4.size)
      have x5 := x4.below b5 x4.lt
      have C5 := C4.on b5
      obtain ⟨_, cp1, cp2⟩ := own_cap o5
      have D5 := HCK.out w5 A5 c5 B5 (Lies.own o5) cp1 cp2
      clear HP x4 C4 B4 b5 o5 cp1 cp2 HCK
      go_upto_region 5 with fail
      have b6 : Below w5.heap.size w5 (w5.alloc (.cells #[.int .u8 128, .int .u8 0, .slice A5 4 c5, .slice L ll m] 62)) := (Below.refl _ w5).alloc (Nat.le_refl _) _
      have B6 := B5.trans (b6.mono B5.size)
      have x6 := x5.alloc (.cells #[.int .u8 128, .int .u8 0, .slice A5 4 c5, .slice L ll m] 62)
      have y6 := Whole.new w5 62 #[.int .u8 128, .int .u8 0, .slice A5 4 c5, .slice L ll m]
      have C6 := C5.on b6
      have D6 := D5.on b6
      clear C5 D5 B5 b6 x5
      generalize w5.alloc (.cells #[.int .u8 128, .int .u8 0, .slice A5 4 c5, .slice L ll m] 62) = w6 at *
      generalize w5.heap.size = g5 at *
      have HI := Lib.hid (HIA.out (by trivial) w6 A5 c5 D6)
      obtain ⟨p0, p1, p2, p3⟩ := wh4 y6
      go_wp2_with fail
      refine HI.out.mono ?_
      rintro e w7 ⟨rfl, b7⟩
      have B7 := B6.trans (b7.mono B6.size)
      have x7 := x6.below b7 x6.lt
      have y7 := y6.below b7 y6.lt
      have C7 := C6.on b7
      have D7 := D6.on b7
      clear HI HIA x6 y6 C6 D6 B6 b7 p0 p1 p2 p3
      go_upto_region 7 with fail
      have HS := Lib.hid (HSE.out (by trivial) (by trivial) w7 A3 c3 K3 k3 B7 C7)
      obtain ⟨p0, p1, p2, p3⟩ := wh4 x7
      go_wp2_with fail
      refine HS.out.mono ?_
      rintro e w8 ⟨rfl, b8⟩
      have B8 := B7.trans (b8.mono B7.size)
      have x8 := x7.below b8 x7.lt
      have y8 := y7.below b8 y7.lt
      have C8 := C7.on b8
      have D8 := D7.on b8
      clear HS HSE x7 y7 C7 D7 B7 b8 p0 p1 p2 p3
      go_upto_region 8 with fail
      have HE := Lib.hid (HSM.out (by trivial) w8 A3 c3 K3 k3 A5 c5 C8 D8)
      obtain ⟨p0, p1, p2, p3⟩ := wh4 x8
      obtain ⟨q0, q1, q2, q3⟩ := wh4 y8
      have e1 : ((s.toNat : Int) == (s.toNat : Int)) = true := by simp
      have HB8 := Lib.hid B8
      clear x8 y8 C8 D8 HSM B8
      go_wp2_with fail
      refine HE.out.mono ?_
      rintro e w9 ⟨rfl, b9⟩
      clear HE p0 p1 p2 p3 q0 q1 q2 q3
      go_wp2_with fail
      go_ret
      exact ⟨rfl, HB8.out.trans (b9.mono HB8.out.size)⟩
    · go_upto_region 4 with fail
      have b4 : Below w3.heap.size w3 (w3.alloc (.cells #[.int .u8 0, .int .u8 0, .slice none 0 0, .slice none 0 0] 62)) := (Below.refl _ w3).alloc (Nat.le_refl _) _
      have B4 := B3.trans (b4.mono B3.size)
      have x4 := Whole.new w3 62 #[.int .u8 0, .int .u8 0, .slice none 0 0, .slice none 0 0]
      clear B3 b4 HSE HSM
      generalize w3.alloc (.cells #[.int .u8 0, .int .u8 0, .slice none 0 0, .slice none 0 0] 62) = w4 at *
      generalize w3.heap.size = g3 at *
      have HP := Lib.hid (rput1_18 s w4)
      go_wp2_with fail
      refine HP.out.mono ?_
      rintro e w5 ⟨A5, c5, rfl, o5, b5⟩
      have B5 := B4.trans (b5.mono B4.size)
      have x5 := x4.below b5 x4.lt
      obtain ⟨_, cp1, cp2⟩ := own_cap o5
      have D5 := HCK.out w5 A5 c5 B5 (Lies.own o5) cp1 cp2
      clear HP x4 B4 b5 o5 cp1 cp2 HCK
      go_upto_region 5 with fail
      have b6 : Below w5.heap.size w5 (w5.alloc (.cells #[.int .u8 128, .int .u8 0, .slice A5 4 c5, .slice L ll m] 62)) := (Below.refl _ w5).alloc (Nat.le_refl _) _
      have B6 := B5.trans (b6.mono B5.size)
      have x6 := x5.alloc (.cells #[.int .u8 128, .int .u8 0, .slice A5 4 c5, .slice L ll m] 62)
      have y6 := Whole.new w5 62 #[.int .u8 128, .int .u8 0, .slice A5 4 c5, .slice L ll m]
      have D6 := D5.on b6
      clear D5 B5 b6 x5
      generalize w5.alloc (.cells #[.int .u8 128, .int .u8 0, .slice A5 4 c5, .slice L ll m] 62) = w6 at *
      generalize w5.heap.size = g5 at *
      have HI := Lib.hid (HIA.out (by trivial) w6 A5 c5 D6)
      obtain ⟨p0, p1, p2, p3⟩ := wh4 y6
      go_wp2_with fail
      refine HI.out.mono ?_
      rintro e w7 ⟨rfl, b7⟩
      have B7 := B6.trans (b7.mono B6.size)
      have x7 := x6.below b7 x6.lt
      clear HI HIA x6 y6 D6 B6 b7 p0 p1 p2 p3
      go_upto_region 6 with fail
      have HS := Lib.hid (cksame_z w7)
      obtain ⟨p0, p1, p2, p3⟩ := wh4 x7
      have HB7 := Lib.hid B7
      clear x7 B7
      go_wp2_with fail
      refine HS.out.mono ?_
      rintro e w8 ⟨rfl, b8⟩
      clear HS p0 p1 p2 p3
      go_wp2_with fail
      go_ret
      exact ⟨rfl, HB7.out.trans (b8.mono HB7.out.size)⟩
set_option maxRecDepth 100000 in
theorem law_AsconfAnswers {H : Type} {enc : TypeId × Value → H} {W : World} {base : Nat} {v0 v1 : Value} {d0 d1 : DataW H} {p0 p1 : List MemPlace}
    (o0 : Value.okWide Tryz.prog W .any base 22 v0) (h0 : DataW.Trod enc Tryz.prog W 0 (fun _ => true) true 22 v0 d0 p0) (_s0 : Small Tryz.prog 22 d0)
    (o1 : Value.okWide Tryz.prog W .any base 49 v1) (h1 : DataW.Trod enc Tryz.prog W 0 (fun _ => true) true 49 v1 d1 p1) (s1 : Small Tryz.prog 49 d1) (hL : laidMetH Tryz.prog laid18 W) :
    Calls Tryz.prog 9 #[v0, v1] W fun e w' => e = .returned (.bool true) ∧ Below W.heap.size W w' := by
  obtain ⟨z, rfl, _, _, wz⟩ := open_int Tryz.underlying22 o0 h0
  rw [uv17 (wf_u32 wz)]
  obtain ⟨L, m, l, rfl, h2, h3, h4, h5⟩ := open_nodes o1 h1 s1
  exact answers_law18 _ l h5 (by unfold maxLen at h4; omega) L m W h2 h3 h4 (handle_of18 hL) (tbl_of18 hL)
end Go.Proofs.YteknmgmdmjmnmaaGreatDoor


