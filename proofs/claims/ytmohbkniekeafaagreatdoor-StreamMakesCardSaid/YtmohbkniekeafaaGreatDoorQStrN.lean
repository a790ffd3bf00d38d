/- Layer 17: the law StreamMakes. It writes nothing that was there. -/
import Derived.Test.YtmohbkniekeafaaGreatDoorQStrL
import Derived.Test.YtmohbkniekeafaaGreatDoorQSTD
import Derived.Test.YtmohbkniekeafaaGreatDoorQCR
import Derived.Test.YtmohbkniekeafaaGreatDoorQCT
import Derived.Test.YtmohbkniekeafaaGreatDoorQCI
import Derived.BigGuard






namespace Go.Proofs.YtmohbkniekeafaaGreatDoor
open Go.ChangeShapes Go.WideShapes Go.ChangeAt Go.RowKit

set_option linter.unusedSimpArgs false
theorem k130 : (kdOf 130).ki = 5 ∧ kc 130 = 1 ∧ (kins 5).2.1 = 1 ∧ (kins 5).2.2 = 2 := by decide +kernel
def oneTwo (l : List Nd) : Bool := decide (l.length = 1) || decide (l.length = 2)
theorem all_any17 : ∀ l : List Nd, (∀ n ∈ l, chk 4 1 n = 0) → (!l.any othB) = l.all seqB
  | [], _ => rfl
  | n :: l, hall => by
    have hn := hall n (by simp)
    rw [List.any_cons, List.all_cons, ← all_any17 l (fun m hm => hall m (by simp [hm]))]
    unfold othB seqB
    rw [hn]
    cases isT n.t <;> simp
theorem rcf_iff (l : List Nd) : rcfB l = ((oneTwo l && l.all seqB) && decide (chkC (rcfC l) = 0)) := by
  by_cases hc : chkC (rcfC l) = 0
  · obtain ⟨_, _, h5, _, _, h6, _⟩ := chk_parts hc
    unfold rcfB
    rw [decide_eq_true hc, Bool.and_true, Bool.and_true]
    have hl : oneTwo l = true := by
      unfold kidB kidP at h5
      simp only [Bool.or_eq_false_iff, decide_eq_false_iff_not] at h5
      obtain ⟨g1, g2, _⟩ := h5
      have e1 : (rcfC l).t = 130 := rfl
      have e2 : (rcfC l).ks = l := rfl
      rw [e1, e2, k130.1] at g1 g2
      rw [k130.2.2.1] at g1
      rw [k130.2.2.2] at g2
      unfold oneTwo
      simp only [Bool.or_eq_true, decide_eq_true_eq]
      omega
    rw [hl, Bool.true_and]
    have hall : ∀ n ∈ l, chk 4 1 n = 0 := fun n hn => by
      have e1 : (rcfC l).t = 130 := rfl
      have e2 : (rcfC l).ks = l := rfl
      rw [e1, e2, k130.2.1] at h6
      unfold chkL at h6
      exact fst0_zero h6 _ (List.mem_map.2 ⟨n, hn, rfl⟩)
    exact all_any17 l hall
  · unfold rcfB
    rw [decide_eq_false hc, Bool.and_false, Bool.and_false]
def fewL (l : List Nd) : Bool := decide (cnt 21 l ≤ 200)
theorem ckEq_self17 (a : Ck) : ckEq a a = true := by
  unfold ckEq
  rw [beqL_true rfl]
  simp
theorem ck_self17 (x : Ck) : ckEq x x = true := ckEq_self17 x
def zC17 : Ck := ⟨0, 0, [], []⟩
theorem zCk17 (w : World) : Chunk w w.heap.size none 0 none 0 zC17 := ⟨Lies.nil, Nat.le_refl _, Nat.zero_le _, Nodes.nil _ _ _, Nat.le_refl _, Nat.zero_le _⟩
theorem same_zero17 (w : World) : Calls Tryz.prog 26 #[.agg #[.int .u8 0, .int .u8 0, .slice none 0 0, .slice none 0 0], .agg #[.int .u8 0, .int .u8 0, .slice none 0 0, .slice none 0 0]] w fun e w' => e = .returned (.bool true) ∧ Below w.heap.size w w' := by
  have h9 := rcsame12 zC17 zC17 (Nat.zero_le _) (Nat.zero_le _) (Nat.zero_le _) none 0 none 0 none 0 none 0 w (zCk17 w) (zCk17 w)
  rw [ck_self17] at h9
  exact h9
theorem take_all17 {l : List Nd} {k : Nat} {n : Nd} (h : l[k]? = some n) : (l.take (k + 1)).all seqB = ((l.take k).all seqB && seqB n) := by
  rw [take_some h, List.all_append]
  simp
set_option maxRecDepth 100000 in
set_option maxHeartbeats 16000000 in
theorem makes_law (l : List Nd) (hb : ∀ n ∈ l, Bnd n) (A : Option Addr) (c : Nat) (w : World) (hn : Nodes w w.heap.size A l) (hc1 : l.length ≤ c) (hc2 : c ≤ maxLen) (hh : Handle w) :
    Calls Tryz.prog 12 #[.slice A l.length c] w fun e w' => e = .returned (.bool true) ∧ Below w.heap.size w w' := by
  have hln : l.length ≤ 9223372036854775807 := by unfold maxLen at hc2; omega
  have HAW := Lib.hid (fun (V : World) (hb : Below w.heap.size w V) => awake17_any V (hh.below hb hh.lt))
  have HFQ : Hid (∀ V, Below w.heap.size w V → Calls Tryz.prog 48 #[.slice A l.length c] V fun e w' => e = .returned (.bool (fewL l)) ∧ Below V.heap.size V w') := Lib.hid (fun V hV => few_any A c l V (hn.on hV) hln hb)
  have HFF : Hid (fewL l = true → l.length ≤ 200 ∧ ∀ x ∈ l, Fine x) := Lib.hid (fun h => ⟨(few_fine 21 l (of_decide_eq_true h)).1, (few_fine 21 l (of_decide_eq_true h)).2.2⟩)
  have HMK : Hid (l.length ≤ 200 → (∀ x ∈ l, Fine x) → ∀ V, Below w.heap.size w V → Calls Tryz.prog 54 #[.slice A l.length c] V (MkC l V)) := Lib.hid (fun h1 h2 V hV => make17_any l (by omega) h2 A c V (hn.on hV) hc1 hc2 (hh.below hV hh.lt))
  have HIS : Hid (∀ (k : Nat) (n : Nd), Hid (l[k]? = some n) → (∀ x ∈ l, Fine x) → ∀ (V : World) (A2 : Option Addr) (c2 : Nat) (K2 : Option Addr) (k2 : Nat), Node V V.heap.size A2 c2 K2 k2 n → Calls Tryz.prog 55 #[.agg #[hv n.t, .slice A2 n.v.length c2, .slice K2 n.ks.length k2]] V fun e w' => e = .returned (.bool (seqB n)) ∧ Below V.heap.size V w') := Lib.hid (fun k n hk hf V A2 c2 K2 k2 h => ris17_any n (hf n (List.mem_of_getElem? hk.out)) A2 c2 K2 k2 V h)
  have HCH : Hid (∀ V, Below w.heap.size w V → Chunk V V.heap.size none 0 A c (rcfC l)) := Lib.hid (fun V hV => ⟨Lies.nil, Nat.le_refl _, Nat.zero_le _, hn.on hV, hc1, hc2⟩)
  have HCK : Hid (l.length ≤ 200 → (∀ x ∈ l, Fine x) → ∀ V, Below w.heap.size w V → Calls Tryz.prog 32 #[.agg #[.int .u8 130, .int .u8 0, .slice none 0 0, .slice A l.length c]] V fun e w' => e = .returned (.int .i64 ((chkC (rcfC l) : Nat) : Int)) ∧ Below V.heap.size V w') := Lib.hid (fun h1 h2 V hV => rcheck12 (rcfC l) ⟨Nat.zero_le _, by show l.length ≤ _; omega, h2⟩ none 0 A c V (HCH.out V hV))
  have HSM : Hid (∀ V (A2 : Option Addr) (c2 : Nat) (K2 : Option Addr) (k2 : Nat), Below w.heap.size w V → Chunk V V.heap.size A2 c2 K2 k2 (rcfC l) → Calls Tryz.prog 26 #[.agg #[.int .u8 130, .int .u8 0, .slice A2 0 c2, .slice K2 l.length k2], .agg #[.int .u8 130, .int .u8 0, .slice none 0 0, .slice A l.length c]] V fun e w' => e = .returned (.bool true) ∧ Below V.heap.size V w') := Lib.hid (fun V A2 c2 K2 k2 hV hC => by
    have h9 := rcsame12 (rcfC l) (rcfC l) (Nat.zero_le _) hln hln A2 c2 K2 k2 none 0 A c V hC (HCH.out V hV)
    rw [ck_self17] at h9
    exact h9)
  have HRB := Lib.hid (rcf_iff l)
  have HNS := Lib.hid (fun (V : World) (hb : Below w.heap.size w V) => hn.on hb)
  have HOT : Hid (oneTwo l = (decide (l.length = 1) || decide (l.length = 2))) := Lib.hid rfl
  have HTK := Lib.hid (fun (k : Nat) (n : Nd) (h : Hid (l[k]? = some n)) => take_all17 h.out)
  have HTA : Hid ((l.take l.length).all seqB = l.all seqB) := Lib.hid (by rw [List.take_length])
  have HT0 : Hid ((l.take 0).all seqB = true) := Lib.hid (by simp)
  clear hn hh hb hc1 hc2
  generalize fewL l = fl at *
  go_enter Tryz.func12, Tryz.ntmps12
  have HW0 := Lib.hid (HAW.out w (Below.refl _ _))
  go_wp2_with fail
  refine HW0.out.mono ?_
  rintro e w1 ⟨rfl, b1⟩
  have B1 := b1
  clear HW0
  have HF1 := Lib.hid (HFQ.out w1 B1)
  clear HFQ
  cases fl with
  | false =>
    clear HCK HSM HMK HIS HFF
    go_wp2_with fail
    refine HF1.out.mono ?_
    rintro e w2 ⟨rfl, b2⟩
    have B2 := B1.trans (b2.mono B1.size)
    have HW2 := Lib.hid (HAW.out w2 B2)
    go_wp2_with fail
    refine HW2.out.mono ?_
    rintro e w3 ⟨rfl, b3⟩
    go_wp2_with fail
    go_ret
    exact ⟨rfl, B2.trans (b3.mono B2.size)⟩
  | true =>
    obtain ⟨hl2, hfi⟩ := HFF.out rfl
    have HFI := Lib.hid hfi
    go_wp2_with fail
    refine HF1.out.mono ?_
    rintro e w2 ⟨rfl, b2⟩
    have B2 := B1.trans (b2.mono B1.size)
    have HM2 := Lib.hid (HMK.out hl2 hfi w2 B2)
    clear HF1 b1 b2 HMK hfi HAW HFF
    go_upto_region 3 with fail
    go_wp2_with fail
    refine HM2.out.mono ?_
    rintro e w3 ⟨b3, h3⟩
    have B3 := B2.trans (b3.mono B2.size)
    clear HM2 B1 B2 b3
    rcases h3 with ⟨hr, A3, c3, K3, k3, rfl, hC3⟩ | ⟨hr, rfl⟩
    · have HRE := Lib.hid hr
      go_upto_region 4 with fail
      have B4 := B3.alloc B3.size (.cells #[.int .u8 130, .int .u8 0, .slice A3 0 c3, .slice K3 l.length k3] 44)
      have x4 := Whole.new w3 44 #[.int .u8 130, .int .u8 0, .slice A3 0 c3, .slice K3 l.length k3]
      have hC4 : Chunk (w3.alloc (.cells #[.int .u8 130, .int .u8 0, .slice A3 0 c3, .slice K3 l.length k3] 44)) (w3.alloc (.cells #[.int .u8 130, .int .u8 0, .slice A3 0 c3, .slice K3 l.length k3] 44)).heap.size A3 c3 K3 k3 (rcfC l) := hC3.on ((Below.refl _ w3).alloc (Nat.le_refl _) _)
      have HC4 := Lib.hid hC4
      clear hC3 hC4
      generalize w3.alloc (.cells #[.int .u8 130, .int .u8 0, .slice A3 0 c3, .slice K3 l.length k3] 44) = w4 at *
      generalize w3.heap.size = g3 at *
      clear B3
      have hlen : (oneTwo l = true ∧ ((l.length : Int) == 1) = true) ∨ (oneTwo l = true ∧ ((l.length : Int) == 1) = false ∧ ((l.length : Int) == 2) = true) ∨ (oneTwo l = false ∧ ((l.length : Int) == 1) = false ∧ ((l.length : Int) == 2) = false) := by
        rw [HOT.out]
        by_cases h1 : l.length = 1
        · exact .inl ⟨by rw [decide_eq_true h1]; rfl, by rw [beq_iff_eq]; omega⟩
        · by_cases h2 : l.length = 2
          · exact .inr (.inl ⟨by rw [decide_eq_true h2, Bool.or_true], by rw [beq_eq_false_iff_ne]; omega, by rw [beq_iff_eq]; omega⟩)
          · exact .inr (.inr ⟨by rw [decide_eq_false h1, decide_eq_false h2]; rfl, by rw [beq_eq_false_iff_ne]; omega, by rw [beq_eq_false_iff_ne]; omega⟩)
      have HX4 := Lib.hid x4
      have HB4 := Lib.hid B4
      have hs4 : w.heap.size ≤ w4.heap.size := B4.size
      clear x4 B4 HOT
      generalize oneTwo l = ot at *
      rcases hlen with ⟨rfl, e1⟩ | ⟨rfl, e1, e2⟩ | ⟨rfl, e1, e2⟩
      · go_upto_region 6 with fail
        clear e1
        (try clear e2)
        go_loopw [5, 6] (fun u i wr => ∃ (k : Nat) (b : Bool), k ≤ l.length ∧ i = .int .i64 (k : Int) ∧ u = .bool b ∧ Hid (b = (true && (l.take k).all seqB)) ∧ Below w4.heap.size w4 wr) (fun _ i _ => l.length - (intOf i).toNat)
        case atStart => exact ⟨0, _, Nat.zero_le _, rfl, rfl, by unfold Hid; rw [HT0.out]; rfl, Below.refl _ _⟩
        case round =>
          obtain ⟨k, b, hk, rfl, rfl, hbk, hbel⟩ := hrel
          have hBW := HB4.out.trans (hbel.mono hs4)
          by_cases hlt : k < l.length
          · obtain ⟨ad, A5, c5, K5, k5, n, rfl, hadb, hn, c0, c1, c2, hN⟩ := (HNS.out wr hBW).at_ hlt
            have hi1 : (k : Int) < (l.length : Int) := by omega
            have HTn := Lib.hid (HTK.out k n hn)
            cases b with
            | false =>
              go_wp2_with fail
              go_roundw
              case rel => exact ⟨k + 1, false, by omega, by go_num, rfl, by
                unfold Hid at hbk ⊢
                rw [HTn.out, ← Bool.and_assoc, ← hbk]; rfl, hbel⟩
              case measure => simp [intOf]; omega
            | true =>
              have HI := Lib.hid (HIS.out k n hn HFI.out wr A5 c5 K5 k5 hN)
              clear hN
              go_wp2_with fail
              refine HI.out.mono ?_
              rintro e w6 ⟨rfl, b6⟩
              have hb6 := hbel.trans (b6.mono hbel.size)
              clear HI b6
              go_wp2_with fail
              go_roundw
              case rel => exact ⟨k + 1, seqB n, by omega, by go_num, rfl, by
                unfold Hid at hbk ⊢
                rw [HTn.out, ← Bool.and_assoc, ← hbk, Bool.true_and], hb6⟩
              case measure => simp [intOf]; omega
          · obtain rfl : k = l.length := by omega
            have hi1 : ¬ (l.length : Int) < (l.length : Int) := by omega
            have hx := HX4.out.below hbel HX4.out.lt
            have hz := hx.lt
            have B7 := hBW.alloc hBW.size (.cells #[.int .u8 130, .int .u8 0, .slice none 0 0, .slice A l.length c] 44)
            have x7 := hx.alloc (.cells #[.int .u8 130, .int .u8 0, .slice none 0 0, .slice A l.length c] 44)
            have y7 := Whole.new wr 44 #[.int .u8 130, .int .u8 0, .slice none 0 0, .slice A l.length c]
            have v7 : Below w4.heap.size w4 (wr.alloc (.cells #[.int .u8 130, .int .u8 0, .slice none 0 0, .slice A l.length c] 44)) := hbel.alloc hbel.size _
            have HBK : Hid (b = (true && l.all seqB)) := by unfold Hid at hbk ⊢; rw [hbk, HTA.out]
            clear hbk hx
            go_upto_region 10 with fail
            generalize wr.alloc (.cells #[.int .u8 130, .int .u8 0, .slice none 0 0, .slice A l.length c] 44) = w7 at *
            generalize wr.heap.size = g7 at *
            clear hbel hBW
            have hb1 : b = true := by
              have h1 := HRB.out
              rw [hr, ← HBK.out] at h1
              cases b with
              | true => rfl
              | false => simp at h1
            have hcz : chkC (rcfC l) = 0 := by
              have h1 := HRB.out
              rw [hr, ← HBK.out, hb1] at h1
              simpa using h1
            subst hb1
            obtain ⟨q0, q1, q2, q3⟩ := wh4 y7
            have HK7 := Lib.hid (HCK.out hl2 HFI.out w7 B7)
            rw [hcz] at HK7
            clear hcz HBK
            go_wp2_with fail
            refine HK7.out.mono ?_
            rintro e w8 ⟨rfl, b8⟩
            have B8 := B7.trans (b8.mono B7.size)
            have x8 := x7.below b8 x7.lt
            have y8 := y7.below b8 y7.lt
            have hC8 := HC4.out.on (v7.trans (b8.mono v7.size))
            have HS8 := Lib.hid (HSM.out w8 A3 c3 K3 k3 B8 hC8)
            clear HK7 q0 q1 q2 q3 x7 y7 v7 b8 hC8
            obtain ⟨q0, q1, q2, q3⟩ := wh4 x8
            obtain ⟨u0, u1, u2, u3⟩ := wh4 y8
            go_wp2_with fail
            refine HS8.out.mono ?_
            rintro e w9 ⟨rfl, b9⟩
            go_wp2_with fail
            go_ret
            exact ⟨rfl, B8.trans (b9.mono B8.size)⟩
      · go_upto_region 6 with fail
        clear e1
        (try clear e2)
        go_loopw [5, 6] (fun u i wr => ∃ (k : Nat) (b : Bool), k ≤ l.length ∧ i = .int .i64 (k : Int) ∧ u = .bool b ∧ Hid (b = (true && (l.take k).all seqB)) ∧ Below w4.heap.size w4 wr) (fun _ i _ => l.length - (intOf i).toNat)
        case atStart => exact ⟨0, _, Nat.zero_le _, rfl, rfl, by unfold Hid; rw [HT0.out]; rfl, Below.refl _ _⟩
        case round =>
          obtain ⟨k, b, hk, rfl, rfl, hbk, hbel⟩ := hrel
          have hBW := HB4.out.trans (hbel.mono hs4)
          by_cases hlt : k < l.length
          · obtain ⟨ad, A5, c5, K5, k5, n, rfl, hadb, hn, c0, c1, c2, hN⟩ := (HNS.out wr hBW).at_ hlt
            have hi1 : (k : Int) < (l.length : Int) := by omega
            have HTn := Lib.hid (HTK.out k n hn)
            cases b with
            | false =>
              go_wp2_with fail
              go_roundw
              case rel => exact ⟨k + 1, false, by omega, by go_num, rfl, by
                unfold Hid at hbk ⊢
                rw [HTn.out, ← Bool.and_assoc, ← hbk]; rfl, hbel⟩
              case measure => simp [intOf]; omega
            | true =>
              have HI := Lib.hid (HIS.out k n hn HFI.out wr A5 c5 K5 k5 hN)
              clear hN
              go_wp2_with fail
              refine HI.out.mono ?_
              rintro e w6 ⟨rfl, b6⟩
              have hb6 := hbel.trans (b6.mono hbel.size)
              clear HI b6
              go_wp2_with fail
              go_roundw
              case rel => exact ⟨k + 1, seqB n, by omega, by go_num, rfl, by
                unfold Hid at hbk ⊢
                rw [HTn.out, ← Bool.and_assoc, ← hbk, Bool.true_and], hb6⟩
              case measure => simp [intOf]; omega
          · obtain rfl : k = l.length := by omega
            have hi1 : ¬ (l.length : Int) < (l.length : Int) := by omega
            have hx := HX4.out.below hbel HX4.out.lt
            have hz := hx.lt
            have B7 := hBW.alloc hBW.size (.cells #[.int .u8 130, .int .u8 0, .slice none 0 0, .slice A l.length c] 44)
            have x7 := hx.alloc (.cells #[.int .u8 130, .int .u8 0, .slice none 0 0, .slice A l.length c] 44)
            have y7 := Whole.new wr 44 #[.int .u8 130, .int .u8 0, .slice none 0 0, .slice A l.length c]
            have v7 : Below w4.heap.size w4 (wr.alloc (.cells #[.int .u8 130, .int .u8 0, .slice none 0 0, .slice A l.length c] 44)) := hbel.alloc hbel.size _
            have HBK : Hid (b = (true && l.all seqB)) := by unfold Hid at hbk ⊢; rw [hbk, HTA.out]
            clear hbk hx
            go_upto_region 10 with fail
            generalize wr.alloc (.cells #[.int .u8 130, .int .u8 0, .slice none 0 0, .slice A l.length c] 44) = w7 at *
            generalize wr.heap.size = g7 at *
            clear hbel hBW
            have hb1 : b = true := by
              have h1 := HRB.out
              rw [hr, ← HBK.out] at h1
              cases b with
              | true => rfl
              | false => simp at h1
            have hcz : chkC (rcfC l) = 0 := by
              have h1 := HRB.out
              rw [hr, ← HBK.out, hb1] at h1
              simpa using h1
            subst hb1
            obtain ⟨q0, q1, q2, q3⟩ := wh4 y7
            have HK7 := Lib.hid (HCK.out hl2 HFI.out w7 B7)
            rw [hcz] at HK7
            clear hcz HBK
            go_wp2_with fail
            refine HK7.out.mono ?_
            rintro e w8 ⟨rfl, b8⟩
            have B8 := B7.trans (b8.mono B7.size)
            have x8 := x7.below b8 x7.lt
            have y8 := y7.below b8 y7.lt
            have hC8 := HC4.out.on (v7.trans (b8.mono v7.size))
            have HS8 := Lib.hid (HSM.out w8 A3 c3 K3 k3 B8 hC8)
            clear HK7 q0 q1 q2 q3 x7 y7 v7 b8 hC8
            obtain ⟨q0, q1, q2, q3⟩ := wh4 x8
            obtain ⟨u0, u1, u2, u3⟩ := wh4 y8
            go_wp2_with fail
            refine HS8.out.mono ?_
            rintro e w9 ⟨rfl, b9⟩
            go_wp2_with fail
            go_ret
            exact ⟨rfl, B8.trans (b9.mono B8.size)⟩
      · go_upto_region 6 with fail
        clear e1
        (try clear e2)
        go_loopw [5, 6] (fun u i wr => ∃ (k : Nat) (b : Bool), k ≤ l.length ∧ i = .int .i64 (k : Int) ∧ u = .bool b ∧ Hid (b = (false && (l.take k).all seqB)) ∧ Below w4.heap.size w4 wr) (fun _ i _ => l.length - (intOf i).toNat)
        case atStart => exact ⟨0, _, Nat.zero_le _, rfl, rfl, by unfold Hid; rw [HT0.out]; rfl, Below.refl _ _⟩
        case round =>
          obtain ⟨k, b, hk, rfl, rfl, hbk, hbel⟩ := hrel
          have hBW := HB4.out.trans (hbel.mono hs4)
          by_cases hlt : k < l.length
          · obtain ⟨ad, A5, c5, K5, k5, n, rfl, hadb, hn, c0, c1, c2, hN⟩ := (HNS.out wr hBW).at_ hlt
            have hi1 : (k : Int) < (l.length : Int) := by omega
            have HTn := Lib.hid (HTK.out k n hn)
            cases b with
            | false =>
              go_wp2_with fail
              go_roundw
              case rel => exact ⟨k + 1, false, by omega, by go_num, rfl, by
                unfold Hid at hbk ⊢
                rw [HTn.out, ← Bool.and_assoc, ← hbk]; rfl, hbel⟩
              case measure => simp [intOf]; omega
            | true =>
              have HI := Lib.hid (HIS.out k n hn HFI.out wr A5 c5 K5 k5 hN)
              clear hN
              go_wp2_with fail
              refine HI.out.mono ?_
              rintro e w6 ⟨rfl, b6⟩
              have hb6 := hbel.trans (b6.mono hbel.size)
              clear HI b6
              go_wp2_with fail
              go_roundw
              case rel => exact ⟨k + 1, seqB n, by omega, by go_num, rfl, by
                unfold Hid at hbk ⊢
                rw [HTn.out, ← Bool.and_assoc, ← hbk, Bool.true_and], hb6⟩
              case measure => simp [intOf]; omega
          · obtain rfl : k = l.length := by omega
            have hi1 : ¬ (l.length : Int) < (l.length : Int) := by omega
            have hx := HX4.out.below hbel HX4.out.lt
            have hz := hx.lt
            have B7 := hBW.alloc hBW.size (.cells #[.int .u8 130, .int .u8 0, .slice none 0 0, .slice A l.length c] 44)
            have x7 := hx.alloc (.cells #[.int .u8 130, .int .u8 0, .slice none 0 0, .slice A l.length c] 44)
            have y7 := Whole.new wr 44 #[.int .u8 130, .int .u8 0, .slice none 0 0, .slice A l.length c]
            have v7 : Below w4.heap.size w4 (wr.alloc (.cells #[.int .u8 130, .int .u8 0, .slice none 0 0, .slice A l.length c] 44)) := hbel.alloc hbel.size _
            have HBK : Hid (b = (false && l.all seqB)) := by unfold Hid at hbk ⊢; rw [hbk, HTA.out]
            clear hbk hx
            go_upto_region 10 with fail
            generalize wr.alloc (.cells #[.int .u8 130, .int .u8 0, .slice none 0 0, .slice A l.length c] 44) = w7 at *
            generalize wr.heap.size = g7 at *
            clear hbel hBW
            have hb1 : b = true := by
              have h1 := HRB.out
              rw [hr, ← HBK.out] at h1
              cases b with
              | true => rfl
              | false => simp at h1
            have hcz : chkC (rcfC l) = 0 := by
              have h1 := HRB.out
              rw [hr, ← HBK.out, hb1] at h1
              simpa using h1
            subst hb1
            obtain ⟨q0, q1, q2, q3⟩ := wh4 y7
            have HK7 := Lib.hid (HCK.out hl2 HFI.out w7 B7)
            rw [hcz] at HK7
            clear hcz HBK
            go_wp2_with fail
            refine HK7.out.mono ?_
            rintro e w8 ⟨rfl, b8⟩
            have B8 := B7.trans (b8.mono B7.size)
            have x8 := x7.below b8 x7.lt
            have y8 := y7.below b8 y7.lt
            have hC8 := HC4.out.on (v7.trans (b8.mono v7.size))
            have HS8 := Lib.hid (HSM.out w8 A3 c3 K3 k3 B8 hC8)
            clear HK7 q0 q1 q2 q3 x7 y7 v7 b8 hC8
            obtain ⟨q0, q1, q2, q3⟩ := wh4 x8
            obtain ⟨u0, u1, u2, u3⟩ := wh4 y8
            go_wp2_with fail
            refine HS8.out.mono ?_
            rintro e w9 ⟨rfl, b9⟩
            go_wp2_with fail
            go_ret
            exact ⟨rfl, B8.trans (b9.mono B8.size)⟩
    · have HRE := Lib.hid hr
      go_upto_region 4 with fail
      have B4 := B3.alloc B3.size (.cells #[.int .u8 0, .int .u8 0, .slice none 0 0, .slice none 0 0] 44)
      have x4 := Whole.new w3 44 #[.int .u8 0, .int .u8 0, .slice none 0 0, .slice none 0 0]
      generalize w3.alloc (.cells #[.int .u8 0, .int .u8 0, .slice none 0 0, .slice none 0 0] 44) = w4 at *
      generalize w3.heap.size = g3 at *
      clear B3
      have hlen : (oneTwo l = true ∧ ((l.length : Int) == 1) = true) ∨ (oneTwo l = true ∧ ((l.length : Int) == 1) = false ∧ ((l.length : Int) == 2) = true) ∨ (oneTwo l = false ∧ ((l.length : Int) == 1) = false ∧ ((l.length : Int) == 2) = false) := by
        rw [HOT.out]
        by_cases h1 : l.length = 1
        · exact .inl ⟨by rw [decide_eq_true h1]; rfl, by rw [beq_iff_eq]; omega⟩
        · by_cases h2 : l.length = 2
          · exact .inr (.inl ⟨by rw [decide_eq_true h2, Bool.or_true], by rw [beq_eq_false_iff_ne]; omega, by rw [beq_iff_eq]; omega⟩)
          · exact .inr (.inr ⟨by rw [decide_eq_false h1, decide_eq_false h2]; rfl, by rw [beq_eq_false_iff_ne]; omega, by rw [beq_eq_false_iff_ne]; omega⟩)
      have HX4 := Lib.hid x4
      have HB4 := Lib.hid B4
      have hs4 : w.heap.size ≤ w4.heap.size := B4.size
      clear x4 B4 HOT
      generalize oneTwo l = ot at *
      rcases hlen with ⟨rfl, e1⟩ | ⟨rfl, e1, e2⟩ | ⟨rfl, e1, e2⟩
      · go_upto_region 6 with fail
        clear e1
        (try clear e2)
        go_loopw [5, 6] (fun u i wr => ∃ (k : Nat) (b : Bool), k ≤ l.length ∧ i = .int .i64 (k : Int) ∧ u = .bool b ∧ Hid (b = (true && (l.take k).all seqB)) ∧ Below w4.heap.size w4 wr) (fun _ i _ => l.length - (intOf i).toNat)
        case atStart => exact ⟨0, _, Nat.zero_le _, rfl, rfl, by unfold Hid; rw [HT0.out]; rfl, Below.refl _ _⟩
        case round =>
          obtain ⟨k, b, hk, rfl, rfl, hbk, hbel⟩ := hrel
          have hBW := HB4.out.trans (hbel.mono hs4)
          by_cases hlt : k < l.length
          · obtain ⟨ad, A5, c5, K5, k5, n, rfl, hadb, hn, c0, c1, c2, hN⟩ := (HNS.out wr hBW).at_ hlt
            have hi1 : (k : Int) < (l.length : Int) := by omega
            have HTn := Lib.hid (HTK.out k n hn)
            cases b with
            | false =>
              go_wp2_with fail
              go_roundw
              case rel => exact ⟨k + 1, false, by omega, by go_num, rfl, by
                unfold Hid at hbk ⊢
                rw [HTn.out, ← Bool.and_assoc, ← hbk]; rfl, hbel⟩
              case measure => simp [intOf]; omega
            | true =>
              have HI := Lib.hid (HIS.out k n hn HFI.out wr A5 c5 K5 k5 hN)
              clear hN
              go_wp2_with fail
              refine HI.out.mono ?_
              rintro e w6 ⟨rfl, b6⟩
              have hb6 := hbel.trans (b6.mono hbel.size)
              clear HI b6
              go_wp2_with fail
              go_roundw
              case rel => exact ⟨k + 1, seqB n, by omega, by go_num, rfl, by
                unfold Hid at hbk ⊢
                rw [HTn.out, ← Bool.and_assoc, ← hbk, Bool.true_and], hb6⟩
              case measure => simp [intOf]; omega
          · obtain rfl : k = l.length := by omega
            have hi1 : ¬ (l.length : Int) < (l.length : Int) := by omega
            have hx := HX4.out.below hbel HX4.out.lt
            have hz := hx.lt
            have B7 := hBW.alloc hBW.size (.cells #[.int .u8 130, .int .u8 0, .slice none 0 0, .slice A l.length c] 44)
            have x7 := hx.alloc (.cells #[.int .u8 130, .int .u8 0, .slice none 0 0, .slice A l.length c] 44)
            have y7 := Whole.new wr 44 #[.int .u8 130, .int .u8 0, .slice none 0 0, .slice A l.length c]
            have v7 : Below w4.heap.size w4 (wr.alloc (.cells #[.int .u8 130, .int .u8 0, .slice none 0 0, .slice A l.length c] 44)) := hbel.alloc hbel.size _
            have HBK : Hid (b = (true && l.all seqB)) := by unfold Hid at hbk ⊢; rw [hbk, HTA.out]
            clear hbk hx
            go_upto_region 10 with fail
            generalize wr.alloc (.cells #[.int .u8 130, .int .u8 0, .slice none 0 0, .slice A l.length c] 44) = w7 at *
            generalize wr.heap.size = g7 at *
            clear hbel hBW
            cases b with
            | false =>
              clear HBK
              have HS7 := Lib.hid (same_zero17 w7)
              obtain ⟨q0, q1, q2, q3⟩ := wh4 x7
              go_wp2_with fail
              refine HS7.out.mono ?_
              rintro e w9 ⟨rfl, b9⟩
              go_wp2_with fail
              go_ret
              exact ⟨rfl, B7.trans (b9.mono B7.size)⟩
            | true =>
              have hcz : ((((chkC (rcfC l) : Nat) : Int)) == 0) = false := by
                have h1 := HRB.out
                rw [hr, ← HBK.out, Bool.true_and] at h1
                have h2 := of_decide_eq_false h1.symm
                rw [beq_eq_false_iff_ne]
                omega
              obtain ⟨q0, q1, q2, q3⟩ := wh4 y7
              have HK7 := Lib.hid (HCK.out hl2 HFI.out w7 B7)
              clear HBK
              generalize chkC (rcfC l) = cc at *
              go_wp2_with fail
              refine HK7.out.mono ?_
              rintro e w8 ⟨rfl, b8⟩
              have B8 := B7.trans (b8.mono B7.size)
              have x8 := x7.below b8 x7.lt
              have HS8 := Lib.hid (same_zero17 w8)
              clear HK7 q0 q1 q2 q3 x7 y7 v7 b8
              obtain ⟨q0, q1, q2, q3⟩ := wh4 x8
              go_wp2_with fail
              refine HS8.out.mono ?_
              rintro e w9 ⟨rfl, b9⟩
              go_wp2_with fail
              go_ret
              exact ⟨rfl, B8.trans (b9.mono B8.size)⟩
      · go_upto_region 6 with fail
        clear e1
        (try clear e2)
        go_loopw [5, 6] (fun u i wr => ∃ (k : Nat) (b : Bool), k ≤ l.length ∧ i = .int .i64 (k : Int) ∧ u = .bool b ∧ Hid (b = (true && (l.take k).all seqB)) ∧ Below w4.heap.size w4 wr) (fun _ i _ => l.length - (intOf i).toNat)
        case atStart => exact ⟨0, _, Nat.zero_le _, rfl, rfl, by unfold Hid; rw [HT0.out]; rfl, Below.refl _ _⟩
        case round =>
          obtain ⟨k, b, hk, rfl, rfl, hbk, hbel⟩ := hrel
          have hBW := HB4.out.trans (hbel.mono hs4)
          by_cases hlt : k < l.length
          · obtain ⟨ad, A5, c5, K5, k5, n, rfl, hadb, hn, c0, c1, c2, hN⟩ := (HNS.out wr hBW).at_ hlt
            have hi1 : (k : Int) < (l.length : Int) := by omega
            have HTn := Lib.hid (HTK.out k n hn)
            cases b with
            | false =>
              go_wp2_with fail
              go_roundw
              case rel => exact ⟨k + 1, false, by omega, by go_num, rfl, by
                unfold Hid at hbk ⊢
                rw [HTn.out, ← Bool.and_assoc, ← hbk]; rfl, hbel⟩
              case measure => simp [intOf]; omega
            | true =>
              have HI := Lib.hid (HIS.out k n hn HFI.out wr A5 c5 K5 k5 hN)
              clear hN
              go_wp2_with fail
              refine HI.out.mono ?_
              rintro e w6 ⟨rfl, b6⟩
              have hb6 := hbel.trans (b6.mono hbel.size)
              clear HI b6
              go_wp2_with fail
              go_roundw
              case rel => exact ⟨k + 1, seqB n, by omega, by go_num, rfl, by
                unfold Hid at hbk ⊢
                rw [HTn.out, ← Bool.and_assoc, ← hbk, Bool.true_and], hb6⟩
              case measure => simp [intOf]; omega
          · obtain rfl : k = l.length := by omega
            have hi1 : ¬ (l.length : Int) < (l.length : Int) := by omega
            have hx := HX4.out.below hbel HX4.out.lt
            have hz := hx.lt
            have B7 := hBW.alloc hBW.size (.cells #[.int .u8 130, .int .u8 0, .slice none 0 0, .slice A l.length c] 44)
            have x7 := hx.alloc (.cells #[.int .u8 130, .int .u8 0, .slice none 0 0, .slice A l.length c] 44)
            have y7 := Whole.new wr 44 #[.int .u8 130, .int .u8 0, .slice none 0 0, .slice A l.length c]
            have v7 : Below w4.heap.size w4 (wr.alloc (.cells #[.int .u8 130, .int .u8 0, .slice none 0 0, .slice A l.length c] 44)) := hbel.alloc hbel.size _
            have HBK : Hid (b = (true && l.all seqB)) := by unfold Hid at hbk ⊢; rw [hbk, HTA.out]
            clear hbk hx
            go_upto_region 10 with fail
            generalize wr.alloc (.cells #[.int .u8 130, .int .u8 0, .slice none 0 0, .slice A l.length c] 44) = w7 at *
            generalize wr.heap.size = g7 at *
            clear hbel hBW
            cases b with
            | false =>
              clear HBK
              have HS7 := Lib.hid (same_zero17 w7)
              obtain ⟨q0, q1, q2, q3⟩ := wh4 x7
              go_wp2_with fail
              refine HS7.out.mono ?_
              rintro e w9 ⟨rfl, b9⟩
              go_wp2_with fail
              go_ret
              exact ⟨rfl, B7.trans (b9.mono B7.size)⟩
            | true =>
              have hcz : ((((chkC (rcfC l) : Nat) : Int)) == 0) = false := by
                have h1 := HRB.out
                rw [hr, ← HBK.out, Bool.true_and] at h1
                have h2 := of_decide_eq_false h1.symm
                rw [beq_eq_false_iff_ne]
                omega
              obtain ⟨q0, q1, q2, q3⟩ := wh4 y7
              have HK7 := Lib.hid (HCK.out hl2 HFI.out w7 B7)
              clear HBK
              generalize chkC (rcfC l) = cc at *
              go_wp2_with fail
              refine HK7.out.mono ?_
              rintro e w8 ⟨rfl, b8⟩
              have B8 := B7.trans (b8.mono B7.size)
              have x8 := x7.below b8 x7.lt
              have HS8 := Lib.hid (same_zero17 w8)
              clear HK7 q0 q1 q2 q3 x7 y7 v7 b8
              obtain ⟨q0, q1, q2, q3⟩ := wh4 x8
              go_wp2_with fail
              refine HS8.out.mono ?_
              rintro e w9 ⟨rfl, b9⟩
              go_wp2_with fail
              go_ret
              exact ⟨rfl, B8.trans (b9.mono B8.size)⟩
      · go_upto_region 6 with fail
        clear e1
        (try clear e2)
        go_loopw [5, 6] (fun u i wr => ∃ (k : Nat) (b : Bool), k ≤ l.length ∧ i = .int .i64 (k : Int) ∧ u = .bool b ∧ Hid (b = (false && (l.take k).all seqB)) ∧ Below w4.heap.size w4 wr) (fun _ i _ => l.length - (intOf i).toNat)
        case atStart => exact ⟨0, _, Nat.zero_le _, rfl, rfl, by unfold Hid; rw [HT0.out]; rfl, Below.refl _ _⟩
        case round =>
          obtain ⟨k, b, hk, rfl, rfl, hbk, hbel⟩ := hrel
          have hBW := HB4.out.trans (hbel.mono hs4)
          by_cases hlt : k < l.length
          · obtain ⟨ad, A5, c5, K5, k5, n, rfl, hadb, hn, c0, c1, c2, hN⟩ := (HNS.out wr hBW).at_ hlt
            have hi1 : (k : Int) < (l.length : Int) := by omega
            have HTn := Lib.hid (HTK.out k n hn)
            cases b with
            | false =>
              go_wp2_with fail
              go_roundw
              case rel => exact ⟨k + 1, false, by omega, by go_num, rfl, by
                unfold Hid at hbk ⊢
                rw [HTn.out, ← Bool.and_assoc, ← hbk]; rfl, hbel⟩
              case measure => simp [intOf]; omega
            | true =>
              have HI := Lib.hid (HIS.out k n hn HFI.out wr A5 c5 K5 k5 hN)
              clear hN
              go_wp2_with fail
              refine HI.out.mono ?_
              rintro e w6 ⟨rfl, b6⟩
              have hb6 := hbel.trans (b6.mono hbel.size)
              clear HI b6
              go_wp2_with fail
              go_roundw
              case rel => exact ⟨k + 1, seqB n, by omega, by go_num, rfl, by
                unfold Hid at hbk ⊢
                rw [HTn.out, ← Bool.and_assoc, ← hbk, Bool.true_and], hb6⟩
              case measure => simp [intOf]; omega
          · obtain rfl : k = l.length := by omega
            have hi1 : ¬ (l.length : Int) < (l.length : Int) := by omega
            have hx := HX4.out.below hbel HX4.out.lt
            have hz := hx.lt
            have B7 := hBW.alloc hBW.size (.cells #[.int .u8 130, .int .u8 0, .slice none 0 0, .slice A l.length c] 44)
            have x7 := hx.alloc (.cells #[.int .u8 130, .int .u8 0, .slice none 0 0, .slice A l.length c] 44)
            have y7 := Whole.new wr 44 #[.int .u8 130, .int .u8 0, .slice none 0 0, .slice A l.length c]
            have v7 : Below w4.heap.size w4 (wr.alloc (.cells #[.int .u8 130, .int .u8 0, .slice none 0 0, .slice A l.length c] 44)) := hbel.alloc hbel.size _
            have HBK : Hid (b = (false && l.all seqB)) := by unfold Hid at hbk ⊢; rw [hbk, HTA.out]
            clear hbk hx
            go_upto_region 10 with fail
            generalize wr.alloc (.cells #[.int .u8 130, .int .u8 0, .slice none 0 0, .slice A l.length c] 44) = w7 at *
            generalize wr.heap.size = g7 at *
            clear hbel hBW
            cases b with
            | false =>
              clear HBK
              have HS7 := Lib.hid (same_zero17 w7)
              obtain ⟨q0, q1, q2, q3⟩ := wh4 x7
              go_wp2_with fail
              refine HS7.out.mono ?_
              rintro e w9 ⟨rfl, b9⟩
              go_wp2_with fail
              go_ret
              exact ⟨rfl, B7.trans (b9.mono B7.size)⟩
            | true =>
              have hcz : ((((chkC (rcfC l) : Nat) : Int)) == 0) = false := by
                have h1 := HRB.out
                rw [hr, ← HBK.out, Bool.true_and] at h1
                have h2 := of_decide_eq_false h1.symm
                rw [beq_eq_false_iff_ne]
                omega
              obtain ⟨q0, q1, q2, q3⟩ := wh4 y7
              have HK7 := Lib.hid (HCK.out hl2 HFI.out w7 B7)
              clear HBK
              generalize chkC (rcfC l) = cc at *
              go_wp2_with fail
              refine HK7.out.mono ?_
              rintro e w8 ⟨rfl, b8⟩
              have B8 := B7.trans (b8.mono B7.size)
              have x8 := x7.below b8 x7.lt
              have HS8 := Lib.hid (same_zero17 w8)
              clear HK7 q0 q1 q2 q3 x7 y7 v7 b8
              obtain ⟨q0, q1, q2, q3⟩ := wh4 x8
              go_wp2_with fail
              refine HS8.out.mono ?_
              rintro e w9 ⟨rfl, b9⟩
              go_wp2_with fail
              go_ret
              exact ⟨rfl, B8.trans (b9.mono B8.size)⟩
set_option maxRecDepth 100000 in
theorem law_StreamMakes {H : Type} {enc : TypeId × Value → H} {W : World} {base : Nat} {v0 : Value} {d0 : DataW H} {p0 : List MemPlace}
    (o0 : Value.okWide Tryz.prog W .any base 42 v0) (h0 : DataW.Trod enc Tryz.prog W 0 (fun _ => true) true 42 v0 d0 p0) (s0 : Small Tryz.prog 42 d0) (hL : laidMetH Tryz.prog laidL W) :
    Calls Tryz.prog 12 #[v0] W fun e w' => e = .returned (.bool true) ∧ Below W.heap.size W w' := by
  obtain ⟨A, c, ns, rfl, h1, h2, h3, h4⟩ := open_nodes o0 h0 s0
  exact makes_law ns h4 A c W h1 h2 h3 (handle_of_laid hL)
end Go.Proofs.YtmohbkniekeafaaGreatDoor


