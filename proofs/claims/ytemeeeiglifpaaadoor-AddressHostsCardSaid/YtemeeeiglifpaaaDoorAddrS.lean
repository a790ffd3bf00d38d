/- Layer 9: strconv.ParseUint at the bases 10 and 16: it ends at every string, and reads the texts of numbers. It writes nothing that was there. -/
import Derived.Test.YtemeeeiglifpaaaDoorAddrGA
import Derived.Test.YtemeeeiglifpaaaDoorAddrGC




namespace Go.Proofs.YtemeeeiglifpaaaDoor
open Go.RowKit Go.Shelf

theorem or32 : ∀ n, n < 256 → bits .or .u8 ((n : Nat) : Int) 32 = ((n ||| 32 : Nat) : Int) := by decide +kernel
theorem lower_any (c : UInt8) (w : World) : Calls Tryd.prog 70 #[bv c] w fun e w' => e = .returned (.int .u8 ((c.toNat ||| 32 : Nat) : Int)) ∧ w' = w := by
  have h1 := or32 c.toNat c.toNat_lt
  go_enter Tryd.func70, Tryd.ntmps70
  go_wp2_with fail
  go_ret
  exact ⟨rfl, rfl⟩
theorem lw_id : ∀ n, n < 256 → 97 ≤ n → n ≤ 122 → n ||| 32 = n := by decide +kernel
theorem lw_let : ∀ n, n < 256 → 97 ≤ n ||| 32 → n ||| 32 ≤ 122 → 57 < n ∧ n ≠ 95 := by decide +kernel
theorem lw_lt : ∀ n, n < 256 → n ||| 32 < 256 := by decide +kernel

/-! ### the value of a text -/
def pv (b : Nat) (l : List UInt8) : Nat := l.foldl (fun a c => a * b + dval c) 0
theorem pv_snoc (b : Nat) (l : List UInt8) (c : UInt8) : pv b (l ++ [c]) = pv b l * b + dval c := by unfold pv; rw [List.foldl_append]; rfl
theorem pv_take {b : Nat} {l : List UInt8} {j : Nat} {x : UInt8} (h : l[j]? = some x) : pv b (l.take (j + 1)) = pv b (l.take j) * b + dval x := by rw [take_some h, pv_snoc]
theorem pv_digs {b : Nat} (hb : 2 ≤ b) (hb2 : b ≤ 16) : ∀ (f n : Nat), n < b ^ (f + 1) → pv b (digs b f n) = n := by
  intro f
  induction f with
  | zero =>
    intro n hn
    have h1 : n < b := by simpa using hn
    rw [digs]
    show 0 * b + dval (dch n) = n
    rw [dval_dch (by omega)]
    omega
  | succ f ih =>
    intro n hn
    rw [digs]
    split
    · rename_i h
      show 0 * b + dval (dch n) = n
      rw [dval_dch (by omega)]; omega
    · rw [pv_snoc, ih (n / b) (by rw [Nat.div_lt_iff_lt_mul (by omega)]; rwa [Nat.pow_succ] at hn), dval_dch (by have := Nat.mod_lt n (show b > 0 by omega); omega)]
      rw [Nat.mul_comm]; exact Nat.div_add_mod n b
theorem pv_mono {b : Nat} (hb : 1 ≤ b) (l k : List UInt8) : pv b l ≤ pv b (l ++ k) := by
  induction k generalizing l with
  | nil => simp
  | cons c k ih =>
    have h1 := ih (l ++ [c])
    rw [List.append_assoc, List.singleton_append, pv_snoc] at h1
    have h2 := Nat.le_mul_of_pos_right (pv b l) hb
    omega
/-- a text of a number -/
def Cn (b : Nat) (l : List UInt8) : Prop := ∃ w, w ≤ lim b ∧ l = dg b w
theorem Cn.ne {b : Nat} {l : List UInt8} (h : Cn b l) : l ≠ [] := by
  obtain ⟨w, _, rfl⟩ := h
  exact digs_ne b 4 w
theorem lim_pow {b : Nat} (hb : b = 10 ∨ b = 16) {w : Nat} (hw : w ≤ lim b) : w < b ^ 5 := by
  rcases hb with rfl | rfl <;> (unfold lim at hw; simp at hw; omega)
theorem Cn.val {b : Nat} (hb : b = 10 ∨ b = 16) {l : List UInt8} {w : Nat} (hw : w ≤ lim b) (h : l = dg b w) : pv b l = w := by
  subst h
  exact pv_digs (by omega) (by omega) 4 w (lim_pow hb hw)
theorem Cn.char {b : Nat} (hb : b = 10 ∨ b = 16) {l : List UInt8} (h : Cn b l) {j : Nat} {x : UInt8} (hx : l[j]? = some x) :
    ((48 ≤ x.toNat ∧ x.toNat ≤ 57 ∧ dval x = x.toNat - 48) ∨ (b = 16 ∧ 97 ≤ x.toNat ∧ x.toNat ≤ 102 ∧ dval x = x.toNat - 87)) ∧ pv b (l.take (j + 1)) = pv b (l.take j) * b + dval x ∧ pv b (l.take (j + 1)) ≤ lim b := by
  obtain ⟨w, hw, rfl⟩ := h
  refine ⟨?_, pv_take hx, ?_⟩
  · obtain ⟨d, hd, rfl⟩ := digs_chars (b := b) (by omega) (by omega) 4 w (lim_pow hb hw) x (List.mem_of_getElem? hx)
    rw [dval_dch (by omega)]
    unfold dch
    by_cases h10 : d < 10
    · left; rw [if_pos h10, UInt8.toNat_ofNat']; omega
    · right; rw [if_neg h10, UInt8.toNat_ofNat']; omega
  · have h1 := pv_mono (b := b) (by omega) ((dg b w).take (j + 1)) ((dg b w).drop (j + 1))
    rw [List.take_append_drop] at h1
    rw [Cn.val hb hw rfl] at h1
    omega

/-- what ParseUint may return: the number of a text; nothing or an error for whatever else -/
def PuR (b : Nat) (l : List UInt8) (w : World) (e : Ending) (w' : World) : Prop :=
  ∃ (n : Nat) (v : Value), e = .returned (.tuple #[.int .u64 (n : Int), v]) ∧ ((v = .nilIface ∧ n ≤ 65535 ∧ (Cn b l → n = pv b l)) ∨ (¬ Cn b l ∧ ∃ k, (k = 1 ∨ k = 2) ∧ v = .iface 106 (.int .i64 k))) ∧ Below w.heap.size w w'

set_option maxRecDepth 100000 in
set_option maxHeartbeats 8000000 in
theorem pu_10 (s : ByteArray) (hs : s.size ≤ 1000) (w : World) :
    Calls Tryd.prog 56 #[.string s, .int .i64 10, .int .i64 8] w (PuR 10 s.data.toList w) := by
  by_cases h0 : s.size = 0
  · have he : s = ⟨#[]⟩ := ByteArray.ext (Array.eq_empty_of_size_eq_zero h0)
    subst he
    go_enter Tryd.func56, Tryd.ntmps56
    go_wp2_with fail
    go_ret2
    exact ⟨0, _, rfl, .inr ⟨fun h => h.ne rfl, 2, .inr rfl, rfl⟩, Below.refl _ _⟩
  · have hsl : s.size = s.data.toList.length := by rw [Array.length_toList]; rfl
    have hem : s.toList.isEmpty = false := by
      rw [ByteArray.toList_eq, List.isEmpty_eq_false_iff]
      intro e
      rw [e] at hsl
      exact h0 (by simpa using hsl)
    have hcv := Lib.run_convert_string_bytes (P := Tryd.prog) w 9 24 5 s Tryd.underlying9 Tryd.underlying24 Tryd.underlying5
    have hrow := bytes_row w 5 s (by omega)
    generalize Lib.bytesWorld w 5 s = w1 at *
    generalize grownCap w s.size 0 5 = cap at *
    have hbel := hrow.below
    have HCE : Hid (∀ j u, (s.data.toList.map bv)[j]? = some u → w1.cell? ⟨w.heap.size, j, none⟩ = some u) := hrow.cells
    obtain ⟨l, hl⟩ : ∃ l, Hid (s.data.toList = l) := ⟨_, rfl⟩
    have hlen : Hid (s.size = l.length) := by unfold Hid; rw [hsl, hl.out]
    rw [hl.out]
    clear hrow h0 hsl
    go_enter Tryd.func56, Tryd.ntmps56
    go_wp2_with fail
    go_loop [12, 13, 101] (fun uv nv iv => ∃ j v : Nat, j ≤ s.size ∧ iv = .int .i64 j ∧ uv = .bool false ∧ nv = .int .u64 v ∧ v ≤ 255 ∧ Hid (Cn 10 l → v = pv 10 (l.take j))) (fun _ _ iv => s.size - (intOf iv).toNat)
    case atStart => exact ⟨0, 0, Nat.zero_le _, rfl, rfl, rfl, by omega, fun _ => rfl⟩
    case round =>
      obtain ⟨j, v, hj, rfl, rfl, rfl, hv, hval⟩ := hrel
      by_cases hlt : j < s.size
      · obtain ⟨x, hx⟩ : ∃ x, Hid (l[j]? = some x) := ⟨_, List.getElem?_eq_getElem (by rw [← hlen.out]; exact hlt)⟩
        have hc := HCE.out j (bv x) (by rw [List.getElem?_map, hl.out, hx.out]; rfl)
        have hx256 := x.toNat_lt
        have hLw := fun W => lower_any x W
        by_cases hdg : 48 ≤ x.toNat ∧ x.toNat ≤ 57
        · obtain ⟨d1, d2⟩ := hdg
          have e95 : ((x.toNat : Int) == 95) = false := by rw [beq_eq_false_iff_ne]; omega
          obtain ⟨d, hd⟩ : ∃ d : Nat, (x.toNat - 48) = d := ⟨_, rfl⟩
          obtain ⟨p, hp⟩ : ∃ p : Nat, v * 10 + d = p := ⟨_, rfl⟩
          have hd1 : ((x.toNat : Int) - 48) = (d : Int) := by omega
          have hp1 : (v : Int) * 10 + (d : Int) = (p : Int) := by omega
          have hp2 : (v : Int) * 10 ≤ (p : Int) := by omega
          have hd9 : (d : Int) < 10 := by omega
          have hC2 : Cn 10 l → pv 10 (l.take (j + 1)) = p ∧ p ≤ 255 := fun hC => by have h1 := hval.out hC; obtain ⟨h2, h3, h4⟩ := Cn.char (.inl rfl) hC hx.out; have h5 : lim 10 = 255 := rfl; rw [h5] at h4; rw [h3, ← h1] at h4; rw [h3, ← h1]; rcases h2 with h2 | h2 <;> (constructor <;> omega)
          have HC2 := Lib.hid hC2
          clear hC2 hd hp
          have ecut : decide ((1844674407370955162 : Int) ≤ (v : Int)) = false := by rw [decide_eq_false_iff_not]; omega
          have hw1 : IntKind.u64.wrap ((v : Int) * 10) = (v : Int) * 10 := by rw [IntKind.wrap_u64]; omega
          have hw2 : IntKind.u64.wrap ((v : Int) * 10 + (d : Int)) = (p : Int) := by rw [IntKind.wrap_u64]; omega
          clear hp1
          have HVV := Lib.hid hv
          clear hv
          by_cases hle : (p : Int) ≤ 255
          · have HV : Hid (Cn 10 l → p = pv 10 (l.take (j + 1))) := fun hC => (HC2.out hC).1.symm
            go_wp2_with fail
            go_round
            case rel => exact ⟨j + 1, p, by omega, by go_num, rfl, by go_num, by omega, HV⟩
            case measure => simp [intOf]; omega
          · have HN : Hid (¬ Cn 10 l) := fun hC => hle (by have := (HC2.out hC).2; omega)
            go_wp2_with fail
            go_ret2
            exact ⟨255, _, rfl, .inr ⟨HN.out, 1, .inl rfl, rfl⟩, hbel⟩
        · rcases (by omega : (97 ≤ x.toNat ||| 32 ∧ x.toNat ||| 32 ≤ 122) ∨ (x.toNat ||| 32 < 97 ∨ 122 < x.toNat ||| 32)) with ⟨l1, l2⟩ | hO
          · obtain ⟨l3, l4⟩ := lw_let x.toNat hx256 l1 l2
            have HN : Hid (¬ Cn 10 l) := fun hC => by
              obtain ⟨h2, _, _⟩ := Cn.char (.inl rfl) hC hx.out
              rcases h2 with ⟨h2, h3, _⟩ | ⟨h0, h2, h3, _⟩
              · exact hdg ⟨h2, h3⟩
              · omega
            have e95 : ((x.toNat : Int) == 95) = false := by rw [beq_eq_false_iff_ne]; omega
            generalize x.toNat ||| 32 = lw at *
            go_wp2_with fail
            refine (hLw _).mono ?_
            rintro e w2 ⟨rfl, rfl⟩
            go_wp2_with fail
            refine (hLw _).mono ?_
            rintro e w2 ⟨rfl, rfl⟩
            go_wp2_with fail
            refine (hLw _).mono ?_
            rintro e w2 ⟨rfl, rfl⟩
            go_wp2_with fail
            go_ret2
            exact ⟨_, _, rfl, .inr ⟨HN.out, 2, .inr rfl, rfl⟩, hbel⟩
          · have HN : Hid (¬ Cn 10 l) := fun hC => by
              obtain ⟨h2, _, _⟩ := Cn.char (.inl rfl) hC hx.out
              rcases h2 with ⟨h2, h3, _⟩ | ⟨_, h2, h3, _⟩
              · exact hdg ⟨h2, h3⟩
              · have h4 := lw_id x.toNat hx256 h2 (by omega); omega
            have hx32 := lw_lt x.toNat hx256
            generalize x.toNat ||| 32 = lw at *
            have e95 : ((x.toNat : Int) == 95) = decide (x.toNat = 95) := by
              by_cases h : x.toNat = 95
              · rw [h]; rfl
              · rw [decide_eq_false h, beq_eq_false_iff_ne]; omega
            rcases (by omega : x.toNat < 48 ∨ 57 < x.toNat) with d1 | d1
            all_goals rcases hO with hO | hO
            all_goals
              by_cases h95 : x.toNat = 95
              all_goals
                first | rw [decide_eq_true h95] at e95 | rw [decide_eq_false h95] at e95
                clear h95
                go_wp2_with fail
                refine (hLw _).mono ?_
                rintro e w2 ⟨rfl, rfl⟩
                go_wp2_with fail
                (try (refine (hLw _).mono ?_; rintro e w2 ⟨rfl, rfl⟩; go_wp2_with fail))
                go_ret2
                exact ⟨_, _, rfl, .inr ⟨HN.out, 2, .inr rfl, rfl⟩, hbel⟩
      · obtain rfl : j = s.size := by omega
        have HV : Hid (Cn 10 l → v = pv 10 l) := fun hC => by have := hval.out hC; rwa [hlen.out, List.take_length] at this
        go_wp2_with fail
        go_ret2
        exact ⟨v, _, rfl, .inl ⟨rfl, by omega, HV.out⟩, hbel⟩
set_option maxRecDepth 100000 in
set_option maxHeartbeats 8000000 in
theorem pu_16 (s : ByteArray) (hs : s.size ≤ 1000) (w : World) :
    Calls Tryd.prog 56 #[.string s, .int .i64 16, .int .i64 16] w (PuR 16 s.data.toList w) := by
  by_cases h0 : s.size = 0
  · have he : s = ⟨#[]⟩ := ByteArray.ext (Array.eq_empty_of_size_eq_zero h0)
    subst he
    go_enter Tryd.func56, Tryd.ntmps56
    go_wp2_with fail
    go_ret2
    exact ⟨0, _, rfl, .inr ⟨fun h => h.ne rfl, 2, .inr rfl, rfl⟩, Below.refl _ _⟩
  · have hsl : s.size = s.data.toList.length := by rw [Array.length_toList]; rfl
    have hem : s.toList.isEmpty = false := by
      rw [ByteArray.toList_eq, List.isEmpty_eq_false_iff]
      intro e
      rw [e] at hsl
      exact h0 (by simpa using hsl)
    have hcv := Lib.run_convert_string_bytes (P := Tryd.prog) w 9 24 5 s Tryd.underlying9 Tryd.underlying24 Tryd.underlying5
    have hrow := bytes_row w 5 s (by omega)
    generalize Lib.bytesWorld w 5 s = w1 at *
    generalize grownCap w s.size 0 5 = cap at *
    have hbel := hrow.below
    have HCE : Hid (∀ j u, (s.data.toList.map bv)[j]? = some u → w1.cell? ⟨w.heap.size, j, none⟩ = some u) := hrow.cells
    obtain ⟨l, hl⟩ : ∃ l, Hid (s.data.toList = l) := ⟨_, rfl⟩
    have hlen : Hid (s.size = l.length) := by unfold Hid; rw [hsl, hl.out]
    rw [hl.out]
    clear hrow h0 hsl
    go_enter Tryd.func56, Tryd.ntmps56
    go_wp2_with fail
    go_loop [12, 13, 101] (fun uv nv iv => ∃ j v : Nat, j ≤ s.size ∧ iv = .int .i64 j ∧ uv = .bool false ∧ nv = .int .u64 v ∧ v ≤ 65535 ∧ Hid (Cn 16 l → v = pv 16 (l.take j))) (fun _ _ iv => s.size - (intOf iv).toNat)
    case atStart => exact ⟨0, 0, Nat.zero_le _, rfl, rfl, rfl, by omega, fun _ => rfl⟩
    case round =>
      obtain ⟨j, v, hj, rfl, rfl, rfl, hv, hval⟩ := hrel
      by_cases hlt : j < s.size
      · obtain ⟨x, hx⟩ : ∃ x, Hid (l[j]? = some x) := ⟨_, List.getElem?_eq_getElem (by rw [← hlen.out]; exact hlt)⟩
        have hc := HCE.out j (bv x) (by rw [List.getElem?_map, hl.out, hx.out]; rfl)
        have hx256 := x.toNat_lt
        have hLw := fun W => lower_any x W
        by_cases hdg : 48 ≤ x.toNat ∧ x.toNat ≤ 57
        · obtain ⟨d1, d2⟩ := hdg
          have e95 : ((x.toNat : Int) == 95) = false := by rw [beq_eq_false_iff_ne]; omega
          obtain ⟨d, hd⟩ : ∃ d : Nat, (x.toNat - 48) = d := ⟨_, rfl⟩
          obtain ⟨p, hp⟩ : ∃ p : Nat, v * 16 + d = p := ⟨_, rfl⟩
          have hd1 : ((x.toNat : Int) - 48) = (d : Int) := by omega
          have hp1 : (v : Int) * 16 + (d : Int) = (p : Int) := by omega
          have hp2 : (v : Int) * 16 ≤ (p : Int) := by omega
          have hd9 : (d : Int) < 16 := by omega
          have hC2 : Cn 16 l → pv 16 (l.take (j + 1)) = p ∧ p ≤ 65535 := fun hC => by have h1 := hval.out hC; obtain ⟨h2, h3, h4⟩ := Cn.char (.inr rfl) hC hx.out; have h5 : lim 16 = 65535 := rfl; rw [h5] at h4; rw [h3, ← h1] at h4; rw [h3, ← h1]; rcases h2 with h2 | h2 <;> (constructor <;> omega)
          have HC2 := Lib.hid hC2
          clear hC2 hd hp
          have ecut : decide ((1152921504606846976 : Int) ≤ (v : Int)) = false := by rw [decide_eq_false_iff_not]; omega
          have hw1 : IntKind.u64.wrap ((v : Int) * 16) = (v : Int) * 16 := by rw [IntKind.wrap_u64]; omega
          have hw2 : IntKind.u64.wrap ((v : Int) * 16 + (d : Int)) = (p : Int) := by rw [IntKind.wrap_u64]; omega
          clear hp1
          have HVV := Lib.hid hv
          clear hv
          by_cases hle : (p : Int) ≤ 65535
          · have HV : Hid (Cn 16 l → p = pv 16 (l.take (j + 1))) := fun hC => (HC2.out hC).1.symm
            go_wp2_with fail
            go_round
            case rel => exact ⟨j + 1, p, by omega, by go_num, rfl, by go_num, by omega, HV⟩
            case measure => simp [intOf]; omega
          · have HN : Hid (¬ Cn 16 l) := fun hC => hle (by have := (HC2.out hC).2; omega)
            go_wp2_with fail
            go_ret2
            exact ⟨65535, _, rfl, .inr ⟨HN.out, 1, .inl rfl, rfl⟩, hbel⟩
        · rcases (by omega : (97 ≤ x.toNat ||| 32 ∧ x.toNat ||| 32 ≤ 122) ∨ (x.toNat ||| 32 < 97 ∨ 122 < x.toNat ||| 32)) with ⟨l1, l2⟩ | hO
          · obtain ⟨l3, l4⟩ := lw_let x.toNat hx256 l1 l2
            by_cases hlw : x.toNat ||| 32 ≤ 102
            · have hval2 : Hid (Cn 16 l → (x.toNat ||| 32) = x.toNat) := fun hC => by obtain ⟨h2, _, _⟩ := Cn.char (.inr rfl) hC hx.out; rcases h2 with ⟨h2, h3, _⟩ | ⟨_, h2, h3, _⟩; (exact absurd ⟨h2, h3⟩ hdg); (exact lw_id x.toNat hx256 h2 (by omega))
              have e95 : ((x.toNat : Int) == 95) = false := by rw [beq_eq_false_iff_ne]; omega
              generalize x.toNat ||| 32 = lw at *
              obtain ⟨d, hd⟩ : ∃ d : Nat, (lw - 87) = d := ⟨_, rfl⟩
              obtain ⟨p, hp⟩ : ∃ p : Nat, v * 16 + d = p := ⟨_, rfl⟩
              have hd1 : ((lw : Int) - 97 + 10) = (d : Int) := by omega
              have hp1 : (v : Int) * 16 + (d : Int) = (p : Int) := by omega
              have hp2 : (v : Int) * 16 ≤ (p : Int) := by omega
              have hd9 : (d : Int) < 16 := by omega
              have hC2 : Cn 16 l → pv 16 (l.take (j + 1)) = p ∧ p ≤ 65535 := fun hC => by have h1 := hval.out hC; have h9 := hval2.out hC; obtain ⟨h2, h3, h4⟩ := Cn.char (.inr rfl) hC hx.out; have h5 : lim 16 = 65535 := rfl; rw [h5] at h4; rw [h3, ← h1] at h4; rw [h3, ← h1]; rcases h2 with h2 | h2 <;> (constructor <;> omega)
              have HC2 := Lib.hid hC2
              clear hC2 hd hp
              have ecut : decide ((1152921504606846976 : Int) ≤ (v : Int)) = false := by rw [decide_eq_false_iff_not]; omega
              have hw1 : IntKind.u64.wrap ((v : Int) * 16) = (v : Int) * 16 := by rw [IntKind.wrap_u64]; omega
              have hw2 : IntKind.u64.wrap ((v : Int) * 16 + (d : Int)) = (p : Int) := by rw [IntKind.wrap_u64]; omega
              clear hp1
              have HVV := Lib.hid hv
              clear hv
              by_cases hle : (p : Int) ≤ 65535
              · have HV : Hid (Cn 16 l → p = pv 16 (l.take (j + 1))) := fun hC => (HC2.out hC).1.symm
                go_wp2_with fail
                refine (hLw _).mono ?_
                rintro e w2 ⟨rfl, rfl⟩
                go_wp2_with fail
                refine (hLw _).mono ?_
                rintro e w2 ⟨rfl, rfl⟩
                go_wp2_with fail
                refine (hLw _).mono ?_
                rintro e w2 ⟨rfl, rfl⟩
                go_wp2_with fail
                go_round
                case rel => exact ⟨j + 1, p, by omega, by go_num, rfl, by go_num, by omega, HV⟩
                case measure => simp [intOf]; omega
              · have HN : Hid (¬ Cn 16 l) := fun hC => hle (by have := (HC2.out hC).2; omega)
                go_wp2_with fail
                refine (hLw _).mono ?_
                rintro e w2 ⟨rfl, rfl⟩
                go_wp2_with fail
                refine (hLw _).mono ?_
                rintro e w2 ⟨rfl, rfl⟩
                go_wp2_with fail
                refine (hLw _).mono ?_
                rintro e w2 ⟨rfl, rfl⟩
                go_wp2_with fail
                go_ret2
                exact ⟨65535, _, rfl, .inr ⟨HN.out, 1, .inl rfl, rfl⟩, hbel⟩
            · have HN : Hid (¬ Cn 16 l) := fun hC => by
                obtain ⟨h2, _, _⟩ := Cn.char (.inr rfl) hC hx.out
                rcases h2 with ⟨h2, h3, _⟩ | ⟨h0, h2, h3, _⟩
                · exact hdg ⟨h2, h3⟩
                · have h5 := lw_id x.toNat hx256 h2 (by omega); omega
              have e95 : ((x.toNat : Int) == 95) = false := by rw [beq_eq_false_iff_ne]; omega
              generalize x.toNat ||| 32 = lw at *
              go_wp2_with fail
              refine (hLw _).mono ?_
              rintro e w2 ⟨rfl, rfl⟩
              go_wp2_with fail
              refine (hLw _).mono ?_
              rintro e w2 ⟨rfl, rfl⟩
              go_wp2_with fail
              refine (hLw _).mono ?_
              rintro e w2 ⟨rfl, rfl⟩
              go_wp2_with fail
              go_ret2
              exact ⟨_, _, rfl, .inr ⟨HN.out, 2, .inr rfl, rfl⟩, hbel⟩
          · have HN : Hid (¬ Cn 16 l) := fun hC => by
              obtain ⟨h2, _, _⟩ := Cn.char (.inr rfl) hC hx.out
              rcases h2 with ⟨h2, h3, _⟩ | ⟨_, h2, h3, _⟩
              · exact hdg ⟨h2, h3⟩
              · have h4 := lw_id x.toNat hx256 h2 (by omega); omega
            have hx32 := lw_lt x.toNat hx256
            generalize x.toNat ||| 32 = lw at *
            have e95 : ((x.toNat : Int) == 95) = decide (x.toNat = 95) := by
              by_cases h : x.toNat = 95
              · rw [h]; rfl
              · rw [decide_eq_false h, beq_eq_false_iff_ne]; omega
            rcases (by omega : x.toNat < 48 ∨ 57 < x.toNat) with d1 | d1
            all_goals rcases hO with hO | hO
            all_goals
              by_cases h95 : x.toNat = 95
              all_goals
                first | rw [decide_eq_true h95] at e95 | rw [decide_eq_false h95] at e95
                clear h95
                go_wp2_with fail
                refine (hLw _).mono ?_
                rintro e w2 ⟨rfl, rfl⟩
                go_wp2_with fail
                (try (refine (hLw _).mono ?_; rintro e w2 ⟨rfl, rfl⟩; go_wp2_with fail))
                go_ret2
                exact ⟨_, _, rfl, .inr ⟨HN.out, 2, .inr rfl, rfl⟩, hbel⟩
      · obtain rfl : j = s.size := by omega
        have HV : Hid (Cn 16 l → v = pv 16 l) := fun hC => by have := hval.out hC; rwa [hlen.out, List.take_length] at this
        go_wp2_with fail
        go_ret2
        exact ⟨v, _, rfl, .inl ⟨rfl, by omega, HV.out⟩, hbel⟩
/-- what strconv.ParseUint returns -/
def PuV (b : Nat) (l : List UInt8) (w : World) (e : Ending) (w' : World) : Prop :=
  ∃ (n : Nat) (v : Value), e = .returned (.tuple #[.int .u64 (n : Int), v]) ∧ ((v = .nilIface ∧ n ≤ 65535 ∧ (Cn b l → n = pv b l)) ∨ (¬ Cn b l ∧ ∃ g, v = .iface 109 (.pointer (some ⟨g, 0, none⟩)))) ∧ Below w.heap.size w w'
set_option maxRecDepth 100000 in
set_option maxHeartbeats 4000000 in
theorem pu_any (b z : Nat) (hb : b = 10 ∧ z = 8 ∨ b = 16 ∧ z = 16) (s : ByteArray) (hs : s.size ≤ 1000) (w : World) (hE : Errs w) :
    Calls Tryd.prog 42 #[.string s, .int .i64 (b : Int), .int .i64 (z : Int)] w (PuV b s.data.toList w) := by
  have hP : Calls Tryd.prog 56 #[.string s, .int .i64 (b : Int), .int .i64 (z : Int)] w (PuR b s.data.toList w) := by
    rcases hb with ⟨rfl, rfl⟩ | ⟨rfl, rfl⟩
    · exact pu_10 s hs w
    · exact pu_16 s hs w
  have HP := Lib.hid hP
  have HE := Lib.hid hE
  clear hP hE hb
  go_enter Tryd.func42, Tryd.ntmps42
  go_wp2_with fail
  refine HP.out.mono ?_
  rintro e w1 ⟨n, v, rfl, h1, b1⟩
  rcases h1 with ⟨rfl, h2, h3⟩ | ⟨h2, k, hk, rfl⟩
  · go_wp2_with fail
    go_ret2
    exact ⟨n, _, rfl, .inl ⟨rfl, h2, h3⟩, b1⟩
  · have hT := fun f => toErr_any k hk f s b z hs w1 (HE.out.below b1)
    clear hk
    go_wp2_with fail
    refine (hT _).mono ?_
    rintro e w2 ⟨g, rfl, b2⟩
    go_wp2_with fail
    go_ret2
    exact ⟨n, _, rfl, .inr ⟨h2, g, rfl⟩, b1.trans (b2.mono b1.size)⟩
end Go.Proofs.YtemeeeiglifpaaaDoor

