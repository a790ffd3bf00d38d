/- Layer 2: the texts of errors, whatever the table of powers holds, and errors.Is, errors.Unwrap at errors of this layer. No condition of its own. -/
import Derived.Test.YtkcgmheljdkacaaDoorFaultQ
namespace Go.Proofs.YtkcgmheljdkacaaDoor
open Go.RowKit Go.Extern.Stop Go.Stop Go.Extern

theorem Itoa2_any (pw : Nat → Nat) (n : Int) (h0 : -9223372036854775808 ≤ n) (h1 : n ≤ 9223372036854775807) (w : World) (hT : Tab pw w) :
    Calls Tryd.prog 51 #[.int .i64 n] w fun e w' => e = .returned (.string ⟨(itoaF pw n).toArray⟩) ∧ Below w.heap.size w w' := by
  go_enter Tryd.func51, Tryd.ntmps51
  go_wp2_with fail
  refine (Itoa_any pw n h0 h1 _ hT).mono ?_
  rintro e w1 ⟨rfl, b1⟩
  go_wp2_with fail
  go_ret
  exact ⟨rfl, b1⟩
theorem Itoa1_any (pw : Nat → Nat) (n : Int) (h0 : -9223372036854775808 ≤ n) (h1 : n ≤ 9223372036854775807) (w : World) (hT : Tab pw w) :
    Calls Tryd.prog 50 #[.int .i64 n] w fun e w' => e = .returned (.string ⟨(itoaF pw n).toArray⟩) ∧ Below w.heap.size w w' := by
  go_enter Tryd.func50, Tryd.ntmps50
  go_wp2_with fail
  refine (Itoa2_any pw n h0 h1 _ hT).mono ?_
  rintro e w1 ⟨rfl, b1⟩
  go_wp2_with fail
  go_ret
  exact ⟨rfl, b1⟩
def cText (pw : Nat → Nat) (c : Int) : ByteArray := ⟨#[101, 114, 114, 111, 114, 32]⟩ ++ ⟨(itoaF pw c).toArray⟩
theorem cText_size (pw : Nat → Nat) (c : Int) : (cText pw c).size ≤ 30 := by
  unfold cText
  rw [ByteArray.size_append']
  have : (ByteArray.mk (itoaF pw c).toArray).size ≤ 24 := by
    show (itoaF pw c).toArray.size ≤ 24
    simpa using itoaF_len pw c
  show 6 + _ ≤ 30
  omega
theorem cerr_any (pw : Nat → Nat) (c : Int) (h0 : -9223372036854775808 ≤ c) (h1 : c ≤ 9223372036854775807) (w : World) (hT : Tab pw w) :
    Calls Tryd.prog 49 #[.int .i64 c] w fun e w' => e = .returned (.string (cText pw c)) ∧ Below w.heap.size w w' := by
  have hs : (ByteArray.mk (itoaF pw c).toArray).size ≤ 24 := by
    show (itoaF pw c).toArray.size ≤ 24
    simpa using itoaF_len pw c
  have ha : ∀ w, (Op.stringOp .add ⟨#[101, 114, 114, 111, 114, 32]⟩ ⟨(itoaF pw c).toArray⟩).run Tryd.prog w = .ok (.string (⟨#[101, 114, 114, 111, 114, 32]⟩ ++ ⟨(itoaF pw c).toArray⟩)) w := fun w => run_string_add_sum w _ _ (by show 6 + _ ≤ _; omega)
  clear hs
  go_enter Tryd.func49, Tryd.ntmps49
  go_wp2_with fail
  refine (Itoa1_any pw c h0 h1 _ hT).mono ?_
  rintro e w1 ⟨rfl, b1⟩
  go_wp2_with fail
  go_ret
  exact ⟨rfl, b1⟩
theorem ferr_any (pw : Nat → Nat) (c a : Int) (h0 : -9223372036854775808 ≤ c) (h1 : c ≤ 9223372036854775807) (w : World) (hT : Tab pw w) :
    Calls Tryd.prog 64 #[.agg #[.int .i64 c, .int .i64 a]] w fun e w' => e = .returned (.string (cText pw c)) ∧ Below w.heap.size w w' := by
  have hT1 := hT.alloc (.cells #[.int .i64 c, .int .i64 a] 48)
  go_enter Tryd.func64, Tryd.ntmps64
  go_wp2_with fail
  refine (cerr_any pw c h0 h1 _ hT1).mono ?_
  rintro e w1 ⟨rfl, b1⟩
  go_wp2_with fail
  go_ret
  exact ⟨rfl, ((Below.refl _ _).alloc (Nat.le_refl _) _).trans (b1.mono (by simp))⟩
def txt (pw : Nat → Nat) (c : Int) (ps : List ByteArray) : ByteArray := ps.foldr (fun p s => p ++ ⟨#[58, 32]⟩ ++ s) (cText pw c)
theorem txt_size (pw : Nat → Nat) (c : Int) : ∀ ps : List ByteArray, (∀ s ∈ ps, s.size ≤ 50) → (txt pw c ps).size ≤ 30 + 52 * ps.length
  | [], _ => cText_size pw c
  | p :: ps, h => by
    have ih := txt_size pw c ps fun s hs => h s (List.mem_cons_of_mem _ hs)
    have hp := h p List.mem_cons_self
    show (p ++ ⟨#[58, 32]⟩ ++ txt pw c ps).size ≤ _
    rw [ByteArray.size_append', ByteArray.size_append']
    show p.size + 2 + (txt pw c ps).size ≤ _
    rw [List.length_cons]
    omega
theorem keeps_tab (pw : Nat → Nat) : Keeps (Tab pw) := ⟨fun _ o h => h.alloc o, fun _ h => h⟩
theorem werr_any (pw : Nat → Nat) (f : Bool) (c a : Int) (h0 : -9223372036854775808 ≤ c) (h1 : c ≤ 9223372036854775807) :
    ∀ (ps : List ByteArray) (p : ByteArray), (∀ s ∈ p :: ps, s.size ≤ 50) → ps.length ≤ 30 → ∀ w, Tab pw w →
      Calls Tryd.prog 66 #[.agg #[.string p, wraps ps (baseV f c a)]] w fun e w' => e = .returned (.string (txt pw c (p :: ps))) ∧ Below w.heap.size w w'
  | [], p, hp, _, w, hT => by
    have hs := cText_size pw c
    have hp' := hp p List.mem_cons_self
    cases f
    · exact werr_c (keeps_tab pw) (fun w hw => cerr_any pw c h0 h1 w hw) p (by omega) w hT
    · exact werr_f (keeps_tab pw) (fun w hw => ferr_any pw c a h0 h1 w hw) p (by omega) w hT
  | q :: ps, p, hp, hl, w, hT => by
    have hp' := hp p List.mem_cons_self
    have hq : ∀ s ∈ q :: ps, s.size ≤ 50 := fun s hs => hp s (List.mem_cons_of_mem _ hs)
    have hs := txt_size pw c (q :: ps) hq
    have hl' : ps.length ≤ 30 := by rw [List.length_cons] at hl; omega
    exact werr_w (keeps_tab pw) (fun w hw => werr_any pw f c a h0 h1 ps q hq hl' w hw) p (by rw [List.length_cons] at hs hl; omega) w hT

/-! ### errors.Unwrap, errors.Is -/
theorem Unwrap_any (p : ByteArray) (v : Value) (w : World) :
    Calls Tryd.prog 15 #[.iface 53 (.agg #[.string p, v])] w fun e w' => e = .returned v ∧ Below w.heap.size w w' := by
  have c4 := hasUn_w
  have c5 := mUn_w
  go_enter Tryd.func15, Tryd.ntmps15
  go_wp2_with fail
  refine (unwrap_w p v _).mono ?_
  rintro e w1 ⟨rfl, b1⟩
  go_wp2_with fail
  go_ret
  exact ⟨rfl, b1⟩

/-- '==' between two interface values that hold codes: as the numbers are -/
theorem eq_codes (c d : Int) (w : World) : (binOp .eql 28 (.iface 30 (.int .i64 c)) (.iface 30 (.int .i64 d))).run Tryd.prog w = .ok (.bool (c == d)) w := by
  obtain ⟨i, hi, hc⟩ := Option.map_eq_some_iff.1 (show (Tryd.prog.info? 30).map (fun i => i.comparable) = some true by kernel_rfl)
  have e : ∀ k, (Op.equalIn (k + 2) 28 (.iface 30 (.int .i64 c)) (.iface 30 (.int .i64 d))).run Tryd.prog w = .ok (c == d) w := fun k => by
    simp [Op.equalIn, run_underlying Tryd.underlying28, run_underlying Tryd.underlying30, typeInfo, hi, hc]
  simp only [binOp]
  simp [Op.equal, Op.maxDepth, e 9998]
theorem eq_types (T : Nat) (x : Value) (d : Int) (hT : T ≠ 30) (w : World) : (binOp .eql 28 (.iface T x) (.iface 30 (.int .i64 d))).run Tryd.prog w = .ok (.bool false) w :=
  run_eql_iface_types T 30 x _ Tryd.underlying28 hT w

theorem eq_codes' {c d : Int} {b : Bool} (h : (c == d) = b) (w : World) : (binOp .eql 28 (.iface 30 (.int .i64 c)) (.iface 30 (.int .i64 d))).run Tryd.prog w = .ok (.bool b) w := h ▸ eq_codes c d w
def IsRel (f : Bool) (c a : Int) (w : World) (v : Value) (wr : World) : Prop :=
  (v = codeV c ∧ f = false ∨ v = codeV c ∧ f = true ∨ v = faultV c a ∧ f = true ∨ ∃ p qs, v = wraps (p :: qs) (baseV f c a)) ∧ Below w.heap.size w wr

set_option maxRecDepth 100000 in
set_option maxHeartbeats 4000000 in
theorem is_true (f : Bool) (c a d : Int) (HCD : Hid ((c == d) = true)) (ps : List ByteArray) (w : World) :
    Calls Tryd.prog 23 #[wraps ps (baseV f c a), .iface 30 (.int .i64 d), .bool true] w fun e w' => e = .returned (.bool true) ∧ Below w.heap.size w w' := by
  go_enter Tryd.func23, Tryd.ntmps23
  go_wp2
  go_loopw [0] (fun v wr => IsRel f c a w v wr) (fun v _ => msz v)
  case atStart => exact ⟨rel_start' f c a ps, Below.refl _ _⟩
  case round =>
    obtain ⟨hv, hb⟩ := hrel
    rcases hv with ⟨rfl, h0⟩ | ⟨rfl, h0⟩ | ⟨rfl, rfl⟩ | ⟨p, qs, rfl⟩
    · clear h0
      simp only [codeV]
      have c1 := fun w => eq_codes' HCD.out w
      have c3 := noIs_c
      have c4 := noUn_c
      have c5 := noMany_c
      go_wp2_with fail
      go_ret
      exact ⟨rfl, hb⟩
    · clear h0
      simp only [codeV]
      have c1 := fun w => eq_codes' HCD.out w
      have c3 := noIs_c
      have c4 := noUn_c
      have c5 := noMany_c
      go_wp2_with fail
      go_ret
      exact ⟨rfl, hb⟩
    · simp only [faultV]
      have c1 := fun w => eq_types 48 (.agg #[.int .i64 c, .int .i64 a]) d (by decide) w
      have c3 := noIs_f
      have c4 := hasUn_f
      have c5 := mUn_f
      go_wp2_with fail
      refine (unwrap_f c a _).mono ?_
      rintro e w1 ⟨rfl, b1⟩
      unfold codeV
      go_wp2_with fail
      go_roundw
      case rel => exact ⟨.inr (.inl ⟨rfl, rfl⟩), hb.trans (b1.mono hb.size)⟩
      case measure => exact msz_fault c a
    · obtain ⟨T, x, hx⟩ : ∃ T x, wraps qs (baseV f c a) = .iface T x := wraps_iface qs f c a
      have e : wraps (p :: qs) (baseV f c a) = .iface 53 (.agg #[.string p, .iface T x]) := by
        rw [← hx]; rfl
      have X := Lib.hid hx
      rw [e]
      clear e hx
      have c1 := fun w => eq_types 53 (.agg #[.string p, .iface T x]) d (by decide) w
      have c3 := noIs_w
      have c4 := hasUn_w
      have c5 := mUn_w
      go_wp2_with fail
      refine (unwrap_w p (.iface T x) _).mono ?_
      rintro e w1 ⟨rfl, b1⟩
      go_wp2_with fail
      go_roundw
      case rel => exact ⟨X.out ▸ rel_start' f c a qs, hb.trans (b1.mono hb.size)⟩
      case measure => exact msz_wrap _ _


set_option maxRecDepth 100000 in
set_option maxHeartbeats 4000000 in
theorem is_false (f : Bool) (c a d : Int) (HCD : Hid ((c == d) = false)) (ps : List ByteArray) (w : World) :
    Calls Tryd.prog 23 #[wraps ps (baseV f c a), .iface 30 (.int .i64 d), .bool true] w fun e w' => e = .returned (.bool false) ∧ Below w.heap.size w w' := by
  go_enter Tryd.func23, Tryd.ntmps23
  go_wp2
  go_loopw [0] (fun v wr => IsRel f c a w v wr) (fun v _ => msz v)
  case atStart => exact ⟨rel_start' f c a ps, Below.refl _ _⟩
  case round =>
    obtain ⟨hv, hb⟩ := hrel
    rcases hv with ⟨rfl, h0⟩ | ⟨rfl, h0⟩ | ⟨rfl, rfl⟩ | ⟨p, qs, rfl⟩
    · clear h0
      simp only [codeV]
      have c1 := fun w => eq_codes' HCD.out w
      have c3 := noIs_c
      have c4 := noUn_c
      have c5 := noMany_c
      go_wp2_with fail
      go_ret
      exact ⟨rfl, hb⟩
    · clear h0
      simp only [codeV]
      have c1 := fun w => eq_codes' HCD.out w
      have c3 := noIs_c
      have c4 := noUn_c
      have c5 := noMany_c
      go_wp2_with fail
      go_ret
      exact ⟨rfl, hb⟩
    · simp only [faultV]
      have c1 := fun w => eq_types 48 (.agg #[.int .i64 c, .int .i64 a]) d (by decide) w
      have c3 := noIs_f
      have c4 := hasUn_f
      have c5 := mUn_f
      go_wp2_with fail
      refine (unwrap_f c a _).mono ?_
      rintro e w1 ⟨rfl, b1⟩
      unfold codeV
      go_wp2_with fail
      go_roundw
      case rel => exact ⟨.inr (.inl ⟨rfl, rfl⟩), hb.trans (b1.mono hb.size)⟩
      case measure => exact msz_fault c a
    · obtain ⟨T, x, hx⟩ : ∃ T x, wraps qs (baseV f c a) = .iface T x := wraps_iface qs f c a
      have e : wraps (p :: qs) (baseV f c a) = .iface 53 (.agg #[.string p, .iface T x]) := by
        rw [← hx]; rfl
      have X := Lib.hid hx
      rw [e]
      clear e hx
      have c1 := fun w => eq_types 53 (.agg #[.string p, .iface T x]) d (by decide) w
      have c3 := noIs_w
      have c4 := hasUn_w
      have c5 := mUn_w
      go_wp2_with fail
      refine (unwrap_w p (.iface T x) _).mono ?_
      rintro e w1 ⟨rfl, b1⟩
      go_wp2_with fail
      go_roundw
      case rel => exact ⟨X.out ▸ rel_start' f c a qs, hb.trans (b1.mono hb.size)⟩
      case measure => exact msz_wrap _ _


theorem is_any (f : Bool) (c a d : Int) (ps : List ByteArray) (w : World) :
    Calls Tryd.prog 23 #[wraps ps (baseV f c a), .iface 30 (.int .i64 d), .bool true] w fun e w' => e = .returned (.bool (c == d)) ∧ Below w.heap.size w w' := by
  cases hcd : (c == d)
  · exact is_false f c a d hcd ps w
  · exact is_true f c a d hcd ps w

theorem comparable_c (w : World) : (ReflectliteType.method (fun t => do Rtype.noPackHeld "Comparable" t; (fun a => Value.bool (TypeInfo.comparable a)) <$> typeInfo t) #[.agg #[.pointer (some ⟨5, 30, none⟩)]]).run Tryd.prog w = .ok (.bool true) w := by kernel_rfl
set_option maxHeartbeats 1000000 in
set_option maxRecDepth 100000 in
theorem Is_any (f : Bool) (c a d : Int) (ps : List ByteArray) (w : World) :
    Calls Tryd.prog 16 #[wraps ps (baseV f c a), .iface 30 (.int .i64 d)] w fun e w' => e = .returned (.bool (c == d)) ∧ Below w.heap.size w w' := by
  have h22 := @run_callFunc_extern Tryd.prog 22 _ ReflectliteType.typeOf Tryd.func22 (by kernel_rfl) (by kernel_rfl) (by kernel_rfl) (by kernel_rfl)
  have h70 := @run_callFunc_extern Tryd.prog 70 _ (ReflectliteType.method fun t => do Rtype.noPackHeld "Comparable" t; pure (.bool (← typeInfo t).comparable)) Tryd.func70 (by kernel_rfl) (by kernel_rfl) (by kernel_rfl) (by kernel_rfl)
  have c1 := typeOf_c
  have c2 := mComparable
  have c3 := comparable_c
  obtain ⟨T, x, hx⟩ := wraps_iface ps f c a
  have X := Lib.hid hx
  rw [hx]
  clear hx
  go_enter Tryd.func16, Tryd.ntmps16
  go_wp2_with fail
  rw [← X.out]
  refine (is_any f c a d ps _).mono ?_
  rintro e w1 ⟨rfl, b1⟩
  go_wp2_with fail
  go_ret
  exact ⟨rfl, b1⟩
end Go.Proofs.YtkcgmheljdkacaaDoor
