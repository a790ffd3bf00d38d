/- PadAR + RNumber + ShapeAR + ShapeR -/
import Derived.Test.YteknmgmdmjmnmaaGreatDoorUP
import Derived.Test.YteknmgmdmjmnmaaGreatDoorUW
import Derived.Test.YteknmgmdmjmnmaaGreatDoorUS

namespace Go.Proofs.YteknmgmdmjmnmaaGreatDoor
open Go.RowKit

theorem rgap_any (n : Nat) (hn : n < 4611686018427387904) (w : World) : Calls Tryz.prog 153 #[.int .i64 (n : Int)] w fun e w' => e = .returned (.int .i64 (gap n : Nat)) ∧ w = w' := by
  have hg := gap_lt n
  go_enter Tryz.func153, Tryz.ntmps153
  go_wp2
  go_loop [3] (fun i => ∃ k : Nat, k ≤ gap n ∧ i = .int .i64 k) (fun i => gap n - (intOf i).toNat)
  case atStart => exact ⟨0, Nat.zero_le _, rfl⟩
  case round =>
    obtain ⟨k, hk, rfl⟩ := hrel
    by_cases hlt : k < gap n
    · have ht : (((n : Int) + (k : Int)) % 4 != 0) = true := by
        rw [bne_iff_ne]
        unfold gap at hlt
        omega
      go_wp2
      go_round
      case rel => exact ⟨k + 1, by omega, by go_num⟩
      case measure => simp [intOf]; omega
    · have hkg : k = gap n := by omega
      have ht : (((n : Int) + (k : Int)) % 4 != 0) = false := by
        rw [bne_eq_false_iff_eq]
        unfold gap at hkg
        omega
      have HK := Lib.hid hkg
      clear hkg hlt
      go_wp2
      go_ret
      exact ⟨ret_int (by rw [HK.out]), rfl⟩

end Go.Proofs.YteknmgmdmjmnmaaGreatDoor


namespace Go.Proofs.YteknmgmdmjmnmaaGreatDoor
open Go.RowKit

theorem right_any (k : Int) (w : World) : Calls Tryz.prog 62 #[.int .i64 k] w fun e w' => e = .returned (.bool (widthB k)) ∧ w = w' := by
  by_cases h1 : k = 1
  · subst h1
    go_enter Tryz.func62, Tryz.ntmps62
    go_wp2
    go_ret
    exact ⟨rfl, rfl⟩
  · by_cases h2 : k = 2
    · subst h2
      go_enter Tryz.func62, Tryz.ntmps62
      go_wp2
      go_ret
      exact ⟨rfl, rfl⟩
    · by_cases h4 : k = 4
      · subst h4
        go_enter Tryz.func62, Tryz.ntmps62
        go_wp2
        go_ret
        exact ⟨rfl, rfl⟩
      · have e1 : (k == 1) = false := by simp [h1]
        have e2 : (k == 2) = false := by simp [h2]
        have e4 : (k == 4) = false := by simp [h4]
        go_enter Tryz.func62, Tryz.ntmps62
        go_wp2
        go_ret
        exact ⟨by simp [widthB, h1, h2, h4], rfl⟩

/-! ### Number of the reference -/
theorem rnumber_bad (A : Option Addr) (n c : Nat) (at_ k : Int) (w : World) (hw : widthB k = false) :
    Calls Tryz.prog 77 #[.slice A n c, .int .i64 at_, .int .i64 k] w fun e w' => e = .returned (.tuple #[.int .u32 0, .bool false]) ∧ w = w' := by
  go_enter Tryz.func77, Tryz.ntmps77
  go_wp2_with (go_at_call 62; refine (right_any _ _).mono ?_; rintro e w' ⟨rfl, rfl⟩)
  go_ret2
  exact ⟨rfl, rfl⟩
theorem width_le {k : Int} (h : widthB k = true) : 1 ≤ k ∧ k ≤ 4 := by
  simp [widthB] at h
  omega
theorem rnumber_no (A : Option Addr) (n c : Nat) (p : Nat) (k : Int) (w : World) (hn : n ≤ 140737488355328) (hp : p ≤ n) (hk : ¬ (widthB k = true ∧ k ≤ (n : Int) - (p : Int))) :
    Calls Tryz.prog 77 #[.slice A n c, .int .i64 (p : Int), .int .i64 k] w fun e w' => e = .returned (.tuple #[.int .u32 0, .bool false]) ∧ w = w' := by
  by_cases hw : widthB k = true
  · have hb := width_le hw
    have hb1 := hb.1
    have hb2 := hb.2
    have hgt : (n : Int) < (p : Int) + k := by
      have : ¬ k ≤ (n : Int) - (p : Int) := fun h => hk ⟨hw, h⟩
      omega
    clear hk hb
    go_enter Tryz.func77, Tryz.ntmps77
    go_wp2_with (go_at_call 62; refine (right_any _ _).mono ?_; rintro e w' ⟨rfl, rfl⟩)
    go_ret2
    exact ⟨rfl, rfl⟩
  · exact rnumber_bad A n c _ k w (by simpa using hw)
theorem rnumber_yes (A : Option Addr) (c B : Nat) (b : List UInt8) (p k : Nat) (w : World) (h : Lies w B A (b.map bv)) (hn : b.length ≤ 140737488355328) (hw : widthB k = true) (hk : p + k ≤ b.length) :
    Calls Tryz.prog 77 #[.slice A b.length c, .int .i64 (p : Int), .int .i64 (k : Int)] w fun e w' => e = .returned (.tuple #[.int .u32 (numOf ((b.drop p).take k) : Nat), .bool true]) ∧ w = w' := by
  have hb := width_le hw
  have hb2 := hb.2
  clear hb
  have hle : ¬ (b.length : Int) < (p : Int) + (k : Int) := by omega
  have hi : ∀ i, i < k → ((b.drop p).take k)[i]? = b[p + i]? := by
    intro i hi
    rw [List.getElem?_take, if_pos hi, List.getElem?_drop]
  have HI := Lib.hid hi
  have hlen : ((b.drop p).take k).length = k := by rw [List.length_take, List.length_drop]; omega
  have HL := Lib.hid hlen
  clear hi hlen
  generalize hl : (b.drop p).take k = l at *
  clear hl
  go_enter Tryz.func77, Tryz.ntmps77
  go_wp2_with (go_at_call 62; refine (right_any _ _).mono ?_; rintro e w' ⟨rfl, rfl⟩)
  go_loop [8, 9] (fun t i => ∃ j : Nat, j ≤ k ∧ i = .int .i64 j ∧ t = .int .u32 (numOf (l.take j) : Nat)) (fun _ i => k - (intOf i).toNat)
  case atStart => exact ⟨0, Nat.zero_le _, rfl, rfl⟩
  case round =>
    obtain ⟨j, hj, rfl, rfl⟩ := hrel
    by_cases hlt : j < k
    · obtain ⟨ad, x, rfl, _, hx, hc⟩ := h.byte (k := p + j) (by omega)
      have hx2 := Lib.hid (numOf_take ((HI.out j hlt).trans hx.out))
      have hxn := numOf_lt (l.take j)
      go_wp2
      go_round
      case rel => exact ⟨j + 1, by omega, by go_num, by rw [hx2.out]; unfold numStep; congr 1; omega⟩
      case measure => simp [intOf]; omega
    · have HE : Hid (l.take j = l) := List.take_of_length_le (by have := HL.out; omega)
      go_wp2
      go_ret2
      exact ⟨ret2_int (by rw [HE.out]), rfl⟩

end Go.Proofs.YteknmgmdmjmnmaaGreatDoor


namespace Go.Proofs.YteknmgmdmjmnmaaGreatDoor
open Go.RowKit

theorem built_rform (c : Int) (ty : Int) (nm : ByteArray) (lo hi un ki : Int) :
    Tryz.prog.built 168 [(0, .int .i64 c), (1, .int .u16 ty), (2, .string nm), (3, .int .i64 lo), (4, .int .i64 hi), (5, .int .i64 un), (6, .int .i64 ki)] = some #[.int .i64 c, .int .u16 ty, .string nm, .int .i64 lo, .int .i64 hi, .int .i64 un, .int .i64 ki] := by kernel_rfl
theorem wpList_rform {ops : Array Oper} {rest : List Oper} {a : Act} {w : World} {Q : Exit → Act → World → Prop} {dst : Option Nat} {ot : TypeId} {pos : String} {after : Array Edge}
    {c ty : Int} {nm : ByteArray} {lo hi un ki : Int} {x : Operand} (hx : a.eval x = .int .i64 hi)
    (h : wpList Tryz.prog ops Q rest (a.put dst (.agg #[.int .i64 c, .int .u16 ty, .string nm, .int .i64 lo, .int .i64 hi, .int .i64 un, .int .i64 ki])) w) :
    wpList Tryz.prog ops Q (⟨dst, .build 168 #[(0, .const (.int .i64 c)), (1, .const (.int .u16 ty)), (2, .const (.string nm)), (3, .const (.int .i64 lo)), (4, x), (5, .const (.int .i64 un)), (6, .const (.int .i64 ki))], ot, pos, after, none⟩ :: rest) a w := by
  have hp : ((#[(0, .const (.int .i64 c)), (1, .const (.int .u16 ty)), (2, .const (.string nm)), (3, .const (.int .i64 lo)), (4, x), (5, .const (.int .i64 un)), (6, .const (.int .i64 ki))] : Array (Nat × Operand)).map fun (i, x) => (i, a.eval x)).toList =
      [(0, .int .i64 c), (1, .int .u16 ty), (2, .string nm), (3, .int .i64 lo), (4, .int .i64 hi), (5, .int .i64 un), (6, .int .i64 ki)] := by
    simp only [List.map_toArray, List.map_cons, List.map_nil, hx]
    rfl
  refine wpList_build rfl 168 _ rfl ?_ ?_
  · rw [hp, built_rform]; rfl
  · rw [hp, built_rform]; exact h



set_option maxRecDepth 100000 in
set_option maxHeartbeats 4000000 in
theorem rtable_any (w : World) : Calls Tryz.prog 152 #[] w fun e w' => e = .returned (.slice (some ⟨w.heap.size, 0, none⟩) 46 46) ∧ w' = w.alloc (.cells (flat (pT ++ cT)).toArray 168) := by
  go_enter Tryz.func152, Tryz.ntmps152
  go_wp2_with (first | (refine wpList_rform rfl ?_) | (refine Go.Great.wpList_buildSliceTo rfl 211 168 46 _ rfl w.heap.size rfl _ rfl Tryz.underlying211 (flat (pT ++ cT)).toArray (by kernel_rfl) ?_))
  go_ret
  exact ⟨rfl, rfl⟩

end Go.Proofs.YteknmgmdmjmnmaaGreatDoor



namespace Go.Proofs.YteknmgmdmjmnmaaGreatDoor
open Go.RowKit

/-- the whole table, as the reference has it -/
def whole : List Form := pT ++ cT
theorem whole_len : whole.length = 46 := rfl
theorem rtab_any (w : World) : Calls Tryz.prog 152 #[] w fun e w' => ∃ A, e = .returned (.slice A 46 46) ∧ Lies w' w'.heap.size A (flat whole) ∧ Below w.heap.size w w' :=
  (rtable_any w).mono fun e w' ⟨h1, h2⟩ => by
    subst h2
    exact ⟨_, h1, (Lies.newN w (flat whole) 168).more (by simp), (Below.refl _ _).alloc (Nat.le_refl _) _⟩

/-- the first form of a class and a type, or none -/
def rlook (c : Int) (t : UInt16) : Option Form := whole.find? fun f => decide (f.cl = c) && decide (f.ty = t)
theorem rlook_eq (c : Int) (t : UInt16) : rlook c t = look (tab c) t := by
  have hp : ∀ f ∈ pT, f.cl = 1 := by
    have : pT.all (fun f => f.cl == 1) = true := rfl
    intro f hf
    simpa using List.all_eq_true.1 this f hf
  have hc : ∀ f ∈ cT, f.cl = 2 := by
    have : cT.all (fun f => f.cl == 2) = true := rfl
    intro f hf
    simpa using List.all_eq_true.1 this f hf
  have ha : ∀ (L : List Form) (d : Int), (∀ f ∈ L, f.cl = d) → L.find? (fun f => decide (f.cl = c) && decide (f.ty = t)) = if d = c then look L t else none := by
    intro L d
    unfold look
    induction L with
    | nil => intro _; simp
    | cons f L ih =>
      intro h
      have h1 := ih fun g hg => h g (List.mem_cons_of_mem _ hg)
      have h2 := h f List.mem_cons_self
      rw [List.find?_cons, List.find?_cons, h1, h2]
      by_cases hd : d = c
      · subst hd; simp
      · simp [hd]
  unfold rlook whole tab
  rw [List.find?_append, ha pT 1 hp, ha cT 2 hc]
  by_cases h1 : c = 1
  · subst h1; simp
  · by_cases h2 : c = 2
    · subst h2; simp
    · rw [if_neg (Ne.symm h1), if_neg (Ne.symm h2), if_neg h1, if_neg h2]; rfl
def No2 (L : List Form) (k : Nat) (c : Int) (t : UInt16) : Prop := ∀ (j : Nat) (f : Form), j < k → L[j]? = some f → ¬ (f.cl = c ∧ f.ty = t)
theorem No2.zero (L : List Form) (c : Int) (t : UInt16) : No2 L 0 c t := fun j _ h => absurd h (by omega)
theorem No2.next {L : List Form} {k : Nat} {c : Int} {t : UInt16} {f : Form} (h : No2 L k c t) (hf : L[k]? = some f) (hn : ¬ (f.cl = c ∧ f.ty = t)) : No2 L (k + 1) c t := fun j g hj hg => by
  by_cases hk : j = k
  · subst hk; rw [hf] at hg; cases hg; exact hn
  · exact h j g (by omega) hg
theorem rlook_none {c : Int} {t : UInt16} (h : No2 whole 46 c t) : rlook c t = none := by
  unfold rlook
  rw [List.find?_eq_none]
  intro f hf
  obtain ⟨j, hj, rfl⟩ := List.getElem_of_mem hf
  have := h j _ (by rw [← whole_len]; exact hj) (List.getElem?_eq_getElem hj)
  simpa using this
theorem rlook_some {c : Int} {t : UInt16} {k : Nat} {f : Form} (h : No2 whole k c t) (hf : whole[k]? = some f) (hc : f.cl = c) (ht : f.ty = t) : rlook c t = some f := by
  unfold rlook
  rw [List.find?_eq_some_iff_getElem]
  obtain ⟨hk, rfl⟩ := List.getElem?_eq_some_iff.1 hf
  refine ⟨by simp [hc, ht], k, hk, rfl, fun j hj => ?_⟩
  have := h j _ hj (List.getElem?_eq_getElem (by omega))
  by_cases h1 : whole[j].cl = c
  · have h2 : ¬ whole[j].ty = t := fun h2 => this ⟨h1, h2⟩
    simp [h2]
  · simp [h1]
/-- what the reference returns -/
def rV : Option Form → Value
  | some f => f.val
  | none => .agg zform

set_option maxHeartbeats 2000000 in
theorem rof_any (c : Int) (t : UInt16) (w : World) : Calls Tryz.prog 107 #[.int .i64 c, hv t] w fun e w' => e = .returned (rV (look (tab c) t)) ∧ Below w.heap.size w w' := by
  rw [← rlook_eq]
  have hT := rtab_any
  have hwl := whole_len
  have hS : ∀ (k : Nat) (f : Form), No2 whole k c t → whole[k]? = some f → f.cl = c → f.ty = t → rlook c t = some f := fun k f => rlook_some
  have hE : No2 whole 46 c t → rlook c t = none := rlook_none
  generalize rlook c t = r at *
  generalize whole = L at *
  go_enter Tryz.func107, Tryz.ntmps107
  go_wp2_with fail
  refine (hT _).mono ?_
  rintro e w1 ⟨A, rfl, hl, b1⟩
  have hW1 := (Whole.new w 168 zform).below b1 (by simp)
  have hb1 : Below w.heap.size w w1 := ((Below.refl _ w).alloc (Nat.le_refl _) _).trans (b1.mono (by simp))
  go_wp2_with fail
  go_loop [6] (fun i => ∃ k : Nat, k ≤ 46 ∧ i = .int .i64 k ∧ Hid (No2 L k c t)) (fun i => 46 - (intOf i).toNat)
  case atStart => exact ⟨0, by omega, rfl, No2.zero _ _ _⟩
  case round =>
    obtain ⟨k, hk, rfl, hno⟩ := hrel
    by_cases hlt : k < 46
    · obtain ⟨ad, f, rfl, hb, hf, hcs, hc0, hc1, hc2⟩ := hl.form (by omega : k < L.length)
      by_cases hcl : f.cl = c
      · by_cases hft : f.ty = t
        · have HL := Lib.hid (hS k f hno.out hf.out hcl hft)
          subst hcl hft
          go_wp2_with (first | (refine wpList_load_form rfl 168 _ rfl (ad.add (k * 7)) rfl f hcs _ Tryz.underlying168 rfl (by kernel_rfl) ?_) | (refine wpList_store_form rfl 168 _ _ rfl w.heap.size rfl rfl _ _ hW1 (by kernel_rfl) rfl ?_))
          (try simp only [Exit.inBlock, Exit.then])
          refine bodyPost_ret (results_cell_row rfl _ _ w.heap.size 168 _ (0, 0) _ rfl (hW1.setRow _) Tryz.underlying168 rfl (by kernel_rfl)) rfl ?_
          exact ⟨by rw [HL.out]; rfl, below_setRow hb1 (Nat.le_refl _) _⟩
        · have HN := Lib.hid (hno.out.next hf.out (fun h => hft h.2))
          have hne : ((f.ty.toNat : Int) == (t.toNat : Int)) = false := by
            rw [beq_eq_false_iff_ne]
            exact fun h => hft (UInt16.toNat_inj.1 (by omega))
          subst hcl
          clear hft
          go_wp2_with fail
          go_round
          case rel => exact ⟨k + 1, by omega, by go_num, HN⟩
          case measure => simp [intOf]; omega
      · have HN := Lib.hid (hno.out.next hf.out (fun h => hcl h.1))
        go_wp2_with fail
        go_round
        case rel => exact ⟨k + 1, by omega, by go_num, HN⟩
        case measure => simp [intOf]; omega
    · obtain rfl : k = 46 := by omega
      have HL := Lib.hid (hE hno.out)
      go_wp2_with (first | (refine wpList_store_form rfl 168 _ _ rfl w.heap.size rfl rfl _ _ hW1 (by kernel_rfl) rfl ?_))
      (try simp only [Exit.inBlock, Exit.then])
      refine bodyPost_ret (results_cell_row rfl _ _ w.heap.size 168 _ (0, 0) _ rfl (hW1.setRow _) Tryz.underlying168 rfl (by kernel_rfl)) rfl ?_
      exact ⟨by rw [HL.out]; rfl, below_setRow hb1 (Nat.le_refl _) _⟩

/-! ### Fits of the reference -/
theorem step_fits {lo n k un : Int} (_hu : 0 < un) (h1 : (k - lo) % un = 0) (h2 : ¬ (lo ≤ n ∧ n < k ∧ (n - lo) % un = 0)) (hne : ¬ k = n) :
    (k + un - lo) % un = 0 ∧ ¬ (lo ≤ n ∧ n < k + un ∧ (n - lo) % un = 0) := by
  refine ⟨?_, fun ⟨a, b, c⟩ => ?_⟩
  · rw [show k + un - lo = (k - lo) + un by omega, Int.add_emod_right]
    exact h1
  · by_cases hk : n < k
    · exact h2 ⟨a, hk, c⟩
    · have hd : un ∣ (n - lo) - (k - lo) := Int.dvd_sub (Int.dvd_of_emod_eq_zero c) (Int.dvd_of_emod_eq_zero h1)
      have := Int.le_of_dvd (by omega) hd
      omega

set_option maxHeartbeats 1000000 in
theorem rfits_any (f : Form) (hf : Tame f) (n : Int) (w : World) : Calls Tryz.prog 108 #[f.val, .int .i64 n] w fun e w' => e = .returned (.bool (fitsB f n)) ∧ Below w.heap.size w w' := by
  obtain ⟨⟨h1, h2⟩, ⟨h3, h4⟩, h5, h6⟩ := hf
  have hW := Whole.new w 168 #[.int .i64 f.cl, hv f.ty, .string f.nm, .int .i64 f.lo, .int .i64 f.hi, .int .i64 f.un, .int .i64 f.ki]
  have c3 := hW.cell 3
  have c4 := hW.cell 4
  have c5 := hW.cell 5
  have hb : Below w.heap.size w (w.alloc (.cells #[.int .i64 f.cl, hv f.ty, .string f.nm, .int .i64 f.lo, .int .i64 f.hi, .int .i64 f.un, .int .i64 f.ki] 168)) := (Below.refl _ _).alloc (Nat.le_refl _) _
  simp only [List.getElem?_toArray, List.getElem?_cons_zero, List.getElem?_cons_succ] at c3 c4 c5
  have hS : ∀ k : Int, (k - f.lo) % f.un = 0 → ¬ (f.lo ≤ n ∧ n < k ∧ (n - f.lo) % f.un = 0) → ¬ k = n → (k + f.un - f.lo) % f.un = 0 ∧ ¬ (f.lo ≤ n ∧ n < k + f.un ∧ (n - f.lo) % f.un = 0) := fun k => step_fits (by omega)
  have hY : ∀ k : Int, f.lo ≤ k → k ≤ f.hi → (k - f.lo) % f.un = 0 → fitsB f k = true := fun k a b c => by
    unfold fitsB
    rw [decide_eq_true a, decide_eq_true b, c]
    rfl
  have hN : ∀ k : Int, f.hi < k → ¬ (f.lo ≤ n ∧ n < k ∧ (n - f.lo) % f.un = 0) → fitsB f n = false := fun k a b => by
    unfold fitsB
    by_cases d1 : f.lo ≤ n
    · by_cases d2 : n ≤ f.hi
      · have d3 : ¬ (n - f.lo) % f.un = 0 := fun d3 => b ⟨d1, by omega, d3⟩
        simp [d3]
      · simp [d2]
    · simp [d1]
  unfold Form.val
  have HS := Lib.hid hS
  have HY := Lib.hid hY
  have HNo := Lib.hid hN
  clear hS hY hN hW
  generalize hfB : fitsB f n = b at *
  go_enter Tryz.func108, Tryz.ntmps108
  go_wp2_with fail
  generalize w.alloc (.cells #[.int .i64 f.cl, hv f.ty, .string f.nm, .int .i64 f.lo, .int .i64 f.hi, .int .i64 f.un, .int .i64 f.ki] 168) = w1 at *
  go_loop [5] (fun i => ∃ k : Int, i = .int .i64 k ∧ f.lo ≤ k ∧ k ≤ 65539 ∧ Hid ((k - f.lo) % f.un = 0) ∧ Hid (¬ (f.lo ≤ n ∧ n < k ∧ (n - f.lo) % f.un = 0))) (fun i => (65540 - intOf i).toNat)
  case atStart => exact ⟨f.lo, rfl, Int.le_refl _, by omega, by unfold Hid; simp, fun ⟨a, b, _⟩ => by omega⟩
  case round =>
    obtain ⟨k, rfl, hk1, hk2, hk3, hk4⟩ := hrel
    by_cases hle : k ≤ f.hi
    · by_cases hkn : k = n
      · have HB := Lib.hid (HY.out k hk1 hle hk3.out)
        rw [hkn, hfB] at HB
        go_wp2_with fail
        go_ret
        exact ⟨ret_bool HB.out.symm, hb⟩
      · have HT := Lib.hid (HS.out k hk3.out hk4.out hkn)
        go_wp2_with fail
        go_round
        case rel => exact ⟨k + f.un, by go_num, by omega, by omega, HT.out.1, HT.out.2⟩
        case measure => simp [intOf]; omega
    · have HB := Lib.hid (HNo.out k (by omega) hk4.out)
      go_wp2_with fail
      go_ret
      exact ⟨ret_bool HB.out.symm, hb⟩


end Go.Proofs.YteknmgmdmjmnmaaGreatDoor


