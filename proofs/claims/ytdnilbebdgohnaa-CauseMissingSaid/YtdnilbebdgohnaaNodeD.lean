/- Layer 8: what is asked of one node: how many are inside (hasInside), the number in its data (counted), for whatever node. They write nothing that was there. -/
import Derived.Test.YtdnilbebdgohnaaNodeC
import Derived.Test.YtdnilbebdgohnaaWireC


namespace Go.Proofs.Ytdnilbebdgohnaa
open Go.RowKit

def zeroF : Form := ⟨0, 0, ByteArray.empty, 0, 0, 0, 0⟩
/-- the form of a type; the zero form, if it is not known -/
def formOf (c : Int) (t : UInt16) : Form := (look (tab c) t).getD zeroF
theorem ofV_eq (r : Option Form) : ofV r = .tuple #[(r.getD zeroF).val, .bool r.isSome] := by cases r <;> rfl
theorem look_mem {L : List Form} {t : UInt16} {f : Form} (h : look L t = some f) : f ∈ L := List.mem_of_find?_eq_some h
def tameB (f : Form) : Bool := decide ((0 ≤ f.lo ∧ f.lo ≤ 16) ∧ (0 ≤ f.hi ∧ f.hi ≤ 65531) ∧ (1 ≤ f.un ∧ f.un ≤ 8))
theorem tame_of {f : Form} (h : tameB f = true) : Tame f := by
  unfold tameB at h
  obtain ⟨h1, h2, h3⟩ := of_decide_eq_true h
  exact ⟨h1, h2, h3⟩
theorem tame_tab {c : Int} {f : Form} (h : f ∈ tab c) : Tame f := by
  have hp : pT.all tameB = true := by decide
  have hc : cT.all tameB = true := by decide
  unfold tab at h
  split at h
  · exact tame_of (List.all_eq_true.1 hp f h)
  · split at h
    · exact tame_of (List.all_eq_true.1 hc f h)
    · cases h
theorem formOf_some {c : Int} {t : UInt16} {f : Form} (h : look (tab c) t = some f) : formOf c t = f := by unfold formOf; rw [h]; rfl

/-! ### hasInside -/
def addr1 (ks : List Nd) : Bool := match ks with | k :: _ => decide (k.t = 5) || decide (k.t = 6) | [] => false
def insB (ki : Int) (ks : List Nd) : Bool := decide ((ins ki).2.1 ≤ (ks.length : Int)) && decide ((ks.length : Int) ≤ (ins ki).2.2) && (ki != 4 || addr1 ks)
theorem ins_four {ki : Int} (h : ki = 4) : (ins ki).2.1 = 1 := by subst h; rfl
set_option maxRecDepth 100000 in
set_option maxHeartbeats 1000000 in
theorem hasInside_any (f : Form) (K : Option Addr) (k : Nat) (ks : List Nd) (w : World) (h : Nodes w w.heap.size K ks) (hn : ks.length ≤ 10000000) :
    Calls Try.prog 62 #[f.val, .slice K ks.length k] w fun e w' => e = .returned (.bool (insB f.ki ks)) ∧ Below w.heap.size w w' := by
  unfold Form.val
  have hI := inside_any f.ki
  have h4 := fun h => ins_four (ki := f.ki) h
  have H1 : Hid (∀ b : Bool, b = (decide ((ins f.ki).2.1 ≤ (ks.length : Int)) && decide ((ks.length : Int) ≤ (ins f.ki).2.2) && (f.ki != 4 || addr1 ks)) → insB f.ki ks = b) := fun b hb => hb.symm
  generalize (ins f.ki).1 = c0 at *
  generalize (ins f.ki).2.1 = lo at *
  generalize (ins f.ki).2.2 = hi at *
  by_cases c1 : (ks.length : Int) < lo
  · have R := Lib.hid (H1.out false (by rw [decide_eq_false (by omega)]; rfl))
    clear h4 H1
    go_enter Try.func62, Try.ntmps62
    go_wp2_with fail
    refine (hI _).mono ?_
    rintro e w1 ⟨rfl, rfl⟩
    go_wp2_with fail
    go_ret
    exact ⟨ret_bool R.out.symm, (Below.refl _ _).alloc (Nat.le_refl _) _⟩
  have c1' : lo ≤ (ks.length : Int) := by omega
  by_cases c2 : hi < (ks.length : Int)
  · have R := Lib.hid (H1.out false (by rw [decide_eq_false (show ¬ (ks.length : Int) ≤ hi by omega)]; simp))
    clear h4 H1
    go_enter Try.func62, Try.ntmps62
    go_wp2_with fail
    refine (hI _).mono ?_
    rintro e w1 ⟨rfl, rfl⟩
    go_wp2_with fail
    go_ret
    exact ⟨ret_bool R.out.symm, (Below.refl _ _).alloc (Nat.le_refl _) _⟩
  have c2' : (ks.length : Int) ≤ hi := by omega
  by_cases c3 : f.ki = 4
  · have hlo := h4 c3
    have hk0 : 0 < ks.length := by omega
    obtain ⟨ad, A', c', K', k', n, rfl, hb, hn', hc0, hc1, hc2, hN⟩ := h.at_ hk0
    have HA : Hid (addr1 ks = (decide (n.t = 5) || decide (n.t = 6))) := by
      match ks, hn'.out with
      | x :: ks, hx => simp only [List.getElem?_cons_zero, Option.some.injEq] at hx; subst hx; rfl
    have R := Lib.hid (H1.out (addr1 ks) (by rw [decide_eq_true c1', decide_eq_true c2', c3]; simp))
    have hki : (f.ki != 4) = false := by rw [c3]; rfl
    have hz : ad.add (0 * 3) = ad := by simp [Addr.add]
    rw [hz] at hc0
    have HC3 := Lib.hid c3
    clear h4 H1 hc1 hc2 hlo c3
    by_cases t5 : n.t = 5
    · have hq : ((n.t.toNat : Int) == 5) = true := by rw [t5]; rfl
      have R2 := Lib.hid (show insB f.ki ks = true by rw [R.out, HA.out, decide_eq_true t5]; rfl)
      clear t5 R HA
      go_enter Try.func62, Try.ntmps62
      go_wp2_with fail
      refine (hI _).mono ?_
      rintro e w1 ⟨rfl, rfl⟩
      go_wp2_with fail
      go_ret
      exact ⟨ret_bool R2.out.symm, (Below.refl _ _).alloc (Nat.le_refl _) _⟩
    · have hq : ((n.t.toNat : Int) == 5) = false := by
        rw [beq_eq_false_iff_ne]
        intro e
        exact t5 (UInt16.toNat_inj.1 (by show n.t.toNat = 5; omega))
      by_cases t6 : n.t = 6
      · have hq6 : ((n.t.toNat : Int) == 6) = true := by rw [t6]; rfl
        have R2 := Lib.hid (show insB f.ki ks = true by rw [R.out, HA.out, decide_eq_true t6]; simp)
        clear t5 t6 R HA
        go_enter Try.func62, Try.ntmps62
        go_wp2_with fail
        refine (hI _).mono ?_
        rintro e w1 ⟨rfl, rfl⟩
        go_wp2_with fail
        go_ret
        exact ⟨ret_bool R2.out.symm, (Below.refl _ _).alloc (Nat.le_refl _) _⟩
      · have hq6 : ((n.t.toNat : Int) == 6) = false := by
          rw [beq_eq_false_iff_ne]
          intro e
          exact t6 (UInt16.toNat_inj.1 (by show n.t.toNat = 6; omega))
        have R2 := Lib.hid (show insB f.ki ks = false by rw [R.out, HA.out, decide_eq_false t6, decide_eq_false t5]; rfl)
        clear t5 t6 R HA
        go_enter Try.func62, Try.ntmps62
        go_wp2_with fail
        refine (hI _).mono ?_
        rintro e w1 ⟨rfl, rfl⟩
        go_wp2_with fail
        go_ret
        exact ⟨ret_bool R2.out.symm, (Below.refl _ _).alloc (Nat.le_refl _) _⟩
  · have hki : (f.ki != 4) = true := by simpa using c3
    have R := Lib.hid (H1.out true (by rw [decide_eq_true c1', decide_eq_true c2', hki]; rfl))
    clear h4 H1
    go_enter Try.func62, Try.ntmps62
    go_wp2_with fail
    refine (hI _).mono ?_
    rintro e w1 ⟨rfl, rfl⟩
    go_wp2_with fail
    go_ret
    exact ⟨ret_bool R.out.symm, (Below.refl _ _).alloc (Nat.le_refl _) _⟩

/-! ### counted -/
def cntB (c : Int) (t : UInt16) (v : List UInt8) : Bool := !(decide (c = 2) && decide (t = 2)) || (decide (4 ≤ v.length) && decide (numOf (v.take 4) = (v.length - 4) / 2))
theorem left4 {w : World} {base g c : Nat} {A : Option Addr} {bs : List UInt8} (h : Rdr w base g A c bs (0 + 4)) (m : Nat) (hm : bs.length = m + 4) :
    Calls Try.prog 59 #[.pointer (some ⟨g, 0, none⟩)] w fun e w' => e = .returned (.int .i64 (m : Int)) ∧ ∃ q, w' = w.drewN q := by
  have := left_any h
  rwa [show (bs.length : Int) - ((0 + 4 : Nat) : Int) = (m : Int) by omega] at this
set_option maxRecDepth 100000 in
theorem counted_any (c : Int) (t : UInt16) (A : Option Addr) (cc : Nat) (v : List UInt8) (w : World) (h : Lies w w.heap.size A (v.map bv)) (h1 : v.length ≤ cc) (h2 : cc ≤ maxLen) (hn : v.length ≤ 10000000) :
    Calls Try.prog 63 #[.int .i64 c, hv t, .slice A v.length cc] w fun e w' => e = .returned (.bool (cntB c t v)) ∧ Below w.heap.size w w' := by
  by_cases hc : c = 2
  · subst hc
    by_cases ht : t = 2
    · subst ht
      have hN := new_any A cc v w h h1 h2 (by omega)
      by_cases h4 : 4 ≤ v.length
      · obtain ⟨m, hm⟩ : ∃ m, v.length = m + 4 := ⟨v.length - 4, by omega⟩
        have R : Hid (cntB 2 2 v = ((numOf ((v.drop 0).take 4) : Int) == (m : Int) / 2)) := by
          unfold Hid cntB
          have e1 : (v.length - 4) / 2 = m / 2 := by rw [hm]; rfl
          have e2 : ((numOf (v.take 4) : Int) == (m : Int) / 2) = decide (numOf (v.take 4) = m / 2) := by
            by_cases hq : numOf (v.take 4) = m / 2
            · rw [decide_eq_true hq, hq]; simp
            · rw [decide_eq_false hq, beq_eq_false_iff_ne]; omega
          rw [e1, List.drop_zero, e2]
          simp [h4]
        have hm2 : m / 2 ≤ 10000000 := by omega
        have hm3 : (0 : Int) ≤ (m : Int) := by omega
        have hm4 : m ≤ 10000000 := by omega
        have HM := Lib.hid hm
        clear hm
        go_enter Try.func63, Try.ntmps63
        go_wp2_with fail
        refine hN.mono ?_
        rintro e w1 ⟨g, A2, c2, rfl, hr, b1⟩
        go_wp2_with fail
        refine (cnumber_yes hr 4 rfl (by have := HM.out; omega)).mono ?_
        rintro e w2 ⟨rfl, hr2, hg2⟩
        generalize numOf ((v.drop 0).take 4) = x at *
        go_wp2_with fail
        refine (left4 hr2 m HM.out).mono ?_
        rintro e w3 ⟨rfl, q3, rfl⟩
        go_wp2_with fail
        go_ret
        have hb2 : Below w.heap.size w w2 := b1.grown hg2 b1.size (fun k e => by cases e; exact hr.base_le)
        refine ⟨ret_bool ?_, below_drewN hb2 _⟩
        rw [R.out]
      · have R := Lib.hid (show cntB 2 2 v = false by unfold cntB; simp [h4])
        have HM := Lib.hid h4
        clear h4
        go_enter Try.func63, Try.ntmps63
        go_wp2_with fail
        refine hN.mono ?_
        rintro e w1 ⟨g, A2, c2, rfl, hr, b1⟩
        go_wp2_with fail
        refine (cnumber_no hr 4 (by rintro ⟨_, h9⟩; have := HM.out; omega)).mono ?_
        rintro e w2 ⟨rfl, q2, rfl⟩
        go_wp2_with fail
        go_ret
        exact ⟨ret_bool R.out.symm, below_drewN b1 _⟩
    · have hq : ((t.toNat : Int) != 2) = true := by
        rw [bne_iff_ne]
        intro e
        exact ht (UInt16.toNat_inj.1 (by show t.toNat = 2; omega))
      have R := Lib.hid (show cntB 2 t v = true by unfold cntB; simp [ht])
      clear ht
      go_enter Try.func63, Try.ntmps63
      go_wp2_with fail
      go_ret
      exact ⟨ret_bool R.out.symm, Below.refl _ _⟩
  · have hq : (c != 2) = true := by simpa using hc
    have R := Lib.hid (show cntB c t v = true by unfold cntB; simp [hc])
    clear hc
    go_enter Try.func63, Try.ntmps63
    go_wp2_with fail
    go_ret
    exact ⟨ret_bool R.out.symm, Below.refl _ _⟩
end Go.Proofs.Ytdnilbebdgohnaa

