/- Layer 18: changes and results, requests and answers: mathematics alone. No condition of its own. -/
/- Layer 18: types of changes and of results, numbers, the kids that are to be changes, whether all nodes are of certain types. They write nothing that was there. -/
/- Layer 18: ID, isRequest, isAnswer, Serial, Success, Failure, with, Answer (written by tools/gen_asc_c.py). They write nothing that was there. -/
/- Layer 18: Success, Failure, with, Answer. They write nothing that was there. -/
import Derived.Test.YteknmgmdmjmnmaaGreatDoorUADR
import Derived.Test.YteknmgmdmjmnmaaGreatDoorUNF
import Derived.Test.YteknmgmdmjmnmaaGreatDoorUW
import Derived.Test.YteknmgmdmjmnmaaGreatDoorUDJ
import Derived.Test.YteknmgmdmjmnmaaGreatDoorUCE
import Derived.Test.YteknmgmdmjmnmaaGreatDoorUCI
import Derived.Test.YteknmgmdmjmnmaaGreatDoorUSTG
import Derived.BigGuard






namespace Go.Proofs.YteknmgmdmjmnmaaGreatDoor
open Go.RowKit

/-- types of changes and of results -/
def isChg (t : UInt16) : Bool := decide (t = 49153) || decide (t = 49154) || decide (t = 49156)
def isRes (t : UInt16) : Bool := decide (t = 49157) || decide (t = 49155)
def chgB (n : Nd) : Bool := isChg n.t && decide (chk 4 1 n = 0)
def resB (n : Nd) : Bool := isRes n.t && decide (chk 4 1 n = 0)
def adrB (n : Nd) : Bool := decide (nof n < 2)
/-- the number of a node or a chunk of this layer -/
def numD (d : List UInt8) : UInt32 := nrd d 0 4
theorem numD_be (x : UInt32) : numD (be 4 x) = x := nrd_be4 x
theorem adr_or (n : Nd) : adrB n = (fitA 5 4 n || fitA 6 16 n) := nof_def n
theorem cnt18 (t : UInt16) (v : List UInt8) : cntB 1 t v = true := by unfold cntB; simp
theorem fitK18 {t : UInt16} {F : Form} (h : look (tab 1) t = some F) (m : Nat) : fitK 1 t m = fitsB F (m : Int) := by unfold fitK; rw [h]
theorem form18 {t : UInt16} {F : Form} (h : look (tab 1) t = some F) : formOf 1 t = F := by unfold formOf; rw [h]; rfl
theorem fits18 {F : Form} {a : Nat} (h1 : F.lo = (a : Int)) (h2 : F.hi = (a : Int)) (h3 : F.un = 1) (m : Nat) : fitsB F (m : Int) = decide (m = a) := by
  unfold fitsB
  rw [h1, h2, h3, Int.emod_one, Bool.eq_iff_iff]
  simp only [Bool.and_eq_true, decide_eq_true_eq, beq_self_eq_true, and_true]
  omega
theorem insK0 (ks : List Nd) : insB 0 ks = decide (ks = []) := by
  unfold insB ins
  cases ks with
  | nil => simp
  | cons k ks => simp
theorem insK4 (ks : List Nd) : insB 4 ks = true ↔ ∃ a, ks = [a] ∧ (a.t = 5 ∨ a.t = 6) := by
  unfold insB ins addr1
  match ks with
  | [] => simp
  | [a] => simp
  | a :: b :: ks =>
    simp
    omega
theorem vl18 (t : UInt16) (d : List UInt8) : (Nd.mk t d []).vlen = d.length := by simp [Nd.vlen, lens, sizes]
/-- a type whose form has so many bytes and nothing inside -/
theorem plain18 {f : Nat} {t : UInt16} {F : Form} {a : Nat} (h : look (tab 1) t = some F) (h1 : F.lo = (a : Int)) (h2 : F.hi = (a : Int)) (h3 : F.un = 1) (h4 : F.ki = 0) (ha : a ≤ 65531) (n : Nd) (hn : n.t = t) :
    chk (f + 1) 1 n = 0 ↔ n.v.length = a ∧ n.ks = [] := by
  obtain ⟨t', v, ks⟩ := n
  have hn' : t' = t := hn
  subst hn'
  constructor
  · intro h5
    obtain ⟨g1, g2, _, _, _⟩ := chk_zero (f := f) h5
    have g1' : fitK 1 t' v.length = true := g1
    have g2' : insB (formOf 1 t').ki ks = true := g2
    rw [fitK18 h, fits18 h1 h2 h3] at g1'
    rw [form18 h, h4, insK0] at g2'
    exact ⟨of_decide_eq_true g1', of_decide_eq_true g2'⟩
  · rintro ⟨h5, h6⟩
    have h6' : ks = [] := h6
    subst h6'
    have h5' : v.length = a := h5
    rw [chk_succ, vl18]
    have e1 : (Nd.mk t' v []).t = t' := rfl
    have e2 : (Nd.mk t' v []).v = v := rfl
    have e3 : (Nd.mk t' v []).ks = [] := rfl
    rw [e1, e2, e3, fitK18 h, fits18 h1 h2 h3, form18 h, h4, insK0, cnt18]
    have e4 : fst0 (List.map (chk f (ins 0).1) []) = 0 := rfl
    rw [e4]
    simp [h5']
    omega
theorem q5 : look (tab 1) 5 = some (pT[1]'(by decide)) := by kernel_rfl
theorem q6 : look (tab 1) 6 = some (pT[2]'(by decide)) := by kernel_rfl
theorem qc1 : look (tab 1) 49153 = some (pT[21]'(by decide)) := by kernel_rfl
theorem qc2 : look (tab 1) 49154 = some (pT[22]'(by decide)) := by kernel_rfl
theorem qc3 : look (tab 1) 49155 = some (pT[23]'(by decide)) := by kernel_rfl
theorem qc4 : look (tab 1) 49156 = some (pT[24]'(by decide)) := by kernel_rfl
theorem qc5 : look (tab 1) 49157 = some (pT[25]'(by decide)) := by kernel_rfl
theorem fitA_iff (t : UInt16) (s : Nat) (n : Nd) : fitA t s n = true ↔ n.t = t ∧ n.v.length = s ∧ n.ks = [] := by
  unfold fitA
  simp only [Bool.and_eq_true, decide_eq_true_eq, List.length_eq_zero_iff]
  exact ⟨fun h => ⟨h.1.1, h.1.2, h.2⟩, fun h => ⟨⟨h.1, h.2.1⟩, h.2.2⟩⟩
theorem adr_parts {n : Nd} (h : adrB n = true) : (n.t = 5 ∧ n.v.length = 4 ∧ n.ks = []) ∨ (n.t = 6 ∧ n.v.length = 16 ∧ n.ks = []) := by
  rw [adr_or, Bool.or_eq_true, fitA_iff, fitA_iff] at h
  exact h
/-- an address, and whether it is right -/
theorem adr_chk (f : Nat) (n : Nd) (h : n.t = 5 ∨ n.t = 6) : chk (f + 1) 1 n = 0 ↔ adrB n = true := by
  rw [adr_or, Bool.or_eq_true, fitA_iff, fitA_iff]
  rcases h with h | h
  · rw [plain18 (a := 4) q5 rfl rfl rfl rfl (by omega) n h]
    constructor
    · exact fun e => .inl ⟨h, e⟩
    · rintro (e | e)
      · exact e.2
      · rw [h] at e; exact absurd e.1 (by decide)
  · rw [plain18 (a := 16) q6 rfl rfl rfl rfl (by omega) n h]
    constructor
    · exact fun e => .inr ⟨h, e⟩
    · rintro (e | e)
      · rw [h] at e; exact absurd e.1 (by decide)
      · exact e.2
theorem adr_t {n : Nd} (h : adrB n = true) : n.t = 5 ∨ n.t = 6 := by
  rcases adr_parts h with h | h
  · exact .inl h.1
  · exact .inr h.1
theorem adr_len {n : Nd} (h : adrB n = true) : n.v.length ≤ 16 ∧ n.ks = [] := by
  rcases adr_parts h with h | h
  · exact ⟨by omega, h.2.2⟩
  · exact ⟨by omega, h.2.2⟩
theorem chg_form {t : UInt16} (h : isChg t = true) : ∃ F, look (tab 1) t = some F ∧ F.lo = ((4 : Nat) : Int) ∧ F.hi = ((4 : Nat) : Int) ∧ F.un = 1 ∧ F.ki = 4 := by
  unfold isChg at h
  simp only [Bool.or_eq_true, decide_eq_true_eq] at h
  rcases h with (rfl | rfl) | rfl
  · exact ⟨_, qc1, rfl, rfl, rfl, rfl⟩
  · exact ⟨_, qc2, rfl, rfl, rfl, rfl⟩
  · exact ⟨_, qc4, rfl, rfl, rfl, rfl⟩
theorem res_form {t : UInt16} (h : isRes t = true) : ∃ F, look (tab 1) t = some F ∧ F.lo = ((4 : Nat) : Int) ∧ F.hi = ((4 : Nat) : Int) ∧ F.un = 1 := by
  unfold isRes at h
  simp only [Bool.or_eq_true, decide_eq_true_eq] at h
  rcases h with rfl | rfl
  · exact ⟨_, qc5, rfl, rfl, rfl⟩
  · exact ⟨_, qc3, rfl, rfl, rfl⟩
theorem len_of_form {n : Nd} {F : Form} (h0 : look (tab 1) n.t = some F) (h1 : F.lo = ((4 : Nat) : Int)) (h2 : F.hi = ((4 : Nat) : Int)) (h3 : F.un = 1) (h : chk 4 1 n = 0) : n.v.length = 4 := by
  obtain ⟨g1, _⟩ := chk_zero (f := 3) h
  rw [fitK18 h0, fits18 h1 h2 h3] at g1
  exact of_decide_eq_true g1
theorem chg_parts {n : Nd} (h : chgB n = true) : isChg n.t = true ∧ chk 4 1 n = 0 ∧ n.v.length = 4 := by
  unfold chgB at h
  simp only [Bool.and_eq_true, decide_eq_true_eq] at h
  obtain ⟨F, f0, f1, f2, f3, _⟩ := chg_form h.1
  exact ⟨h.1, h.2, len_of_form f0 f1 f2 f3 h.2⟩
theorem res_parts {n : Nd} (h : resB n = true) : isRes n.t = true ∧ chk 4 1 n = 0 ∧ n.v.length = 4 := by
  unfold resB at h
  simp only [Bool.and_eq_true, decide_eq_true_eq] at h
  obtain ⟨F, f0, f1, f2, f3⟩ := res_form h.1
  exact ⟨h.1, h.2, len_of_form f0 f1 f2 f3 h.2⟩
/-- the change of an address -/
theorem chg_mk (t : UInt16) (v : List UInt8) (a : Nd) (hv4 : v.length = 4) : chgB (.mk t v [a]) = (isChg t && adrB a) := by
  unfold chgB
  have e1 : (Nd.mk t v [a]).t = t := rfl
  rw [e1]
  cases ht : isChg t with
  | false => rfl
  | true =>
    rw [Bool.true_and, Bool.true_and]
    obtain ⟨F, f0, f1, f2, f3, f4⟩ := chg_form ht
    rw [Bool.eq_iff_iff, decide_eq_true_eq]
    constructor
    · intro h
      obtain ⟨_, g2, _, g4, _⟩ := chk_zero (f := 3) h
      have g2' : insB (formOf 1 t).ki [a] = true := g2
      have g4' : ∀ k ∈ [a], chk 3 (ins (formOf 1 t).ki).1 k = 0 := g4
      rw [form18 f0, f4] at g2' g4'
      obtain ⟨b, hb, hb2⟩ := (insK4 [a]).1 g2'
      cases hb
      exact (adr_chk 2 a hb2).1 (g4' a (List.mem_singleton.2 rfl))
    · intro h
      have h2 := (adr_chk 2 a (adr_t h)).2 h
      obtain ⟨h3, h4⟩ := adr_len h
      have hvl : (Nd.mk t v [a]).vlen = v.length + (4 + a.v.length) := by
        rw [Nd.vlen_eq]
        have : lens (Nd.mk t v [a]).ks = [4 + a.vlen] := rfl
        rw [this]
        have h5 : a.vlen = a.v.length := by rw [Nd.vlen_eq, h4]; simp [lens, sizes]
        rw [h5]
        show v.length + sizes [4 + a.v.length] = _
        simp [sizes, up, gap]
      rw [chk_succ, hvl]
      have e2 : (Nd.mk t v [a]).v = v := rfl
      have e3 : (Nd.mk t v [a]).ks = [a] := rfl
      have e5 : insB 4 [a] = true := (insK4 [a]).2 ⟨a, rfl, adr_t h⟩
      rw [e1, e2, e3, fitK18 f0, fits18 f1 f2 f3, form18 f0, f4, e5, cnt18]
      have e4 : fst0 (List.map (chk 3 (ins 4).1) [a]) = 0 := by
        have : List.map (chk 3 (ins 4).1) [a] = [0] := by
          rw [List.map_cons, List.map_nil, show (ins 4).1 = 1 from rfl, h2]
        rw [this]
        rfl
      rw [e4]
      simp [hv4]
      omega
/-! ### chunks -/
def reqB (x : Ck) : Bool := decide (x.t = 193) && decide (chkC x = 0) && (x.ks.drop 1).all fun n => isChg n.t
def ackB (x : Ck) : Bool := decide (x.t = 128) && decide (chkC x = 0) && x.ks.all fun n => isRes n.t
theorem kd193 : (kdOf 193).lo = 4 ∧ (kdOf 193).hi = 4 ∧ (kdOf 193).ki = 6 ∧ kn 193 = true ∧ kc 193 = 1 := by decide +kernel
theorem kd128 : (kdOf 128).lo = 4 ∧ (kdOf 128).hi = 4 ∧ (kdOf 128).ki = 2 ∧ kn 128 = true ∧ kc 128 = 1 := by decide +kernel
theorem all_chk {c : Int} {ns : List Nd} (h : chkL c ns = 0) : ∀ n ∈ ns, chk 4 c n = 0 := fun n hn => fst0_zero h _ (List.mem_map.2 ⟨n, hn, rfl⟩)
theorem chunk193 {x : Ck} (ht : x.t = 193) (h : chkC x = 0) : x.d.length = 4 ∧ ∃ a ks, x.ks = a :: ks ∧ ks ≠ [] ∧ adrB a = true ∧ ∀ n ∈ a :: ks, chk 4 1 n = 0 := by
  obtain ⟨_, h2, h3, _, _, h6, _⟩ := chk_parts h
  obtain ⟨k1, k2, k3, k4, k5⟩ := kd193
  rw [ht, k5] at h6
  have hd : x.d.length = 4 := by
    obtain ⟨a1, a2, _⟩ := kfits_of (da_fits h2 (by rw [ht]; exact k4))
    rw [ht, k1] at a1
    rw [ht, k2] at a2
    omega
  refine ⟨hd, ?_⟩
  unfold kidB at h3
  rw [ht, k3] at h3
  generalize x.ks = l at *
  unfold kidP at h3
  have e1 : (kins 6).2.1 = 2 := rfl
  rw [e1] at h3
  match l, h3, h6 with
  | [], h3, _ => simp at h3
  | [a], h3, _ => simp at h3
  | a :: b :: ks, h3, h6 =>
    refine ⟨a, b :: ks, rfl, by simp, ?_, all_chk h6⟩
    have ha : a.t = 5 ∨ a.t = 6 := by
      simp [begB] at h3
      have h5 := h3.2.2
      by_cases h5' : a.t = 5
      · exact .inl h5'
      · exact .inr (h5 h5')
    exact (adr_chk 3 a ha).1 (all_chk h6 a (List.mem_cons_self ..))
theorem chunk128 {x : Ck} (ht : x.t = 128) (h : chkC x = 0) : x.d.length = 4 ∧ ∀ n ∈ x.ks, chk 4 1 n = 0 := by
  obtain ⟨_, h2, _, _, _, h6, _⟩ := chk_parts h
  obtain ⟨k1, k2, k3, k4, k5⟩ := kd128
  rw [ht, k5] at h6
  refine ⟨?_, all_chk h6⟩
  obtain ⟨a1, a2, _⟩ := kfits_of (da_fits h2 (by rw [ht]; exact k4))
  rw [ht, k1] at a1
  rw [ht, k2] at a2
  omega
theorem req_parts {x : Ck} (h : reqB x = true) : x.t = 193 ∧ chkC x = 0 ∧ ∀ n ∈ x.ks.drop 1, isChg n.t = true := by
  unfold reqB at h
  simp only [Bool.and_eq_true, decide_eq_true_eq, List.all_eq_true] at h
  exact ⟨h.1.1, h.1.2, h.2⟩
theorem ack_parts {x : Ck} (h : ackB x = true) : x.t = 128 ∧ chkC x = 0 ∧ ∀ n ∈ x.ks, isRes n.t = true := by
  unfold ackB at h
  simp only [Bool.and_eq_true, decide_eq_true_eq, List.all_eq_true] at h
  exact ⟨h.1.1, h.1.2, h.2⟩
theorem req_len {x : Ck} (h : reqB x = true) : x.d.length = 4 := (chunk193 (req_parts h).1 (req_parts h).2.1).1
theorem ack_len {x : Ck} (h : ackB x = true) : x.d.length = 4 := (chunk128 (ack_parts h).1 (ack_parts h).2.1).1
theorem req_kid {x : Ck} (h : reqB x = true) : ∀ n ∈ x.ks.drop 1, chgB n = true := fun n hn => by
  obtain ⟨h1, h2, h3⟩ := req_parts h
  obtain ⟨_, a, ks, e, _, _, h4⟩ := chunk193 h1 h2
  rw [e] at h3 hn
  unfold chgB
  rw [h3 n hn, h4 n (List.mem_of_mem_drop hn)]
  rfl
theorem ack_kid {x : Ck} (h : ackB x = true) : ∀ n ∈ x.ks, resB n = true := fun n hn => by
  obtain ⟨h1, h2, h3⟩ := ack_parts h
  unfold resB
  rw [h3 n hn, (chunk128 h1 h2).2 n hn]
  rfl
/-- as the reference says it -/
theorem req_ref {x : Ck} (ht : x.t = 193) (h : chkC x = 0) : reqB x = (x.ks.drop 1).all chgB := by
  obtain ⟨_, a, ks, e, hne, _, h4⟩ := chunk193 ht h
  clear hne
  unfold reqB
  rw [ht, h, e]
  simp only [decide_true, Bool.true_and, List.drop_succ_cons, List.drop_zero]
  have : ∀ n ∈ ks, isChg n.t = chgB n := fun n hn => by unfold chgB; rw [h4 n (List.mem_cons_of_mem _ hn)]; simp
  clear e h4
  induction ks with
  | nil => rfl
  | cons k ks ih => rw [List.all_cons, List.all_cons, this k (List.mem_cons_self ..), ih (fun n hn => this n (List.mem_cons_of_mem _ hn))]
theorem ack_ref {x : Ck} : ackB x = (x.ks.all resB && (decide (x.t = 128) && decide (chkC x = 0))) := by
  unfold ackB
  by_cases ht : x.t = 128
  · by_cases h : chkC x = 0
    · obtain ⟨_, h4⟩ := chunk128 ht h
      rw [ht, h]
      simp only [decide_true, Bool.true_and, Bool.and_true]
      have : ∀ n ∈ x.ks, isRes n.t = resB n := fun n hn => by unfold resB; rw [h4 n hn]; simp
      clear h4 h ht
      generalize x.ks = ks at *
      induction ks with
      | nil => rfl
      | cons k ks ih => rw [List.all_cons, List.all_cons, this k (List.mem_cons_self ..), ih (fun n hn => this n (List.mem_cons_of_mem _ hn))]
    · rw [decide_eq_false h]; simp
  · rw [decide_eq_false ht]; simp
/-! ### results -/
/-- what became of the change with a number -/
def outc (l : List Nd) (id : UInt32) : Nat := match l.find? fun r => decide (numD r.v = id) with
  | some r => if r.t = 49155 then 2 else 1
  | none => 0
def outL (q a : Ck) : List Nat := (q.ks.drop 1).map fun n => outc a.ks (numD n.v)
end Go.Proofs.YteknmgmdmjmnmaaGreatDoor







namespace Go.Proofs.YteknmgmdmjmnmaaGreatDoor
open Go.RowKit

set_option linter.unusedSimpArgs false
theorem wh318 {w : World} {g : Nat} {t : TypeId} {a b c : Value} (h : Whole w g t #[a, b, c]) : w.cell? ⟨g, 0, none⟩ = some a ∧ w.cell? ⟨g, 1, none⟩ = some b ∧ w.cell? ⟨g, 2, none⟩ = some c := ⟨by rw [h.cell]; rfl, by rw [h.cell]; rfl, by rw [h.cell]; rfl⟩
set_option maxHeartbeats 1000000 in
theorem isChg_any (t : UInt16) (w : World) : Calls Tryz.prog 64 #[hv t] w fun e w' => e = .returned (.bool (isChg t)) ∧ w = w' := by
  have HR : Hid (isChg t = (decide (t = 49153) || decide (t = 49154) || decide (t = 49156))) := rfl
  generalize isChg t = r at *
  by_cases h1 : t = 49153
  · obtain rfl : r = true := by rw [HR.out, decide_eq_true h1]; rfl
    have q1 : (t.toNat : Int) = 49153 := by rw [h1]; rfl
    clear h1 HR
    go_enter Tryz.func64, Tryz.ntmps64
    go_wp2_with fail
    go_ret
    exact ⟨rfl, rfl⟩
  · have q1 : ((t.toNat : Int) == 49153) = false := beq_eq_false_iff_ne.2 fun e => h1 (UInt16.toNat_inj.1 (by show t.toNat = 49153; omega))
    by_cases h2 : t = 49154
    · obtain rfl : r = true := by rw [HR.out, decide_eq_true h2]; simp
      have q2 : (t.toNat : Int) = 49154 := by rw [h2]; rfl
      clear h1 h2 HR q1
      go_enter Tryz.func64, Tryz.ntmps64
      go_wp2_with fail
      go_ret
      exact ⟨rfl, rfl⟩
    · have q2 : ((t.toNat : Int) == 49154) = false := beq_eq_false_iff_ne.2 fun e => h2 (UInt16.toNat_inj.1 (by show t.toNat = 49154; omega))
      by_cases h3 : t = 49156
      · obtain rfl : r = true := by rw [HR.out, decide_eq_true h3]; simp
        have q3 : (t.toNat : Int) = 49156 := by rw [h3]; rfl
        clear h1 h2 h3 HR q1 q2
        go_enter Tryz.func64, Tryz.ntmps64
        go_wp2_with fail
        go_ret
        exact ⟨rfl, rfl⟩
      · have q3 : ((t.toNat : Int) == 49156) = false := beq_eq_false_iff_ne.2 fun e => h3 (UInt16.toNat_inj.1 (by show t.toNat = 49156; omega))
        obtain rfl : r = false := by rw [HR.out, decide_eq_false h1, decide_eq_false h2, decide_eq_false h3]; rfl
        clear h1 h2 h3 HR
        go_enter Tryz.func64, Tryz.ntmps64
        go_wp2_with fail
        go_ret
        exact ⟨rfl, rfl⟩
set_option maxHeartbeats 1000000 in
theorem isRes_any (t : UInt16) (w : World) : Calls Tryz.prog 71 #[hv t] w fun e w' => e = .returned (.bool (isRes t)) ∧ w = w' := by
  have HR : Hid (isRes t = (decide (t = 49157) || decide (t = 49155))) := rfl
  generalize isRes t = r at *
  by_cases h1 : t = 49157
  · obtain rfl : r = true := by rw [HR.out, decide_eq_true h1]; rfl
    have q1 : (t.toNat : Int) = 49157 := by rw [h1]; rfl
    clear h1 HR
    go_enter Tryz.func71, Tryz.ntmps71
    go_wp2_with fail
    go_ret
    exact ⟨rfl, rfl⟩
  · have q1 : ((t.toNat : Int) == 49157) = false := beq_eq_false_iff_ne.2 fun e => h1 (UInt16.toNat_inj.1 (by show t.toNat = 49157; omega))
    by_cases h2 : t = 49155
    · obtain rfl : r = true := by rw [HR.out, decide_eq_true h2]; simp
      have q2 : (t.toNat : Int) = 49155 := by rw [h2]; rfl
      clear h1 h2 HR q1
      go_enter Tryz.func71, Tryz.ntmps71
      go_wp2_with fail
      go_ret
      exact ⟨rfl, rfl⟩
    · have q2 : ((t.toNat : Int) == 49155) = false := beq_eq_false_iff_ne.2 fun e => h2 (UInt16.toNat_inj.1 (by show t.toNat = 49155; omega))
      obtain rfl : r = false := by rw [HR.out, decide_eq_false h1, decide_eq_false h2]; rfl
      clear h1 h2 HR
      go_enter Tryz.func71, Tryz.ntmps71
      go_wp2_with fail
      go_ret
      exact ⟨rfl, rfl⟩
theorem nums4_18 {d : List UInt8} (h : d.length = 4) : nums 4 d = [numD d] := by
  unfold nums numD
  rw [show d.length / 4 = 1 by omega]
  have e0 : numAt 4 d 0 = nrd d 0 4 := by unfold numAt nrd; rw [Nat.zero_mul]
  simp [List.range_succ, e0]
set_option maxRecDepth 100000 in
set_option maxHeartbeats 2000000 in
theorem numOf18_any (A : Option Addr) (c : Nat) (d : List UInt8) (w : World) (h : Lies w w.heap.size A (d.map bv)) (h4 : d.length = 4) (hc : 4 ≤ c) :
    Calls Tryz.prog 72 #[.slice A d.length c] w fun e w' => e = .returned (uv (numD d)) ∧ Below w.heap.size w w' := by
  have hN := numbersF_any 4 rfl A c d w h (by omega) (by omega) (by omega)
  rw [nums4_18 h4, h4, show 4 / 4 = 1 from rfl] at hN
  rw [h4]
  generalize numD d = x at *
  clear h h4
  go_enter Tryz.func72, Tryz.ntmps72
  go_wp2_with fail
  refine hN.mono ?_
  rintro e w2 ⟨A2, c2, rfl, own2, b2⟩
  have l2 : Lies w2 w2.heap.size A2 ([x].map uv) := Lies.own own2
  clear own2 hN
  obtain ⟨ad, x', rfl, hb, hx, hc2⟩ := l2.word (k := 0) (by simp)
  obtain rfl : x = x' := by have := hx.out; simpa using this
  have hc3 : w2.cell? ad = some (uv x) := by simpa [Addr.add] using hc2
  clear hx l2 hb
  go_wp2_with fail
  go_ret
  exact ⟨rfl, b2⟩
theorem Nodes.tail18 {w : World} {B : Nat} {A : Option Addr} {a : Nd} {l : List Nd} (h : Nodes w B A (a :: l)) : Nodes w B (A.map (·.add 3)) l := by
  cases h with
  | mk vs K c lies len each kids =>
    by_cases hl : l = []
    · subst hl; exact Nodes.nil _ _ _
    · have hl1 : l.length ≠ 0 := fun e => hl (List.length_eq_zero_iff.1 e)
      have hvl : vs.length = l.length * 3 + 3 := by rw [len, List.length_cons]; omega
      have h1 := lies.drop (k := 3) (c := vs.length) (Nat.le_refl _)
      rw [if_neg (by omega)] at h1
      refine .mk (vs.drop 3) (fun i => K (i + 1)) (fun i => c (i + 1)) h1 (by rw [List.length_drop]; omega) (fun i n hn => ?_) (fun i n hn => kids (i + 1) n hn)
      obtain ⟨e1, ⟨d, e2, e3⟩, e4, e5⟩ := each (i + 1) n hn
      refine ⟨?_, ⟨d, ?_, e3⟩, ?_, e5⟩
      · rw [List.getElem?_drop, show 3 + i * 3 = (i + 1) * 3 by omega]; exact e1
      · rw [List.getElem?_drop, show 3 + (i * 3 + 1) = (i + 1) * 3 + 1 by omega]; exact e2
      · rw [List.getElem?_drop, show 3 + (i * 3 + 2) = (i + 1) * 3 + 2 by omega]; exact e4
theorem ndsize18 (W : World) : (sizeOf 51).run Tryz.prog W = .ok 3 W := by kernel_rfl
theorem elem_nd18 : Tryz.prog.elem 49 = 51 := by kernel_rfl
theorem slice_tail18 {w : World} {B : Nat} (K : Option Addr) (k : Nat) (a : Nd) (l : List Nd) (h : Nodes w B K (a :: l)) (hl : l ≠ []) (hk : (a :: l).length ≤ k) (hm : k ≤ maxLen) :
    ∃ K1 k1, (∀ W : World, (Instr.slice 49 (.slice K (a :: l).length k) (some (.int .i64 1)) none none).run Tryz.prog W = .ok (.slice K1 l.length k1) W) ∧ Nodes w B K1 l ∧ l.length ≤ k1 ∧ k1 ≤ maxLen := by
  have hl1 : l.length ≠ 0 := fun e => hl (List.length_eq_zero_iff.1 e)
  have hlc : (a :: l).length = l.length + 1 := rfl
  refine ⟨K.map (·.add 3), k - 1, fun W => ?_, h.tail18, by omega, by omega⟩
  rw [run_slice_l (P := Tryz.prog) W 49 K (a :: l).length k (by rw [elem_nd18]; exact Tryz.underlying49) .i64 1 (by omega) (by omega), elem_nd18, ndsize18]
  simp [Result.andThen, sliced]
  omega
set_option maxRecDepth 100000 in
set_option maxHeartbeats 2000000 in
/-- the kids behind the first -/
theorem changes18_any (x : Ck) (a : Nd) (l : List Nd) (hx : x.ks = a :: l) (hl : l ≠ []) (A : Option Addr) (c : Nat) (K : Option Addr) (k : Nat) (w : World) (h : Chunk w w.heap.size A c K k x) :
    Calls Tryz.prog 82 #[ckV x A c K k] w fun e w' => ∃ K1 k1, e = .returned (.slice K1 l.length k1) ∧ Nodes w' w'.heap.size K1 l ∧ l.length ≤ k1 ∧ k1 ≤ maxLen ∧ Below w.heap.size w w' := by
  have b0 : Below w.heap.size w (w.alloc (.cells (ckCells x A c K k) 62)) := (Below.refl _ w).alloc (Nat.le_refl _) _
  have x0 := CkBox.new w x A c K k
  have h0 := (h.on b0).kids
  have hkc := h.kc
  have hkm := h.km
  obtain ⟨q0, q1, q2, q3⟩ := x0.cs
  rw [hx] at h0 hkc
  obtain ⟨K1, k1, hs, hN, e1, e2⟩ := slice_tail18 K k a l h0 hl hkc hkm
  have HS := Lib.hid hs
  have HN := Lib.hid hN
  have HX := Lib.hid hx
  clear x0 h0 h hkc hkm hs hN hl
  obtain ⟨t, fl, d, ks⟩ := x
  have HX2 : ks = a :: l := HX.out
  subst HX2
  go_enter Tryz.func82, Tryz.ntmps82
  go_wp2_with (refine wpList_slice17 rfl 49 _ _ _ _ rfl (by rw [elem_nd18]; exact Tryz.underlying49) _ (HS.out _) ?_)
  go_ret
  exact ⟨K1, k1, rfl, HN.out, e1, e2, b0⟩
/-! ### all of certain types -/
theorem any_not_all (P : UInt16 → Bool) (l : List Nd) : (!l.any fun n => !P n.t) = l.all fun n => P n.t := by
  induction l with
  | nil => rfl
  | cons n l ih => rw [List.any_cons, List.all_cons, ← ih]; cases P n.t <;> simp
set_option maxRecDepth 100000 in
set_option maxHeartbeats 2000000 in
theorem other18_anyC (g : Nat) (n : Nd) (A : Option Addr) (c : Nat) (K : Option Addr) (k : Nat) (w : World) (hg : Whole w g 116 #[.func (.func 64) #[] #[]]) :
    Calls Tryz.prog 155 #[.agg #[hv n.t, .slice A n.v.length c, .slice K n.ks.length k], .pointer (some ⟨g, 0, none⟩)] w fun e w' => e = .returned (.bool (!isChg n.t)) ∧ Below w.heap.size w w' := by
  have b0 : Below w.heap.size w (w.alloc (.cells #[hv n.t, .slice A n.v.length c, .slice K n.ks.length k] 51)) := (Below.refl _ w).alloc (Nat.le_refl _) _
  have x0 := Whole.new w 51 #[hv n.t, .slice A n.v.length c, .slice K n.ks.length k]
  have g0 := hg.alloc (.cells #[hv n.t, .slice A n.v.length c, .slice K n.ks.length k] 51)
  have gc : (w.alloc (.cells #[hv n.t, .slice A n.v.length c, .slice K n.ks.length k] 51)).cell? ⟨g, 0, none⟩ = some (.func (.func 64) #[] #[]) := by rw [g0.cell]; rfl
  have hT := isChg_any n.t (w.alloc (.cells #[hv n.t, .slice A n.v.length c, .slice K n.ks.length k] 51))
  clear hg g0
  generalize isChg n.t = r at *
  generalize n.v.length = lv at *
  generalize n.ks.length = lk at *
  generalize n.t = t at *
  obtain ⟨q0, q1, q2⟩ := wh318 x0
  cases r
  all_goals
    go_enter Tryz.func155, Tryz.ntmps155
    go_wp2_with fail
    refine hT.mono ?_
    rintro e w1 ⟨rfl, rfl⟩
    go_wp2_with fail
    go_ret
    exact ⟨rfl, b0⟩
set_option maxRecDepth 100000 in
set_option maxHeartbeats 4000000 in
theorem idx18_anyC (g : Nat) (l : List Nd) (A : Option Addr) (c : Nat) (w : World) (h : Nodes w w.heap.size A l) (hgl : l.length ≤ 9223372036854775807) (hg : Whole w g 116 #[.func (.func 64) #[] #[]]) :
    Calls Tryz.prog 193 #[.slice A l.length c, .func (.func 155) #[] #[.pointer (some ⟨g, 0, none⟩)]] w fun e w' => ∃ r : Int, e = .returned (.int .i64 r) ∧ decide (0 ≤ r) = l.any (fun n => !isChg n.t) ∧ Below w.heap.size w w' := by
  have HG := Lib.hid h
  have HW := Lib.hid hg
  have HC : Hid (∀ (n : Nd) (A' : Option Addr) (c' : Nat) (K' : Option Addr) (k' : Nat) (W : World), Whole W g 116 #[.func (.func 64) #[] #[]] → Calls Tryz.prog 155 #[.agg #[hv n.t, .slice A' n.v.length c', .slice K' n.ks.length k'], .pointer (some ⟨g, 0, none⟩)] W fun e w' => e = .returned (.bool (!isChg n.t)) ∧ Below W.heap.size W w') :=
    Lib.hid fun n A' c' K' k' W hW => other18_anyC g n A' c' K' k' W hW
  have hgt := hg.lt
  clear h hg
  go_enter Tryz.func193, Tryz.ntmps193
  go_wp2_with fail
  go_loopw [8] (fun i wr => ∃ j : Nat, j ≤ l.length ∧ i = .int .i64 (j : Int) ∧ Below w.heap.size w wr ∧ ∀ s ∈ l.take j, (!isChg s.t) = false) (fun i _ => l.length - (intOf i).toNat)
  case atStart => exact ⟨0, Nat.zero_le _, rfl, Below.refl _ _, fun g hg => by simp at hg⟩
  case round =>
    obtain ⟨j, hj, rfl, hbel, hno⟩ := hrel
    by_cases hlt : j < l.length
    · obtain ⟨ad, A', c', K', k', n, rfl, hadb, hn, c0, c1, c2, -⟩ := (HG.out.on hbel).at_ hlt
      have hi1 : (j : Int) < (l.length : Int) := by omega
      have hC := HC.out n A' c' K' k' wr (HW.out.below hbel hgt)
      have HN := Lib.hid hno
      have HB := Lib.hid hbel
      clear hno hbel
      cases hin : (!isChg n.t) with
      | true =>
        rw [hin] at hC
        have HI := Lib.hid hin
        clear hin
        go_wp2_with fail
        refine hC.mono ?_
        rintro e w2 ⟨rfl, b2⟩
        go_wp2_with fail
        go_ret
        refine ⟨(j : Int), rfl, ?_, HB.out.trans (b2.mono HB.out.size)⟩
        rw [decide_eq_true (by omega)]
        exact (List.any_eq_true.2 ⟨n, List.mem_of_getElem? hn.out, HI.out⟩).symm
      | false =>
        rw [hin] at hC
        have HI := Lib.hid hin
        clear hin
        go_wp2_with fail
        refine hC.mono ?_
        rintro e w2 ⟨rfl, b2⟩
        go_wp2_with fail
        go_roundw
        case rel => exact ⟨j + 1, by omega, by go_num, HB.out.trans (b2.mono HB.out.size), fun x hx => by
          rw [take_some hn.out] at hx
          rcases List.mem_append.1 hx with h | h
          · exact HN.out x h
          · rw [List.mem_singleton.1 h]; exact HI.out⟩
        case measure => simp [intOf]; omega
    · obtain rfl : j = l.length := by omega
      have hi1 : ¬ (l.length : Int) < (l.length : Int) := by omega
      rw [List.take_length] at hno
      have HN := Lib.hid hno
      clear hno
      go_wp2_with fail
      go_ret
      refine ⟨-1, rfl, ?_, hbel⟩
      rw [decide_eq_false (by omega)]
      symm
      rw [List.any_eq_false]
      intro g hg
      rw [HN.out g hg]
      simp
set_option maxRecDepth 100000 in
set_option maxHeartbeats 2000000 in
theorem has18_anyC (g : Nat) (l : List Nd) (A : Option Addr) (c : Nat) (w : World) (h : Nodes w w.heap.size A l) (hgl : l.length ≤ 9223372036854775807) (hg : Whole w g 116 #[.func (.func 64) #[] #[]]) :
    Calls Tryz.prog 154 #[.slice A l.length c, .func (.func 155) #[] #[.pointer (some ⟨g, 0, none⟩)]] w fun e w' => e = .returned (.bool (l.any (fun n => !isChg n.t))) ∧ Below w.heap.size w w' := by
  have hI := idx18_anyC g l A c w h hgl hg
  generalize l.any (fun n => !isChg n.t) = r at *
  clear h hg
  go_enter Tryz.func154, Tryz.ntmps154
  go_wp2_with fail
  refine hI.mono ?_
  rintro e w2 ⟨k, rfl, hk, b2⟩
  have HK := Lib.hid hk
  clear hk hI
  go_wp2_with fail
  go_ret
  exact ⟨by rw [← HK.out]; rfl, b2⟩
set_option maxRecDepth 100000 in
set_option maxHeartbeats 2000000 in
theorem haveT_anyC (l : List Nd) (A : Option Addr) (c : Nat) (w : World) (h : Nodes w w.heap.size A l) (hgl : l.length ≤ 9223372036854775807) :
    Calls Tryz.prog 113 #[.slice A l.length c, .func (.func 64) #[] #[]] w fun e w' => e = .returned (.bool (l.all fun n => isChg n.t)) ∧ Below w.heap.size w w' := by
  have b0 : Below w.heap.size w (w.alloc (.cells #[.func (.func 64) #[] #[]] 116)) := (Below.refl _ w).alloc (Nat.le_refl _) _
  have hC := has18_anyC w.heap.size l A c _ (h.on b0) hgl (Whole.new w 116 #[.func (.func 64) #[] #[]])
  have HE := Lib.hid (any_not_all isChg l)
  generalize (l.any fun n => !isChg n.t) = r at *
  generalize (l.all fun n => isChg n.t) = s at *
  have HZ : Hid (w.heap.size ≤ (w.alloc (.cells #[.func (.func 64) #[] #[]] 116)).heap.size) := by unfold Hid; simp
  have HB := Lib.hid b0
  clear h b0
  go_enter Tryz.func113, Tryz.ntmps113
  go_wp2_with fail
  refine hC.mono ?_
  rintro e w2 ⟨rfl, b2⟩
  clear hC
  go_wp2_with fail
  go_ret
  exact ⟨by rw [← HE.out]; rfl, HB.out.trans (b2.mono HZ.out)⟩
set_option maxRecDepth 100000 in
set_option maxHeartbeats 2000000 in
theorem other18_anyR (g : Nat) (n : Nd) (A : Option Addr) (c : Nat) (K : Option Addr) (k : Nat) (w : World) (hg : Whole w g 116 #[.func (.func 71) #[] #[]]) :
    Calls Tryz.prog 155 #[.agg #[hv n.t, .slice A n.v.length c, .slice K n.ks.length k], .pointer (some ⟨g, 0, none⟩)] w fun e w' => e = .returned (.bool (!isRes n.t)) ∧ Below w.heap.size w w' := by
  have b0 : Below w.heap.size w (w.alloc (.cells #[hv n.t, .slice A n.v.length c, .slice K n.ks.length k] 51)) := (Below.refl _ w).alloc (Nat.le_refl _) _
  have x0 := Whole.new w 51 #[hv n.t, .slice A n.v.length c, .slice K n.ks.length k]
  have g0 := hg.alloc (.cells #[hv n.t, .slice A n.v.length c, .slice K n.ks.length k] 51)
  have gc : (w.alloc (.cells #[hv n.t, .slice A n.v.length c, .slice K n.ks.length k] 51)).cell? ⟨g, 0, none⟩ = some (.func (.func 71) #[] #[]) := by rw [g0.cell]; rfl
  have hT := isRes_any n.t (w.alloc (.cells #[hv n.t, .slice A n.v.length c, .slice K n.ks.length k] 51))
  clear hg g0
  generalize isRes n.t = r at *
  generalize n.v.length = lv at *
  generalize n.ks.length = lk at *
  generalize n.t = t at *
  obtain ⟨q0, q1, q2⟩ := wh318 x0
  cases r
  all_goals
    go_enter Tryz.func155, Tryz.ntmps155
    go_wp2_with fail
    refine hT.mono ?_
    rintro e w1 ⟨rfl, rfl⟩
    go_wp2_with fail
    go_ret
    exact ⟨rfl, b0⟩
set_option maxRecDepth 100000 in
set_option maxHeartbeats 4000000 in
theorem idx18_anyR (g : Nat) (l : List Nd) (A : Option Addr) (c : Nat) (w : World) (h : Nodes w w.heap.size A l) (hgl : l.length ≤ 9223372036854775807) (hg : Whole w g 116 #[.func (.func 71) #[] #[]]) :
    Calls Tryz.prog 193 #[.slice A l.length c, .func (.func 155) #[] #[.pointer (some ⟨g, 0, none⟩)]] w fun e w' => ∃ r : Int, e = .returned (.int .i64 r) ∧ decide (0 ≤ r) = l.any (fun n => !isRes n.t) ∧ Below w.heap.size w w' := by
  have HG := Lib.hid h
  have HW := Lib.hid hg
  have HC : Hid (∀ (n : Nd) (A' : Option Addr) (c' : Nat) (K' : Option Addr) (k' : Nat) (W : World), Whole W g 116 #[.func (.func 71) #[] #[]] → Calls Tryz.prog 155 #[.agg #[hv n.t, .slice A' n.v.length c', .slice K' n.ks.length k'], .pointer (some ⟨g, 0, none⟩)] W fun e w' => e = .returned (.bool (!isRes n.t)) ∧ Below W.heap.size W w') :=
    Lib.hid fun n A' c' K' k' W hW => other18_anyR g n A' c' K' k' W hW
  have hgt := hg.lt
  clear h hg
  go_enter Tryz.func193, Tryz.ntmps193
  go_wp2_with fail
  go_loopw [8] (fun i wr => ∃ j : Nat, j ≤ l.length ∧ i = .int .i64 (j : Int) ∧ Below w.heap.size w wr ∧ ∀ s ∈ l.take j, (!isRes s.t) = false) (fun i _ => l.length - (intOf i).toNat)
  case atStart => exact ⟨0, Nat.zero_le _, rfl, Below.refl _ _, fun g hg => by simp at hg⟩
  case round =>
    obtain ⟨j, hj, rfl, hbel, hno⟩ := hrel
    by_cases hlt : j < l.length
    · obtain ⟨ad, A', c', K', k', n, rfl, hadb, hn, c0, c1, c2, -⟩ := (HG.out.on hbel).at_ hlt
      have hi1 : (j : Int) < (l.length : Int) := by omega
      have hC := HC.out n A' c' K' k' wr (HW.out.below hbel hgt)
      have HN := Lib.hid hno
      have HB := Lib.hid hbel
      clear hno hbel
      cases hin : (!isRes n.t) with
      | true =>
        rw [hin] at hC
        have HI := Lib.hid hin
        clear hin
        go_wp2_with fail
        refine hC.mono ?_
        rintro e w2 ⟨rfl, b2⟩
        go_wp2_with fail
        go_ret
        refine ⟨(j : Int), rfl, ?_, HB.out.trans (b2.mono HB.out.size)⟩
        rw [decide_eq_true (by omega)]
        exact (List.any_eq_true.2 ⟨n, List.mem_of_getElem? hn.out, HI.out⟩).symm
      | false =>
        rw [hin] at hC
        have HI := Lib.hid hin
        clear hin
        go_wp2_with fail
        refine hC.mono ?_
        rintro e w2 ⟨rfl, b2⟩
        go_wp2_with fail
        go_roundw
        case rel => exact ⟨j + 1, by omega, by go_num, HB.out.trans (b2.mono HB.out.size), fun x hx => by
          rw [take_some hn.out] at hx
          rcases List.mem_append.1 hx with h | h
          · exact HN.out x h
          · rw [List.mem_singleton.1 h]; exact HI.out⟩
        case measure => simp [intOf]; omega
    · obtain rfl : j = l.length := by omega
      have hi1 : ¬ (l.length : Int) < (l.length : Int) := by omega
      rw [List.take_length] at hno
      have HN := Lib.hid hno
      clear hno
      go_wp2_with fail
      go_ret
      refine ⟨-1, rfl, ?_, hbel⟩
      rw [decide_eq_false (by omega)]
      symm
      rw [List.any_eq_false]
      intro g hg
      rw [HN.out g hg]
      simp
set_option maxRecDepth 100000 in
set_option maxHeartbeats 2000000 in
theorem has18_anyR (g : Nat) (l : List Nd) (A : Option Addr) (c : Nat) (w : World) (h : Nodes w w.heap.size A l) (hgl : l.length ≤ 9223372036854775807) (hg : Whole w g 116 #[.func (.func 71) #[] #[]]) :
    Calls Tryz.prog 154 #[.slice A l.length c, .func (.func 155) #[] #[.pointer (some ⟨g, 0, none⟩)]] w fun e w' => e = .returned (.bool (l.any (fun n => !isRes n.t))) ∧ Below w.heap.size w w' := by
  have hI := idx18_anyR g l A c w h hgl hg
  generalize l.any (fun n => !isRes n.t) = r at *
  clear h hg
  go_enter Tryz.func154, Tryz.ntmps154
  go_wp2_with fail
  refine hI.mono ?_
  rintro e w2 ⟨k, rfl, hk, b2⟩
  have HK := Lib.hid hk
  clear hk hI
  go_wp2_with fail
  go_ret
  exact ⟨by rw [← HK.out]; rfl, b2⟩
set_option maxRecDepth 100000 in
set_option maxHeartbeats 2000000 in
theorem haveT_anyR (l : List Nd) (A : Option Addr) (c : Nat) (w : World) (h : Nodes w w.heap.size A l) (hgl : l.length ≤ 9223372036854775807) :
    Calls Tryz.prog 113 #[.slice A l.length c, .func (.func 71) #[] #[]] w fun e w' => e = .returned (.bool (l.all fun n => isRes n.t)) ∧ Below w.heap.size w w' := by
  have b0 : Below w.heap.size w (w.alloc (.cells #[.func (.func 71) #[] #[]] 116)) := (Below.refl _ w).alloc (Nat.le_refl _) _
  have hC := has18_anyR w.heap.size l A c _ (h.on b0) hgl (Whole.new w 116 #[.func (.func 71) #[] #[]])
  have HE := Lib.hid (any_not_all isRes l)
  generalize (l.any fun n => !isRes n.t) = r at *
  generalize (l.all fun n => isRes n.t) = s at *
  have HZ : Hid (w.heap.size ≤ (w.alloc (.cells #[.func (.func 71) #[] #[]] 116)).heap.size) := by unfold Hid; simp
  have HB := Lib.hid b0
  clear h b0
  go_enter Tryz.func113, Tryz.ntmps113
  go_wp2_with fail
  refine hC.mono ?_
  rintro e w2 ⟨rfl, b2⟩
  clear hC
  go_wp2_with fail
  go_ret
  exact ⟨by rw [← HE.out]; rfl, HB.out.trans (b2.mono HZ.out)⟩
end Go.Proofs.YteknmgmdmjmnmaaGreatDoor








namespace Go.Proofs.YteknmgmdmjmnmaaGreatDoor
open Go.RowKit

set_option linter.unusedSimpArgs false
theorem codeE_ne18 {c : Nat} (h : c ≠ 0) : codeE c = .iface 190 (.int .i64 (c : Int)) := by unfold codeE codeV; rw [if_neg h]
def idB (n : Nd) : Bool := chgB n || resB n
def idV (n : Nd) : UInt32 := if idB n = true then numD n.v else 0
theorem idB_eq (n : Nd) : idB n = ((isChg n.t || isRes n.t) && decide (chk 4 1 n = 0)) := by
  unfold idB chgB resB
  cases isChg n.t <;> cases isRes n.t <;> simp
theorem idB_len {n : Nd} (h : idB n = true) : n.v.length = 4 := by
  unfold idB at h
  rw [Bool.or_eq_true] at h
  rcases h with h | h
  · exact (chg_parts h).2.2
  · exact (res_parts h).2.2
set_option maxRecDepth 100000 in
set_option maxHeartbeats 8000000 in
theorem id18_any (n : Nd) (hf : Fine n) (A : Option Addr) (c : Nat) (K : Option Addr) (k : Nat) (w : World) (h : Node w w.heap.size A c K k n) :
    Calls Tryz.prog 33 #[ndV n A c K k] w fun e w' => e = .returned (.tuple #[uv (idV n), .bool (idB n)]) ∧ Below w.heap.size w w' := by
  have b0 : Below w.heap.size w (w.alloc (.cells #[hv n.t, .slice A n.v.length c, .slice K n.ks.length k] 51)) := (Below.refl _ w).alloc (Nat.le_refl _) _
  have x0 := Whole.new w 51 #[hv n.t, .slice A n.v.length c, .slice K n.ks.length k]
  have hn0 := h.on b0
  have hC := ncheck_any 1 n A c K k _ hn0 hf
  have hT1 := isChg_any n.t (w.alloc (.cells #[hv n.t, .slice A n.v.length c, .slice K n.ks.length k] 51))
  have hT2 := isRes_any n.t (w.alloc (.cells #[hv n.t, .slice A n.v.length c, .slice K n.ks.length k] 51))
  have hs0 : (w.alloc (.cells #[hv n.t, .slice A n.v.length c, .slice K n.ks.length k] 51)).heap.size = w.heap.size + 1 := by simp
  have HS : Hid (idB n = ((isChg n.t || isRes n.t) && decide (chk 4 1 n = 0))) := Lib.hid (idB_eq n)
  have HV : Hid (idV n = if idB n = true then numD n.v else 0) := Lib.hid rfl
  have HN : Hid (idB n = true → n.v.length = 4) := Lib.hid (fun h => idB_len h)
  unfold ndV at hC ⊢
  have hNd := hn0.data
  have hdc := hn0.dc
  clear hn0 h hf
  obtain ⟨t, v, ks⟩ := n
  simp only [Nd.t, Nd.v, Nd.ks] at *
  generalize idB (.mk t v ks) = sb at *
  generalize idV (.mk t v ks) = sv at *
  generalize chk 4 1 (.mk t v ks) = cc at *
  generalize isChg t = t1 at *
  generalize isRes t = t2 at *
  cases t1 with
  | true =>
    by_cases hc : cc = 0
    · subst hc
      obtain rfl : sb = true := by rw [HS.out]; rfl
      have hl := Lib.hid (HN.out rfl)
      rw [if_pos rfl] at HV
      have e0 : codeE 0 = .nilIface := rfl
      rw [e0] at hC
      clear e0 HS HN
      go_enter Tryz.func33, Tryz.ntmps33
      go_upto_region 1 with fail
      generalize w.alloc (.cells #[hv t, .slice A v.length c, .slice K ks.length k] 51) = wa at *
      obtain ⟨q0, q1, q2⟩ := wh318 x0
      go_wp2_with fail
      refine hT1.mono ?_
      rintro e w1 ⟨rfl, rfl⟩
      go_wp2_with fail
      refine hC.mono ?_
      rintro e w2 ⟨rfl, b2⟩
      have B2 := Lib.hid (b0.trans (b2.mono (by omega)))
      have x2 := x0.below b2 (by omega)
      have hM := numOf18_any A c v w2 ((hNd.below b2).more b2.size) hl.out (by have := hl.out; omega)
      rw [← HV.out] at hM
      have hs2 := b2.size
      clear hC hT1 hT2 q0 q1 q2 x0 b0 hNd b2 hl
      obtain ⟨q0, q1, q2⟩ := wh318 x2
      go_wp2_with fail
      refine hM.mono ?_
      rintro e w3 ⟨rfl, b3⟩
      go_wp2_with fail
      go_ret2
      exact ⟨rfl, B2.out.trans (b3.mono B2.out.size)⟩
    · obtain rfl : sb = false := by rw [HS.out, decide_eq_false hc]; rfl
      obtain rfl : sv = 0 := by rw [HV.out]; rfl
      rw [codeE_ne18 hc] at hC
      clear HS HV HN hNd hc
      go_enter Tryz.func33, Tryz.ntmps33
      go_upto_region 1 with fail
      generalize w.alloc (.cells #[hv t, .slice A v.length c, .slice K ks.length k] 51) = wa at *
      obtain ⟨q0, q1, q2⟩ := wh318 x0
      go_wp2_with fail
      refine hT1.mono ?_
      rintro e w1 ⟨rfl, rfl⟩
      go_wp2_with fail
      refine hC.mono ?_
      rintro e w2 ⟨rfl, b2⟩
      have B2 := Lib.hid (b0.trans (b2.mono (by omega)))
      clear hC hT1 hT2 q0 q1 q2 x0 b0 b2
      go_wp2_with fail
      go_ret2
      exact ⟨rfl, B2.out⟩
  | false =>
    cases t2 with
    | true =>
      by_cases hc : cc = 0
      · subst hc
        obtain rfl : sb = true := by rw [HS.out]; rfl
        have hl := Lib.hid (HN.out rfl)
        rw [if_pos rfl] at HV
        have e0 : codeE 0 = .nilIface := rfl
        rw [e0] at hC
        clear e0 HS HN
        go_enter Tryz.func33, Tryz.ntmps33
        go_upto_region 1 with fail
        generalize w.alloc (.cells #[hv t, .slice A v.length c, .slice K ks.length k] 51) = wa at *
        obtain ⟨q0, q1, q2⟩ := wh318 x0
        go_wp2_with fail
        refine hT1.mono ?_
        rintro e w1 ⟨rfl, rfl⟩
        go_wp2_with fail
        refine hT2.mono ?_
        rintro e w1 ⟨rfl, rfl⟩
        go_wp2_with fail
        refine hC.mono ?_
        rintro e w2 ⟨rfl, b2⟩
        have B2 := Lib.hid (b0.trans (b2.mono (by omega)))
        have x2 := x0.below b2 (by omega)
        have hM := numOf18_any A c v w2 ((hNd.below b2).more b2.size) hl.out (by have := hl.out; omega)
        rw [← HV.out] at hM
        have hs2 := b2.size
        clear hC hT1 hT2 q0 q1 q2 x0 b0 hNd b2 hl
        obtain ⟨q0, q1, q2⟩ := wh318 x2
        go_wp2_with fail
        refine hM.mono ?_
        rintro e w3 ⟨rfl, b3⟩
        go_wp2_with fail
        go_ret2
        exact ⟨rfl, B2.out.trans (b3.mono B2.out.size)⟩
      · obtain rfl : sb = false := by rw [HS.out, decide_eq_false hc]; rfl
        obtain rfl : sv = 0 := by rw [HV.out]; rfl
        rw [codeE_ne18 hc] at hC
        clear HS HV HN hNd hc
        go_enter Tryz.func33, Tryz.ntmps33
        go_upto_region 1 with fail
        generalize w.alloc (.cells #[hv t, .slice A v.length c, .slice K ks.length k] 51) = wa at *
        obtain ⟨q0, q1, q2⟩ := wh318 x0
        go_wp2_with fail
        refine hT1.mono ?_
        rintro e w1 ⟨rfl, rfl⟩
        go_wp2_with fail
        refine hT2.mono ?_
        rintro e w1 ⟨rfl, rfl⟩
        go_wp2_with fail
        refine hC.mono ?_
        rintro e w2 ⟨rfl, b2⟩
        have B2 := Lib.hid (b0.trans (b2.mono (by omega)))
        clear hC hT1 hT2 q0 q1 q2 x0 b0 b2
        go_wp2_with fail
        go_ret2
        exact ⟨rfl, B2.out⟩
    | false =>
      obtain rfl : sb = false := by rw [HS.out]; rfl
      obtain rfl : sv = 0 := by rw [HV.out]; rfl
      clear hC HS HV HN hNd
      go_enter Tryz.func33, Tryz.ntmps33
      go_upto_region 1 with fail
      generalize w.alloc (.cells #[hv t, .slice A v.length c, .slice K ks.length k] 51) = wa at *
      obtain ⟨q0, q1, q2⟩ := wh318 x0
      go_wp2_with fail
      refine hT1.mono ?_
      rintro e w1 ⟨rfl, rfl⟩
      go_wp2_with fail
      refine hT2.mono ?_
      rintro e w1 ⟨rfl, rfl⟩
      go_wp2_with fail
      go_ret2
      exact ⟨rfl, b0⟩
set_option maxRecDepth 100000 in
set_option maxHeartbeats 8000000 in
theorem isReq_any (x : Ck) (hf : CkFine x) (A : Option Addr) (c : Nat) (K : Option Addr) (k : Nat) (w : World) (h : Chunk w w.heap.size A c K k x) (hh : Handle w) :
    Calls Tryz.prog 73 #[ckV x A c K k] w fun e w' => e = .returned (.bool (reqB x)) ∧ Below w.heap.size w w' := by
  have b0 : Below w.heap.size w (w.alloc (.cells (ckCells x A c K k) 62)) := (Below.refl _ w).alloc (Nat.le_refl _) _
  have x0 := CkBox.new w x A c K k
  have HC := ccheck_any x hf A c K k _ (h.on b0) (hh.below b0 hh.lt)
  have HE : Hid (((x.t = 193 ∧ chkC x = 0) ∧ ∃ l : List Nd, l.length ≤ 1000 ∧ reqB x = (l.all fun n => isChg n.t) ∧ ∀ V, Below w.heap.size w V → Calls Tryz.prog 82 #[ckV x A c K k] V fun e w' => ∃ K1 k1, e = .returned (.slice K1 l.length k1) ∧ Nodes w' w'.heap.size K1 l ∧ l.length ≤ k1 ∧ k1 ≤ maxLen ∧ Below V.heap.size V w') ∨ (x.t = 193 ∧ chkC x ≠ 0 ∧ reqB x = false) ∨ (x.t ≠ 193 ∧ reqB x = false)) := by
    unfold Hid
    by_cases h1 : x.t = 193
    · by_cases hc : chkC x = 0
      · obtain ⟨_, a, l, hks, hl, _, _⟩ := chunk193 h1 hc
        refine .inl ⟨⟨h1, hc⟩, l, ?_, ?_, fun V hV => changes18_any x a l hks hl A c K k V (h.on hV)⟩
        · have := hf.ks
          rw [hks, List.length_cons] at this
          omega
        · unfold reqB
          rw [decide_eq_true h1, decide_eq_true hc, hks]
          rfl
      · exact .inr (.inl ⟨h1, hc, by unfold reqB; rw [decide_eq_false hc]; simp⟩)
    · exact .inr (.inr ⟨h1, by unfold reqB; rw [decide_eq_false h1]; simp⟩)
  have HCC := Lib.hid (fun hc : chkC x ≠ 0 => codeE_ne18 hc)
  obtain ⟨q0, q1, q2, q3⟩ := x0.cs
  have HB := Lib.hid b0
  have hz : w.heap.size ≤ (w.alloc (.cells (ckCells x A c K k) 62)).heap.size := by simp
  have HZ := Lib.hid hz
  have HX := Lib.hid x0
  clear h hf b0 hh hz x0
  generalize reqB x = b at *
  generalize chkC x = cc at *
  obtain ⟨t, fl, d, ks⟩ := x
  simp only [ckV, ckCells] at *
  rcases HE.out with ⟨⟨rfl, rfl⟩, l, hll, hre, hCG⟩ | ⟨rfl, hc, rfl⟩ | ⟨h1, rfl⟩
  · have e0 : codeE 0 = .nilIface := rfl
    rw [e0] at HC
    have HCG := Lib.hid hCG
    have HRE := Lib.hid hre
    clear HCC HE e0 hCG hre
    go_enter Tryz.func73, Tryz.ntmps73
    go_wp2_with fail
    refine HC.mono ?_
    rintro e w2 ⟨rfl, b2⟩
    have B2 := HB.out.trans (b2.mono HZ.out)
    have X2 : CkBox w2 w.heap.size ⟨193, fl, d, ks⟩ A c K k := CkBox.below HX.out b2
    obtain ⟨p0, p1, p2, p3⟩ := X2.cs
    have hG := HCG.out w2 B2
    clear HC q0 q1 q2 q3 HX X2 b2
    go_wp2_with fail
    refine hG.mono ?_
    rintro e w3 ⟨K1, k1, rfl, hN, hk1, hm1, b3⟩
    have hH := haveT_anyC l K1 k1 w3 hN (by omega)
    have B3 := Lib.hid (B2.trans (b3.mono B2.size))
    rw [← HRE.out] at hH
    clear hG B2 b3 hN HCG
    go_wp2_with fail
    refine hH.mono ?_
    rintro e w4 ⟨rfl, b4⟩
    go_wp2_with fail
    go_ret
    exact ⟨rfl, B3.out.trans (b4.mono B3.out.size)⟩
  · rw [HCC.out hc] at HC
    clear hc HCC HE
    go_enter Tryz.func73, Tryz.ntmps73
    go_wp2_with fail
    refine HC.mono ?_
    rintro e w2 ⟨rfl, b2⟩
    go_wp2_with fail
    go_ret
    exact ⟨rfl, HB.out.trans (b2.mono HZ.out)⟩
  · have e1 : ((t.toNat : Int) == 193) = false := by rw [beq_eq_false_iff_ne]; intro e; exact h1 (UInt8.toNat_inj.1 (by have : (193 : UInt8).toNat = 193 := rfl; omega))
    clear h1 HC HE HCC
    go_enter Tryz.func73, Tryz.ntmps73
    go_wp2_with fail
    go_ret
    exact ⟨rfl, HB.out⟩
set_option maxRecDepth 100000 in
set_option maxHeartbeats 8000000 in
theorem isAck_any (x : Ck) (hf : CkFine x) (A : Option Addr) (c : Nat) (K : Option Addr) (k : Nat) (w : World) (h : Chunk w w.heap.size A c K k x) (hh : Handle w) :
    Calls Tryz.prog 74 #[ckV x A c K k] w fun e w' => e = .returned (.bool (ackB x)) ∧ Below w.heap.size w w' := by
  have b0 : Below w.heap.size w (w.alloc (.cells (ckCells x A c K k) 62)) := (Below.refl _ w).alloc (Nat.le_refl _) _
  have x0 := CkBox.new w x A c K k
  have HC := ccheck_any x hf A c K k _ (h.on b0) (hh.below b0 hh.lt)
  have HE : Hid (((x.t = 128 ∧ chkC x = 0) ∧ ackB x = (x.ks.all fun n => isRes n.t)) ∨ (x.t = 128 ∧ chkC x ≠ 0 ∧ ackB x = false) ∨ (x.t ≠ 128 ∧ ackB x = false)) := by
    unfold Hid
    by_cases h1 : x.t = 128
    · by_cases hc : chkC x = 0
      · exact .inl ⟨⟨h1, hc⟩, by unfold ackB; rw [decide_eq_true h1, decide_eq_true hc]; rfl⟩
      · exact .inr (.inl ⟨h1, hc, by unfold ackB; rw [decide_eq_false hc]; simp⟩)
    · exact .inr (.inr ⟨h1, by unfold ackB; rw [decide_eq_false h1]; simp⟩)
  have HCC := Lib.hid (fun hc : chkC x ≠ 0 => codeE_ne18 hc)
  have HH : Hid (∀ V, Below w.heap.size w V → Calls Tryz.prog 113 #[.slice K x.ks.length k, .func (.func 71) #[] #[]] V fun e w' => e = .returned (.bool (x.ks.all fun n => isRes n.t)) ∧ Below V.heap.size V w') := Lib.hid (fun V hV =>
    haveT_anyR x.ks K k V (h.on hV).kids (by have := hf.ks; omega))
  obtain ⟨q0, q1, q2, q3⟩ := x0.cs
  have HB := Lib.hid b0
  have hz : w.heap.size ≤ (w.alloc (.cells (ckCells x A c K k) 62)).heap.size := by simp
  have HZ := Lib.hid hz
  have HX := Lib.hid x0
  clear h hf b0 hh hz x0
  generalize ackB x = b at *
  generalize chkC x = cc at *
  obtain ⟨t, fl, d, ks⟩ := x
  simp only [ckV, ckCells] at *
  rcases HE.out with ⟨⟨rfl, rfl⟩, hre⟩ | ⟨rfl, hc, rfl⟩ | ⟨h1, rfl⟩
  · have e0 : codeE 0 = .nilIface := rfl
    rw [e0] at HC
    have HRE := Lib.hid hre
    clear HCC HE e0 hre
    go_enter Tryz.func74, Tryz.ntmps74
    go_wp2_with fail
    refine HC.mono ?_
    rintro e w2 ⟨rfl, b2⟩
    have B2 := HB.out.trans (b2.mono HZ.out)
    have X2 : CkBox w2 w.heap.size ⟨128, fl, d, ks⟩ A c K k := CkBox.below HX.out b2
    obtain ⟨p0, p1, p2, p3⟩ := X2.cs
    have hG := HH.out w2 B2
    rw [← HRE.out] at hG
    clear HC q0 q1 q2 q3 HX X2 b2 HH
    go_wp2_with fail
    refine hG.mono ?_
    rintro e w3 ⟨rfl, b3⟩
    go_wp2_with fail
    go_ret
    exact ⟨rfl, B2.trans (b3.mono B2.size)⟩
  · rw [HCC.out hc] at HC
    clear hc HCC HE
    go_enter Tryz.func74, Tryz.ntmps74
    go_wp2_with fail
    refine HC.mono ?_
    rintro e w2 ⟨rfl, b2⟩
    go_wp2_with fail
    go_ret
    exact ⟨rfl, HB.out.trans (b2.mono HZ.out)⟩
  · have e1 : ((t.toNat : Int) == 128) = false := by rw [beq_eq_false_iff_ne]; intro e; exact h1 (UInt8.toNat_inj.1 (by have : (128 : UInt8).toNat = 128 := rfl; omega))
    clear h1 HC HE HCC
    go_enter Tryz.func74, Tryz.ntmps74
    go_wp2_with fail
    go_ret
    exact ⟨rfl, HB.out⟩
def serB (x : Ck) : Bool := reqB x || ackB x
def serV (x : Ck) : UInt32 := if serB x = true then numD x.d else 0
theorem serB_len {x : Ck} (h : serB x = true) : x.d.length = 4 := by
  unfold serB at h
  rw [Bool.or_eq_true] at h
  rcases h with h | h
  · exact req_len h
  · exact ack_len h
set_option maxRecDepth 100000 in
set_option maxHeartbeats 8000000 in
theorem serial18_any (x : Ck) (hf : CkFine x) (A : Option Addr) (c : Nat) (K : Option Addr) (k : Nat) (w : World) (h : Chunk w w.heap.size A c K k x) (hh : Handle w) :
    Calls Tryz.prog 34 #[ckV x A c K k] w fun e w' => e = .returned (.tuple #[uv (serV x), .bool (serB x)]) ∧ Below w.heap.size w w' := by
  have b0 : Below w.heap.size w (w.alloc (.cells (ckCells x A c K k) 62)) := (Below.refl _ w).alloc (Nat.le_refl _) _
  have x0 := CkBox.new w x A c K k
  have HR : Hid (∀ V, Below w.heap.size w V → Calls Tryz.prog 73 #[ckV x A c K k] V fun e w' => e = .returned (.bool (reqB x)) ∧ Below V.heap.size V w') := Lib.hid (fun V hV => isReq_any x hf A c K k V (h.on hV) (hh.below hV hh.lt))
  have HA : Hid (∀ V, Below w.heap.size w V → Calls Tryz.prog 74 #[ckV x A c K k] V fun e w' => e = .returned (.bool (ackB x)) ∧ Below V.heap.size V w') := Lib.hid (fun V hV => isAck_any x hf A c K k V (h.on hV) (hh.below hV hh.lt))
  have HN : Hid (serB x = true → ∀ V, Below w.heap.size w V → Calls Tryz.prog 72 #[.slice A x.d.length c] V fun e w' => e = .returned (uv (serV x)) ∧ Below V.heap.size V w') := Lib.hid (fun hs V hV => by
    have e : serV x = numD x.d := by unfold serV; rw [if_pos hs]
    rw [e]
    exact numOf18_any A c x.d V (h.on hV).data (serB_len hs) (by have := h.dc; have := serB_len hs; omega))
  have HV : Hid (serB x = false → serV x = 0) := Lib.hid (fun hs => by unfold serV; rw [hs]; rfl)
  have HS : Hid (serB x = (reqB x || ackB x)) := Lib.hid rfl
  clear h hf hh
  generalize serB x = sb at *
  generalize serV x = sv at *
  generalize reqB x = rb at *
  generalize ackB x = ab at *
  obtain ⟨t, fl, d, ks⟩ := x
  simp only [ckV, ckCells] at *
  go_enter Tryz.func34, Tryz.ntmps34
  go_upto_region 1 with fail
  generalize w.alloc (.cells #[bv t, bv fl, .slice A d.length c, .slice K ks.length k] 62) = wa at *
  have hR := HR.out wa b0
  have X0 : Whole wa w.heap.size 62 #[bv t, bv fl, .slice A d.length c, .slice K ks.length k] := x0
  clear x0 HR
  obtain ⟨q0, q1, q2, q3⟩ := wh4 X0
  cases rb with
  | true =>
    obtain rfl : sb = true := by rw [HS.out]; rfl
    go_wp2_with fail
    refine hR.mono ?_
    rintro e w1 ⟨rfl, b1⟩
    have B1 := b0.trans (b1.mono b0.size)
    have X1 := X0.below b1 X0.lt
    have hN := HN.out (by trivial) w1 B1
    have HB1 := Lib.hid B1
    clear hR X0 b0 b1 q0 q1 q2 q3 HA HN HV HS B1
    obtain ⟨q0, q1, q2, q3⟩ := wh4 X1
    go_wp2_with fail
    refine hN.mono ?_
    rintro e w2 ⟨rfl, b2⟩
    go_wp2_with fail
    go_ret2
    exact ⟨rfl, HB1.out.trans (b2.mono HB1.out.size)⟩
  | false =>
    go_wp2_with fail
    refine hR.mono ?_
    rintro e w1 ⟨rfl, b1⟩
    have B1 := b0.trans (b1.mono b0.size)
    have X1 := X0.below b1 X0.lt
    have hA := HA.out w1 B1
    clear hR X0 b0 b1 q0 q1 q2 q3 HA
    obtain ⟨q0, q1, q2, q3⟩ := wh4 X1
    cases ab with
    | true =>
      obtain rfl : sb = true := by rw [HS.out]; rfl
      go_wp2_with fail
      refine hA.mono ?_
      rintro e w2 ⟨rfl, b2⟩
      have B2 := B1.trans (b2.mono B1.size)
      have X2 := X1.below b2 X1.lt
      have hN := HN.out (by trivial) w2 B2
      have HB2 := Lib.hid B2
      clear hA X1 B1 b2 q0 q1 q2 q3 HN HV HS B2
      obtain ⟨q0, q1, q2, q3⟩ := wh4 X2
      go_wp2_with fail
      refine hN.mono ?_
      rintro e w3 ⟨rfl, b3⟩
      go_wp2_with fail
      go_ret2
      exact ⟨rfl, HB2.out.trans (b3.mono HB2.out.size)⟩
    | false =>
      obtain rfl : sb = false := by rw [HS.out]; rfl
      obtain rfl : sv = 0 := HV.out (by trivial)
      go_wp2_with fail
      refine hA.mono ?_
      rintro e w2 ⟨rfl, b2⟩
      have B2 := Lib.hid (B1.trans (b2.mono B1.size))
      clear hA X1 B1 b2 HN HV HS
      go_wp2_with fail
      go_ret2
      exact ⟨rfl, B2.out⟩
end Go.Proofs.YteknmgmdmjmnmaaGreatDoor





namespace Go.Proofs.YteknmgmdmjmnmaaGreatDoor
open Go.RowKit

set_option linter.unusedSimpArgs false
theorem puts1_18 (x : UInt32) : puts 4 [x] = be 4 x := by simp [puts]
theorem be4_len18 (x : UInt32) : (be 4 x).length = 4 := be_len 4 x
/-- one number put in four bytes -/
theorem put1_18 (x : UInt32) (w : World) : Calls Tryz.prog 66 #[.int .i64 4, .slice (some ⟨w.heap.size, 0, none⟩) 1 1] (w.alloc (.cells #[uv x] 22)) fun e w' => ∃ A' c', e = .returned (.slice A' 4 c') ∧ w'.ownsRow w.heap.size 5 1 (.slice A' 4 c') 4 ((be 4 x).map bv) ∧ Below w.heap.size w w' :=
  Calls.mono (put_any 4 (.inr (.inr rfl)) (some ⟨w.heap.size, 0, none⟩) 1 [x] (w.alloc (.cells #[uv x] 22)) ((Lies.newN w [uv x] _).more (by simp)) (by simp)) fun e w' h => by
    obtain ⟨A', c', he, ho, hb⟩ := h
    rw [puts1_18] at ho
    exact ⟨A', c', he, own_base ho (by simp), ((Below.refl _ w).alloc (Nat.le_refl _) _).trans (hb.mono (by simp))⟩
/-- what is stored in a node's box, far from it -/
theorem node_far18 {w : World} {S : Nat → Prop} {A : Option Addr} {c : Nat} {K : Option Addr} {k : Nat} {n : Nd} {g : Nat} {u0 u1 u2 : Value} (h : NodeS w S A c K k n) (hg : ∀ b, S b → g ≠ b ∧ b < w.heap.size) :
    Node (((w.setCell ⟨g, 0, none⟩ u0).setCell ⟨g, 1, none⟩ u1).setCell ⟨g, 2, none⟩ u2) (((w.setCell ⟨g, 0, none⟩ u0).setCell ⟨g, 1, none⟩ u1).setCell ⟨g, 2, none⟩ u2).heap.size A c K k n := by
  have h2 := h.turn (w' := ((w.setCell ⟨g, 0, none⟩ u0).setCell ⟨g, 1, none⟩ u1).setCell ⟨g, 2, none⟩ u2) (S' := fun b => b < (((w.setCell ⟨g, 0, none⟩ u0).setCell ⟨g, 1, none⟩ u1).setCell ⟨g, 2, none⟩ u2).heap.size) (fun p hp => by
    have h1 := (hg _ hp).1
    rw [World.cell?_setCell_far _ _ _ _ h1, World.cell?_setCell_far _ _ _ _ h1, World.cell?_setCell_far _ _ _ _ h1]) (fun b hb => by simpa [World.setCell] using (hg _ hb).2)
  exact ⟨h2.data.lies (fun b hb => hb), h2.dc, h2.dm, h2.kids.nodes (fun b hb => hb), h2.kc, h2.km⟩
/-- what a builder of nodes hands back -/
def MkN (n : Nd) (ok : Bool) (w : World) (e : Ending) (w' : World) : Prop := Below w.heap.size w w' ∧
  ((ok = true ∧ ∃ A' c' K' k', e = .returned (.tuple #[ndV n A' c' K' k', .bool true]) ∧ Node w' w'.heap.size A' c' K' k' n) ∨ (ok = false ∧ e = .returned (.tuple #[.agg #[.int .u16 0, .slice none 0 0, .slice none 0 0], .bool false])))
/-- what a builder of chunks hands back -/
def MkK (x : Ck) (ok : Bool) (w : World) (e : Ending) (w' : World) : Prop := Below w.heap.size w w' ∧
  ((ok = true ∧ ∃ A' c' K' k', e = .returned (.tuple #[ckV x A' c' K' k', .bool true]) ∧ ChunkS w' (fun b => w.heap.size ≤ b ∧ b < w'.heap.size) A' c' K' k' x) ∨ (ok = false ∧ e = .returned (.tuple #[.agg #[.int .u8 0, .int .u8 0, .slice none 0 0, .slice none 0 0], .bool false])))
set_option maxRecDepth 100000 in
set_option maxHeartbeats 4000000 in
theorem suc18_any (id : UInt32) (w : World) : Calls Tryz.prog 31 #[uv id] w fun e w' => ∃ A' c', e = .returned (.agg #[.int .u16 49157, .slice A' 4 c', .slice none 0 0]) ∧ Below w.heap.size w w' ∧ w'.ownsRow (w.heap.size + 1) 5 1 (.slice A' 4 c') 4 ((be 4 id).map bv) := by
  have b0 : Below w.heap.size w (w.alloc (.cells #[.int .u16 0, .slice none 0 0, .slice none 0 0] 51)) := (Below.refl _ w).alloc (Nat.le_refl _) _
  have x0 := Whole.new w 51 #[.int .u16 0, .slice none 0 0, .slice none 0 0]
  have hs0 : (w.alloc (.cells #[.int .u16 0, .slice none 0 0, .slice none 0 0] 51)).heap.size = w.heap.size + 1 := by simp
  go_enter Tryz.func31, Tryz.ntmps31
  go_upto_region 1 with fail
  generalize w.alloc (.cells #[.int .u16 0, .slice none 0 0, .slice none 0 0] 51) = wa at *
  have hP := put1_18 id wa
  rw [hs0] at hP
  have HS := Lib.hid hs0
  have HP := Lib.hid hP
  clear hs0 hP
  have e1 : wa.heap.size = w.heap.size + 1 := HS.out
  go_wp2_with fail
  refine HP.out.mono ?_
  rintro e w2 ⟨A2, c2, rfl, o2, b2⟩
  have B2 := Lib.hid (b0.trans (b2.mono (Nat.le_succ _)))
  have x2 := x0.below b2 (Nat.lt_succ_self _)
  have HO := Lib.hid o2
  clear x0 b0 b2 o2 HP e1 HS
  have f0 := x2.frozen 0
  have f1 := x2.frozen 1
  have f2 := x2.frozen 2
  obtain ⟨u0, u1, u2⟩ := wh318 x2
  go_wp2_with fail
  refine bodyPost_ret (results_row13 rfl _ _ w.heap.size 51 _ _ rfl (((x2.set_ 0 _).set_ 1 _).set_ 2 _) Tryz.underlying51 rfl (by kernel_rfl)) rfl ?_
  refine ⟨A2, c2, rfl, ((B2.out.setCell (p := ⟨w.heap.size, 0, none⟩) (Nat.le_refl _) _).setCell (p := ⟨w.heap.size, 1, none⟩) (Nat.le_refl _) _).setCell (p := ⟨w.heap.size, 2, none⟩) (Nat.le_refl _) _, ?_⟩
  exact own_set13 (own_set13 (own_set13 HO.out x2 (by decide)) (x2.set_ 0 _) (by decide)) ((x2.set_ 0 _).set_ 1 _) (by decide)
set_option maxRecDepth 100000 in
set_option maxHeartbeats 8000000 in
theorem fail18_any (id : UInt32) (ks : List Nd) (hF : Fine (.mk 49155 (be 4 id) ks)) (K : Option Addr) (c : Nat) (w : World) (h : Nodes w w.heap.size K ks) (hc : ks.length ≤ c) (hm : c ≤ maxLen) :
    Calls Tryz.prog 27 #[uv id, .slice K ks.length c] w (MkN (.mk 49155 (be 4 id) ks) (decide (chk 4 1 (.mk 49155 (be 4 id) ks) = 0)) w) := by
  have b0 : Below w.heap.size w (w.alloc (.cells #[.int .u16 0, .slice none 0 0, .slice none 0 0] 51)) := (Below.refl _ w).alloc (Nat.le_refl _) _
  have x0 := Whole.new w 51 #[.int .u16 0, .slice none 0 0, .slice none 0 0]
  have hs0 : (w.alloc (.cells #[.int .u16 0, .slice none 0 0, .slice none 0 0] 51)).heap.size = w.heap.size + 1 := by simp
  have HND : Hid (∀ (V : World) (A' : Option Addr) (c' : Nat), Below w.heap.size w V → Lies V V.heap.size A' ((be 4 id).map bv) → 4 ≤ c' → c' ≤ maxLen → Node V V.heap.size A' c' K c (.mk 49155 (be 4 id) ks)) := Lib.hid (fun V A' c' hV hl h1 h2 => ⟨hl, by show (be 4 id).length ≤ c'; rw [be4_len18]; exact h1, h2, h.on hV, hc, hm⟩)
  have HC : Hid (∀ (V : World) (A' : Option Addr) (c' : Nat), Below w.heap.size w V → Lies V V.heap.size A' ((be 4 id).map bv) → 4 ≤ c' → c' ≤ maxLen → Calls Tryz.prog 67 #[.int .i64 1, .agg #[.int .u16 49155, .slice A' 4 c', .slice K ks.length c]] V fun e w' => e = .returned (codeE (chk 4 1 (.mk 49155 (be 4 id) ks))) ∧ Below V.heap.size V w') := Lib.hid (fun V A' c' hV hl h1 h2 =>
    ncheck_any 1 (.mk 49155 (be 4 id) ks) A' c' K c V (HND.out V A' c' hV hl h1 h2) hF)
  have HL : Hid (∀ (V : World) (A' : Option Addr) (c' : Nat), Below w.heap.size w V → Lies V V.heap.size A' ((be 4 id).map bv) → 4 ≤ c' → c' ≤ maxLen → Calls Tryz.prog 68 #[.agg #[.int .u16 49155, .slice A' 4 c', .slice K ks.length c]] V fun e w' => ∃ A2 c2 K2 k2, e = .returned (.agg #[.int .u16 49155, .slice A2 4 c2, .slice K2 ks.length k2]) ∧ NodeS w' (NewS V w') A2 c2 K2 k2 (.mk 49155 (be 4 id) ks) ∧ Below V.heap.size V w') := Lib.hid (fun V A' c' hV hl h1 h2 =>
    nclone_any (.mk 49155 (be 4 id) ks) (few217 _ hF) A' c' K c V (HND.out V A' c' hV hl h1 h2))
  have HM : Hid (∀ ok e w', MkN (.mk 49155 (be 4 id) ks) ok w e w' = (Below w.heap.size w w' ∧
    ((ok = true ∧ ∃ A' c' K' k', e = .returned (.tuple #[.agg #[.int .u16 49155, .slice A' 4 c', .slice K' ks.length k'], .bool true]) ∧ Node w' w'.heap.size A' c' K' k' (.mk 49155 (be 4 id) ks)) ∨ (ok = false ∧ e = .returned (.tuple #[.agg #[.int .u16 0, .slice none 0 0, .slice none 0 0], .bool false]))))) := Lib.hid fun _ _ _ => rfl
  clear h hc hm hF HND
  generalize hnn : Nd.mk 49155 (be 4 id) ks = nn at *
  clear hnn
  generalize chk 4 1 nn = cc at *
  generalize ks.length = lk at *
  go_enter Tryz.func27, Tryz.ntmps27
  go_upto_region 1 with fail
  generalize w.alloc (.cells #[.int .u16 0, .slice none 0 0, .slice none 0 0] 51) = wa at *
  have hP := put1_18 id wa
  rw [hs0] at hP
  have HP := Lib.hid hP
  have HS := Lib.hid hs0
  clear hs0 hP
  have e1 : wa.heap.size = w.heap.size + 1 := HS.out
  go_wp2_with fail
  refine HP.out.mono ?_
  rintro e w2 ⟨A2, c2, rfl, o2, b2⟩
  have B2 := b0.trans (b2.mono (Nat.le_succ _))
  have x2 := x0.below b2 (Nat.lt_succ_self _)
  have l2 : Lies w2 w2.heap.size A2 ((be 4 id).map bv) := Lies.own o2
  obtain ⟨_, cp1, cp2⟩ := own_cap o2
  clear x0 b0 b2 o2 HP e1 HS
  go_upto_region 2 with fail
  have B3 := B2.alloc B2.size (.cells #[.int .u16 49155, .slice A2 4 c2, .slice K lk c] 51)
  have x3 := x2.alloc (.cells #[.int .u16 49155, .slice A2 4 c2, .slice K lk c] 51)
  have y3 := Whole.new w2 51 #[.int .u16 49155, .slice A2 4 c2, .slice K lk c]
  have l3 := (l2.below ((Below.refl _ w2).alloc (Nat.le_refl _) (.cells #[.int .u16 49155, .slice A2 4 c2, .slice K lk c] 51))).more (B' := (w2.alloc (.cells #[.int .u16 49155, .slice A2 4 c2, .slice K lk c] 51)).heap.size) (by simp)
  generalize w2.alloc (.cells #[.int .u16 49155, .slice A2 4 c2, .slice K lk c] 51) = w3 at *
  generalize w2.heap.size = g2 at *
  clear x2 B2 l2
  have hC := HC.out w3 A2 c2 B3 l3 cp1 cp2
  obtain ⟨q0, q1, q2⟩ := wh318 y3
  by_cases hcc : cc = 0
  · subst hcc
    have e0 : codeE 0 = .nilIface := rfl
    rw [e0] at hC
    clear e0 HC
    go_wp2_with fail
    refine hC.mono ?_
    rintro e w4 ⟨rfl, b4⟩
    have B4 := B3.trans (b4.mono B3.size)
    have x4 := x3.below b4 x3.lt
    have y4 := y3.below b4 y3.lt
    have l4 := (l3.below b4).more b4.size
    have hL := HL.out w4 A2 c2 B4 l4 cp1 cp2
    have hz4 := x4.lt
    clear hC q0 q1 q2 x3 y3 l3 l4 B3 b4 HL
    obtain ⟨q0, q1, q2⟩ := wh318 y4
    go_wp2_with fail
    refine hL.mono ?_
    rintro e w5 ⟨A5, c5, K5, k5, rfl, hS5, b5⟩
    have B5 := Lib.hid (B4.trans (b5.mono B4.size))
    have x5 := x4.below b5 x4.lt
    have HS5 := Lib.hid hS5
    clear hL q0 q1 q2 x4 y4 B4 b5 hS5
    have f0 := x5.frozen 0
    have f1 := x5.frozen 1
    have f2 := x5.frozen 2
    obtain ⟨u0, u1, u2⟩ := wh318 x5
    go_wp2_with fail
    refine bodyPost_ret (results_row_tmp rfl _ _ w.heap.size 51 _ _ rfl (((x5.set_ 0 _).set_ 1 _).set_ 2 _) Tryz.underlying51 rfl (by kernel_rfl)) rfl ?_
    rw [HM.out]
    refine ⟨((B5.out.setCell (p := ⟨w.heap.size, 0, none⟩) (Nat.le_refl _) _).setCell (p := ⟨w.heap.size, 1, none⟩) (Nat.le_refl _) _).setCell (p := ⟨w.heap.size, 2, none⟩) (Nat.le_refl _) _, .inl ⟨by simp, A5, c5, K5, k5, rfl, ?_⟩⟩
    exact node_far18 HS5.out (fun b hb => ⟨by have := hb.1; omega, hb.2⟩)
  · rw [codeE_ne18 hcc] at hC
    have HCD := Lib.hid (decide_eq_false hcc)
    clear hcc HC HL
    go_wp2_with fail
    refine hC.mono ?_
    rintro e w4 ⟨rfl, b4⟩
    have B4 := Lib.hid (B3.trans (b4.mono B3.size))
    have x4 := x3.below b4 x3.lt
    clear hC q0 q1 q2 x3 y3 l3 B3 b4
    have f0 := x4.frozen 0
    have f1 := x4.frozen 1
    have f2 := x4.frozen 2
    obtain ⟨u0, u1, u2⟩ := wh318 x4
    go_wp2_with fail
    refine bodyPost_ret (results_row_tmp rfl _ _ w.heap.size 51 _ _ rfl (((x4.set_ 0 _).set_ 1 _).set_ 2 _) Tryz.underlying51 rfl (by kernel_rfl)) rfl ?_
    rw [HM.out]
    exact ⟨((B4.out.setCell (p := ⟨w.heap.size, 0, none⟩) (Nat.le_refl _) _).setCell (p := ⟨w.heap.size, 1, none⟩) (Nat.le_refl _) _).setCell (p := ⟨w.heap.size, 2, none⟩) (Nat.le_refl _) _, .inr ⟨HCD.out, rfl⟩⟩
/-- a chunk in new blocks, behind stores in the box of the result -/
theorem chunk_back18 {w w0 : World} {V : World} {A : Option Addr} {c : Nat} {K : Option Addr} {k : Nat} {x : Ck} {g : Nat} {u0 u1 u2 u3 : Value} (h : ChunkS w (NewS V w) A c K k x) (hg : g < V.heap.size) (h0 : w0.heap.size ≤ V.heap.size) :
    ChunkS ((((w.setCell ⟨g, 0, none⟩ u0).setCell ⟨g, 1, none⟩ u1).setCell ⟨g, 2, none⟩ u2).setCell ⟨g, 3, none⟩ u3) (fun b => w0.heap.size ≤ b ∧ b < ((((w.setCell ⟨g, 0, none⟩ u0).setCell ⟨g, 1, none⟩ u1).setCell ⟨g, 2, none⟩ u2).setCell ⟨g, 3, none⟩ u3).heap.size) A c K k x := by
  refine h.turn17 (fun p hp => ?_) (fun b hb => ⟨by have := hb.1; omega, by simpa [World.setCell] using hb.2⟩)
  have h1 : g ≠ p.block := by have := hp.1; omega
  rw [World.cell?_setCell_far _ _ _ _ h1, World.cell?_setCell_far _ _ _ _ h1, World.cell?_setCell_far _ _ _ _ h1, World.cell?_setCell_far _ _ _ _ h1]
set_option maxRecDepth 100000 in
set_option maxHeartbeats 8000000 in
theorem with18_any (t : UInt8) (s : UInt32) (ks : List Nd) (hF : CkFine ⟨t, 0, be 4 s, ks⟩) (K : Option Addr) (c : Nat) (w : World) (h : Nodes w w.heap.size K ks) (hc : ks.length ≤ c) (hm : c ≤ maxLen) (hh : Handle w) :
    Calls Tryz.prog 78 #[bv t, uv s, .slice K ks.length c] w (MkK ⟨t, 0, be 4 s, ks⟩ (serB ⟨t, 0, be 4 s, ks⟩) w) := by
  have b0 : Below w.heap.size w (w.alloc (.cells #[.int .u8 0, .int .u8 0, .slice none 0 0, .slice none 0 0] 62)) := (Below.refl _ w).alloc (Nat.le_refl _) _
  have x0 := Whole.new w 62 #[.int .u8 0, .int .u8 0, .slice none 0 0, .slice none 0 0]
  have hs0 : (w.alloc (.cells #[.int .u8 0, .int .u8 0, .slice none 0 0, .slice none 0 0] 62)).heap.size = w.heap.size + 1 := by simp
  have HND : Hid (∀ (V : World) (A' : Option Addr) (c' : Nat), Below w.heap.size w V → Lies V V.heap.size A' ((be 4 s).map bv) → 4 ≤ c' → c' ≤ maxLen → Chunk V V.heap.size A' c' K c ⟨t, 0, be 4 s, ks⟩) := Lib.hid (fun V A' c' hV hl h1 h2 => ⟨hl, by show (be 4 s).length ≤ c'; rw [be4_len18]; exact h1, h2, h.on hV, hc, hm⟩)
  have HR : Hid (∀ (V : World) (A' : Option Addr) (c' : Nat), Below w.heap.size w V → Lies V V.heap.size A' ((be 4 s).map bv) → 4 ≤ c' → c' ≤ maxLen → Calls Tryz.prog 73 #[.agg #[bv t, .int .u8 0, .slice A' 4 c', .slice K ks.length c]] V fun e w' => e = .returned (.bool (reqB ⟨t, 0, be 4 s, ks⟩)) ∧ Below V.heap.size V w') := Lib.hid (fun V A' c' hV hl h1 h2 =>
    isReq_any ⟨t, 0, be 4 s, ks⟩ hF A' c' K c V (HND.out V A' c' hV hl h1 h2) (hh.below hV hh.lt))
  have HA : Hid (∀ (V : World) (A' : Option Addr) (c' : Nat), Below w.heap.size w V → Lies V V.heap.size A' ((be 4 s).map bv) → 4 ≤ c' → c' ≤ maxLen → Calls Tryz.prog 74 #[.agg #[bv t, .int .u8 0, .slice A' 4 c', .slice K ks.length c]] V fun e w' => e = .returned (.bool (ackB ⟨t, 0, be 4 s, ks⟩)) ∧ Below V.heap.size V w') := Lib.hid (fun V A' c' hV hl h1 h2 =>
    isAck_any ⟨t, 0, be 4 s, ks⟩ hF A' c' K c V (HND.out V A' c' hV hl h1 h2) (hh.below hV hh.lt))
  have HL : Hid (∀ (V : World) (A' : Option Addr) (c' : Nat), Below w.heap.size w V → Lies V V.heap.size A' ((be 4 s).map bv) → 4 ≤ c' → c' ≤ maxLen → Calls Tryz.prog 122 #[.agg #[bv t, .int .u8 0, .slice A' 4 c', .slice K ks.length c]] V fun e w' => ∃ A2 c2 K2 k2, e = .returned (.agg #[bv t, .int .u8 0, .slice A2 4 c2, .slice K2 ks.length k2]) ∧ ChunkS w' (NewS V w') A2 c2 K2 k2 ⟨t, 0, be 4 s, ks⟩ ∧ Below V.heap.size V w') := Lib.hid (fun V A' c' hV hl h1 h2 =>
    cclone_any ⟨t, 0, be 4 s, ks⟩ hF.d (by have := hF.ks; omega) (fun n hn => few217 n (hF.each n hn)) A' c' K c V (HND.out V A' c' hV hl h1 h2))
  have HM : Hid (∀ ok e w', MkK ⟨t, 0, be 4 s, ks⟩ ok w e w' = (Below w.heap.size w w' ∧
    ((ok = true ∧ ∃ A' c' K' k', e = .returned (.tuple #[.agg #[bv t, .int .u8 0, .slice A' 4 c', .slice K' ks.length k'], .bool true]) ∧ ChunkS w' (fun b => w.heap.size ≤ b ∧ b < w'.heap.size) A' c' K' k' ⟨t, 0, be 4 s, ks⟩) ∨ (ok = false ∧ e = .returned (.tuple #[.agg #[.int .u8 0, .int .u8 0, .slice none 0 0, .slice none 0 0], .bool false]))))) := Lib.hid fun _ _ _ => rfl
  have HSB : Hid (serB ⟨t, 0, be 4 s, ks⟩ = (reqB ⟨t, 0, be 4 s, ks⟩ || ackB ⟨t, 0, be 4 s, ks⟩)) := Lib.hid rfl
  clear h hc hm hF HND hh
  generalize serB ⟨t, 0, be 4 s, ks⟩ = sb at *
  generalize reqB ⟨t, 0, be 4 s, ks⟩ = rb at *
  generalize ackB ⟨t, 0, be 4 s, ks⟩ = ab at *
  generalize hnn : (⟨t, 0, be 4 s, ks⟩ : Ck) = nn at *
  clear hnn
  generalize ks.length = lk at *
  go_enter Tryz.func78, Tryz.ntmps78
  go_upto_region 1 with fail
  generalize w.alloc (.cells #[.int .u8 0, .int .u8 0, .slice none 0 0, .slice none 0 0] 62) = wa at *
  have hP := put1_18 s wa
  rw [hs0] at hP
  have HP := Lib.hid hP
  have HS := Lib.hid hs0
  clear hs0 hP
  have e1 : wa.heap.size = w.heap.size + 1 := HS.out
  go_wp2_with fail
  refine HP.out.mono ?_
  rintro e w2 ⟨A2, c2, rfl, o2, b2⟩
  have B2 := b0.trans (b2.mono (Nat.le_succ _))
  have x2 := x0.below b2 (Nat.lt_succ_self _)
  have l2 : Lies w2 w2.heap.size A2 ((be 4 s).map bv) := Lies.own o2
  obtain ⟨_, cp1, cp2⟩ := own_cap o2
  clear x0 b0 b2 o2 HP e1 HS
  go_upto_region 2 with fail
  have B3 := B2.alloc B2.size (.cells #[bv t, .int .u8 0, .slice A2 4 c2, .slice K lk c] 62)
  have x3 := x2.alloc (.cells #[bv t, .int .u8 0, .slice A2 4 c2, .slice K lk c] 62)
  have y3 := Whole.new w2 62 #[bv t, .int .u8 0, .slice A2 4 c2, .slice K lk c]
  have l3 := (l2.below ((Below.refl _ w2).alloc (Nat.le_refl _) (.cells #[bv t, .int .u8 0, .slice A2 4 c2, .slice K lk c] 62))).more (B' := (w2.alloc (.cells #[bv t, .int .u8 0, .slice A2 4 c2, .slice K lk c] 62)).heap.size) (by simp)
  generalize w2.alloc (.cells #[bv t, .int .u8 0, .slice A2 4 c2, .slice K lk c] 62) = w3 at *
  generalize w2.heap.size = g2 at *
  clear x2 B2 l2
  have hR := HR.out w3 A2 c2 B3 l3 cp1 cp2
  clear HR
  obtain ⟨q0, q1, q2, q3⟩ := wh4 y3
  cases rb with
  | true =>
    obtain rfl : sb = true := by rw [HSB.out]; rfl
    go_wp2_with fail
    refine hR.mono ?_
    rintro e w4 ⟨rfl, b4⟩
    have B4 := B3.trans (b4.mono B3.size)
    have x4 := x3.below b4 x3.lt
    have y4 := y3.below b4 y3.lt
    have l4 := (l3.below b4).more b4.size
    have hL := HL.out w4 A2 c2 B4 l4 cp1 cp2
    have hz4 := x4.lt
    clear hR b4 B3 x3 y3 l3 HA HSB q0 q1 q2 q3 l4 HL
    obtain ⟨q0, q1, q2, q3⟩ := wh4 y4
    go_wp2_with fail
    refine hL.mono ?_
    rintro e w5 ⟨A5, c5, K5, k5, rfl, hS5, b5⟩
    have B5 := Lib.hid (B4.trans (b5.mono B4.size))
    have x5 := x4.below b5 x4.lt
    have HS5 := Lib.hid hS5
    have HB4 := Lib.hid B4.size
    clear hL q0 q1 q2 q3 x4 y4 B4 b5 hS5
    have f0 := x5.frozen 0
    have f1 := x5.frozen 1
    have f2 := x5.frozen 2
    have f3 := x5.frozen 3
    obtain ⟨u0, u1, u2, u3⟩ := wh4 x5
    go_wp2_with fail
    refine bodyPost_ret (results_row_tmp rfl _ _ w.heap.size 62 _ _ rfl ((((x5.set_ 0 _).set_ 1 _).set_ 2 _).set_ 3 _) Tryz.underlying62 rfl (by kernel_rfl)) rfl ?_
    rw [HM.out]
    refine ⟨(((B5.out.setCell (p := ⟨w.heap.size, 0, none⟩) (Nat.le_refl _) _).setCell (p := ⟨w.heap.size, 1, none⟩) (Nat.le_refl _) _).setCell (p := ⟨w.heap.size, 2, none⟩) (Nat.le_refl _) _).setCell (p := ⟨w.heap.size, 3, none⟩) (Nat.le_refl _) _, .inl ⟨by trivial, A5, c5, K5, k5, rfl, ?_⟩⟩
    exact chunk_back18 (w0 := w) HS5.out hz4 HB4.out
  | false =>
    go_wp2_with fail
    refine hR.mono ?_
    rintro e w4 ⟨rfl, b4⟩
    have B4 := B3.trans (b4.mono B3.size)
    have x4 := x3.below b4 x3.lt
    have y4 := y3.below b4 y3.lt
    have l4 := (l3.below b4).more b4.size
    have hA := HA.out w4 A2 c2 B4 l4 cp1 cp2
    clear hR b4 B3 x3 y3 l3 HA q0 q1 q2 q3
    obtain ⟨q0, q1, q2, q3⟩ := wh4 y4
    cases ab with
    | true =>
      obtain rfl : sb = true := by rw [HSB.out]; rfl
      go_wp2_with fail
      refine hA.mono ?_
      rintro e w6 ⟨rfl, b6⟩
      have B6 := B4.trans (b6.mono B4.size)
      have x6 := x4.below b6 x4.lt
      have y6 := y4.below b6 y4.lt
      have l6 := (l4.below b6).more b6.size
      have hL := HL.out w6 A2 c2 B6 l6 cp1 cp2
      have hz4 := x6.lt
      clear hA b6 B4 x4 y4 l4 HSB q0 q1 q2 q3 l6 HL
      obtain ⟨q0, q1, q2, q3⟩ := wh4 y6
      go_wp2_with fail
      refine hL.mono ?_
      rintro e w5 ⟨A5, c5, K5, k5, rfl, hS5, b5⟩
      have B5 := Lib.hid (B6.trans (b5.mono B6.size))
      have x5 := x6.below b5 x6.lt
      have HS5 := Lib.hid hS5
      have HB4 := Lib.hid B6.size
      clear hL q0 q1 q2 q3 x6 y6 B6 b5 hS5
      have f0 := x5.frozen 0
      have f1 := x5.frozen 1
      have f2 := x5.frozen 2
      have f3 := x5.frozen 3
      obtain ⟨u0, u1, u2, u3⟩ := wh4 x5
      go_wp2_with fail
      refine bodyPost_ret (results_row_tmp rfl _ _ w.heap.size 62 _ _ rfl ((((x5.set_ 0 _).set_ 1 _).set_ 2 _).set_ 3 _) Tryz.underlying62 rfl (by kernel_rfl)) rfl ?_
      rw [HM.out]
      refine ⟨(((B5.out.setCell (p := ⟨w.heap.size, 0, none⟩) (Nat.le_refl _) _).setCell (p := ⟨w.heap.size, 1, none⟩) (Nat.le_refl _) _).setCell (p := ⟨w.heap.size, 2, none⟩) (Nat.le_refl _) _).setCell (p := ⟨w.heap.size, 3, none⟩) (Nat.le_refl _) _, .inl ⟨by trivial, A5, c5, K5, k5, rfl, ?_⟩⟩
      exact chunk_back18 (w0 := w) HS5.out hz4 HB4.out
    | false =>
      obtain rfl : sb = false := by rw [HSB.out]; rfl
      go_wp2_with fail
      refine hA.mono ?_
      rintro e w6 ⟨rfl, b6⟩
      have B6 := B4.trans (b6.mono B4.size)
      have x6 := x4.below b6 x4.lt
      have y6 := y4.below b6 y4.lt
      have l6 := (l4.below b6).more b6.size
      clear hA b6 B4 x4 y4 l4 HSB q0 q1 q2 q3 l6 HL
      have HB4 := Lib.hid B6
      have f0 := x6.frozen 0
      have f1 := x6.frozen 1
      have f2 := x6.frozen 2
      have f3 := x6.frozen 3
      obtain ⟨u0, u1, u2, u3⟩ := wh4 x6
      clear y6 B6
      go_wp2_with fail
      refine bodyPost_ret (results_row_tmp rfl _ _ w.heap.size 62 _ _ rfl ((((x6.set_ 0 _).set_ 1 _).set_ 2 _).set_ 3 _) Tryz.underlying62 rfl (by kernel_rfl)) rfl ?_
      rw [HM.out]
      exact ⟨(((HB4.out.setCell (p := ⟨w.heap.size, 0, none⟩) (Nat.le_refl _) _).setCell (p := ⟨w.heap.size, 1, none⟩) (Nat.le_refl _) _).setCell (p := ⟨w.heap.size, 2, none⟩) (Nat.le_refl _) _).setCell (p := ⟨w.heap.size, 3, none⟩) (Nat.le_refl _) _, .inr ⟨by trivial, rfl⟩⟩
set_option maxRecDepth 100000 in
set_option maxHeartbeats 8000000 in
theorem answer18_any (s : UInt32) (ks : List Nd) (hF : CkFine ⟨128, 0, be 4 s, ks⟩) (K : Option Addr) (c : Nat) (w : World) (h : Nodes w w.heap.size K ks) (hc : ks.length ≤ c) (hm : c ≤ maxLen) (hh : Handle w) :
    Calls Tryz.prog 40 #[uv s, .slice K ks.length c] w (MkK ⟨128, 0, be 4 s, ks⟩ (serB ⟨128, 0, be 4 s, ks⟩) w) := by
  have b0 : Below w.heap.size w (w.alloc (.cells #[.int .u8 0, .int .u8 0, .slice none 0 0, .slice none 0 0] 62)) := (Below.refl _ w).alloc (Nat.le_refl _) _
  have x0 := Whole.new w 62 #[.int .u8 0, .int .u8 0, .slice none 0 0, .slice none 0 0]
  have hs0 : (w.alloc (.cells #[.int .u8 0, .int .u8 0, .slice none 0 0, .slice none 0 0] 62)).heap.size = w.heap.size + 1 := by simp
  have hW := with18_any 128 s ks hF K c _ (h.on b0) hc hm (hh.below b0 hh.lt)
  have HM : Hid (∀ ok V e w', MkK ⟨128, 0, be 4 s, ks⟩ ok V e w' = (Below V.heap.size V w' ∧
    ((ok = true ∧ ∃ A' c' K' k', e = .returned (.tuple #[.agg #[.int .u8 128, .int .u8 0, .slice A' 4 c', .slice K' ks.length k'], .bool true]) ∧ ChunkS w' (fun b => V.heap.size ≤ b ∧ b < w'.heap.size) A' c' K' k' ⟨128, 0, be 4 s, ks⟩) ∨ (ok = false ∧ e = .returned (.tuple #[.agg #[.int .u8 0, .int .u8 0, .slice none 0 0, .slice none 0 0], .bool false]))))) := Lib.hid fun _ _ _ _ => rfl
  clear h hc hm hF hh
  generalize serB ⟨128, 0, be 4 s, ks⟩ = sb at *
  generalize hnn : (⟨128, 0, be 4 s, ks⟩ : Ck) = nn at *
  clear hnn
  generalize ks.length = lk at *
  go_enter Tryz.func40, Tryz.ntmps40
  go_upto_region 1 with fail
  generalize w.alloc (.cells #[.int .u8 0, .int .u8 0, .slice none 0 0, .slice none 0 0] 62) = wa at *
  have HW := Lib.hid hW
  have HS := Lib.hid hs0
  clear hW hs0
  go_wp2_with fail
  refine HW.out.mono ?_
  intro e w2 hk
  rw [HM.out] at hk
  have HK := Lib.hid hk
  clear hk HW
  rcases HK.out with ⟨b2, ⟨rfl, A2, c2, K2, k2, rfl, hS2⟩ | ⟨rfl, rfl⟩⟩
  · have B2 := Lib.hid (b0.trans (b2.mono b0.size))
    have x2 := x0.below b2 x0.lt
    have HS2 := Lib.hid hS2
    clear x0 b0 b2 hS2 HK
    have f0 := x2.frozen 0
    have f1 := x2.frozen 1
    have f2 := x2.frozen 2
    have f3 := x2.frozen 3
    obtain ⟨u0, u1, u2, u3⟩ := wh4 x2
    go_wp2_with fail
    refine bodyPost_ret (results_row_tmp rfl _ _ w.heap.size 62 _ _ rfl ((((x2.set_ 0 _).set_ 1 _).set_ 2 _).set_ 3 _) Tryz.underlying62 rfl (by kernel_rfl)) rfl ?_
    rw [HM.out]
    refine ⟨(((B2.out.setCell (p := ⟨w.heap.size, 0, none⟩) (Nat.le_refl _) _).setCell (p := ⟨w.heap.size, 1, none⟩) (Nat.le_refl _) _).setCell (p := ⟨w.heap.size, 2, none⟩) (Nat.le_refl _) _).setCell (p := ⟨w.heap.size, 3, none⟩) (Nat.le_refl _) _, .inl ⟨by trivial, A2, c2, K2, k2, rfl, ?_⟩⟩
    exact chunk_back18 (w0 := w) (V := wa) HS2.out (by rw [HS.out]; exact Nat.lt_succ_self _) (by rw [HS.out]; exact Nat.le_succ _)
  · have B2 := Lib.hid (b0.trans (b2.mono b0.size))
    have x2 := x0.below b2 x0.lt
    clear x0 b0 b2 HK
    have f0 := x2.frozen 0
    have f1 := x2.frozen 1
    have f2 := x2.frozen 2
    have f3 := x2.frozen 3
    obtain ⟨u0, u1, u2, u3⟩ := wh4 x2
    go_wp2_with fail
    refine bodyPost_ret (results_row_tmp rfl _ _ w.heap.size 62 _ _ rfl ((((x2.set_ 0 _).set_ 1 _).set_ 2 _).set_ 3 _) Tryz.underlying62 rfl (by kernel_rfl)) rfl ?_
    rw [HM.out]
    exact ⟨(((B2.out.setCell (p := ⟨w.heap.size, 0, none⟩) (Nat.le_refl _) _).setCell (p := ⟨w.heap.size, 1, none⟩) (Nat.le_refl _) _).setCell (p := ⟨w.heap.size, 2, none⟩) (Nat.le_refl _) _).setCell (p := ⟨w.heap.size, 3, none⟩) (Nat.le_refl _) _, .inr ⟨by trivial, rfl⟩⟩
end Go.Proofs.YteknmgmdmjmnmaaGreatDoor


