/- CauseA + CauseB -/
import Derived.Test.YtdnilbebdgohnaaNodeF
import Derived.Test.YtdnilbebdgohnaaWireE
import Derived.Test.YtdnilbebdgohnaaWireH
import Derived.Test.YtdnilbebdgohnaaNodeI
import Derived.Test.YtdnilbebdgohnaaNodeRW
import Derived.Deep.RegionHeld3



namespace Go.Proofs.Ytdnilbebdgohnaa
open Go.RowKit

def zN : Nd := .mk 0 [] []
/-- a right cause with one of the types -/
def okC (L : List UInt16) (n : Nd) : Bool := decide (n.t ∈ L) && decide (chk 4 2 n = 0)
def rightO (L : List UInt16) (n : Nd) : Option Nd := if okC L n = true then some n else none
def numT : List UInt16 := [1, 3, 9]

theorem vlen_leaf (t : UInt16) (d : List UInt8) : (Nd.mk t d []).vlen = d.length := by simp [Nd.vlen, lens, sizes]
theorem chk_leaf (t : UInt16) (d : List UInt8) : chk 4 2 (.mk t d []) = 0 ↔ fitK 2 t d.length = true ∧ insB (formOf 2 t).ki [] = true ∧ cntB 2 t d = true ∧ d.length ≤ 65531 := by
  constructor
  · intro h
    obtain ⟨h1, h2, h3, _, h5⟩ := chk_zero (f := 3) h
    exact ⟨h1, h2, h3, by rw [vlen_leaf] at h5; exact h5⟩
  · rintro ⟨h1, h2, h3, h4⟩
    rw [chk_succ, vlen_leaf]
    have e1 : (Nd.mk t d []).t = t := rfl
    have e2 : (Nd.mk t d []).v = d := rfl
    have e3 : (Nd.mk t d []).ks = [] := rfl
    rw [e1, e2, e3, h1, h2, h3]
    have e4 : fst0 (List.map (chk 3 (ins (formOf 2 t).ki).1) []) = 0 := rfl
    rw [e4]
    simp
    omega
theorem fit_at {t : UInt16} {F : Form} (h : look (tab 2) t = some F) (m : Nat) : fitK 2 t m = fitsB F (m : Int) := by unfold fitK; rw [h]
theorem form_at {t : UInt16} {F : Form} (h : look (tab 2) t = some F) : formOf 2 t = F := by unfold formOf; rw [h]; rfl
theorem insB_zero (ks : List Nd) : insB 0 ks = decide (ks = []) := by
  unfold insB ins
  cases ks with
  | nil => simp
  | cons k ks => simp
theorem fitsB_one {F : Form} {a b : Nat} (h1 : F.lo = (a : Int)) (h2 : F.hi = (b : Int)) (h3 : F.un = 1) (m : Nat) : fitsB F (m : Int) = decide (a ≤ m ∧ m ≤ b) := by
  unfold fitsB
  rw [h1, h2, h3, Int.emod_one]
  simp only [beq_self_eq_true, Bool.and_true, ← Bool.decide_and]
  rw [decide_eq_decide]
  omega
theorem l1 : look (tab 2) 1 = some (cT[0]'(by decide)) := by kernel_rfl
theorem l2 : look (tab 2) 2 = some (cT[1]'(by decide)) := by kernel_rfl
theorem l3 : look (tab 2) 3 = some (cT[2]'(by decide)) := by kernel_rfl
theorem l6 : look (tab 2) 6 = some (cT[5]'(by decide)) := by kernel_rfl
theorem l9 : look (tab 2) 9 = some (cT[8]'(by decide)) := by kernel_rfl
theorem l12 : look (tab 2) 12 = some (cT[11]'(by decide)) := by kernel_rfl
theorem l13 : look (tab 2) 13 = some (cT[12]'(by decide)) := by kernel_rfl
/-- a type whose form has nothing inside, and a number of bytes within bounds -/
theorem chk_plain {t : UInt16} {F : Form} {a b : Nat} (h : look (tab 2) t = some F) (h1 : F.lo = (a : Int)) (h2 : F.hi = (b : Int)) (h3 : F.un = 1) (h4 : F.ki = 0) (ht : t ≠ 2) (hb : b ≤ 65531) (n : Nd) (hn : n.t = t) :
    chk 4 2 n = 0 ↔ (a ≤ n.v.length ∧ n.v.length ≤ b) ∧ n.ks = [] := by
  obtain ⟨t', v, ks⟩ := n
  have hn' : t' = t := hn
  subst hn'
  constructor
  · intro h5
    obtain ⟨g1, g2, _, _, _⟩ := chk_zero (f := 3) h5
    have g1' : fitK 2 t' v.length = true := g1
    have g2' : insB (formOf 2 t').ki ks = true := g2
    rw [fit_at h, fitsB_one h1 h2 h3] at g1'
    rw [form_at h, h4, insB_zero] at g2'
    exact ⟨of_decide_eq_true g1', of_decide_eq_true g2'⟩
  · rintro ⟨h5, h6⟩
    have h6' : ks = [] := h6
    subst h6'
    have h5' : a ≤ v.length ∧ v.length ≤ b := h5
    rw [chk_leaf, fit_at h, fitsB_one h1 h2 h3, form_at h, h4, insB_zero]
    refine ⟨decide_eq_true h5', rfl, ?_, by omega⟩
    unfold cntB
    simp [ht]
theorem chk_num (n : Nd) (h : n.t ∈ numT) : chk 4 2 n = 0 ↔ n.v.length = 4 ∧ n.ks = [] := by
  simp only [numT, List.mem_cons, List.not_mem_nil, or_false] at h
  have key : ∀ x : Nat, (4 ≤ x ∧ x ≤ 4) ↔ x = 4 := fun x => by omega
  rcases h with h | h | h
  · rw [chk_plain (a := 4) (b := 4) l1 rfl rfl rfl rfl (by decide) (by omega) n h, key]
  · rw [chk_plain (a := 4) (b := 4) l3 rfl rfl rfl rfl (by decide) (by omega) n h, key]
  · rw [chk_plain (a := 4) (b := 4) l9 rfl rfl rfl rfl (by decide) (by omega) n h, key]
theorem okC_num (n : Nd) : okC numT n = decide (n.t ∈ numT ∧ n.v.length = 4 ∧ n.ks = []) := by
  unfold okC
  by_cases h : n.t ∈ numT
  · rw [decide_eq_true h, Bool.true_and, decide_eq_decide, chk_num n h]
    simp [h]
  · rw [decide_eq_false h, Bool.false_and]
    simp [h]

/-! ### numbers -/
def numN (t : UInt16) (x : Nat) : Option Nd :=
  if t = 3 ∨ t = 9 then some (.mk t (be 4 (UInt32.ofNat x)) [])
  else if t = 1 ∧ x < 65536 then some (.mk 1 [UInt8.ofNat (x / 256), UInt8.ofNat x, 0, 0] []) else none
theorem be4 (x : UInt32) : be 4 x = [UInt8.ofNat (x.toNat / 16777216), UInt8.ofNat (x.toNat / 65536), UInt8.ofNat (x.toNat / 256), UInt8.ofNat x.toNat] := by
  have : List.range 4 = [0, 1, 2, 3] := rfl
  unfold be beByte
  rw [this]
  simp
theorem be2 (x : UInt32) : be 2 x = [UInt8.ofNat (x.toNat / 256), UInt8.ofNat x.toNat] := by
  have : List.range 2 = [0, 1] := rfl
  unfold be beByte
  rw [this]
  simp
theorem u8_mod (x : Nat) : UInt8.ofNat (x % 256) = UInt8.ofNat x := by
  apply UInt8.toNat_inj.1
  simp
theorem u8_zero {x : Nat} (h : x % 256 = 0) : UInt8.ofNat x = 0 := by
  rw [← u8_mod, h]
  rfl
theorem u32_nat {x : Nat} (h : x < 4294967296) : (UInt32.ofNat x).toNat = x := by
  rw [UInt32.toNat_ofNat']
  exact Nat.mod_eq_of_lt h
theorem be_shift {x : Nat} (h : x < 65536) : be 4 (UInt32.ofNat (x * 65536)) = [UInt8.ofNat (x / 256), UInt8.ofNat x, 0, 0] := by
  rw [be4, u32_nat (by omega)]
  rw [show x * 65536 / 16777216 = x / 256 by omega, show x * 65536 / 65536 = x by omega, u8_zero (show x * 65536 / 256 % 256 = 0 by omega), u8_zero (show x * 65536 % 256 = 0 by omega)]
/-- what Number hands to the check -/
theorem num_of_right (t : UInt16) (x : Nat) (h : t ≠ 1) : rightO numT (.mk t (be 4 (UInt32.ofNat x)) []) = numN t x := by
  unfold rightO numN
  rw [okC_num]
  have e1 : (Nd.mk t (be 4 (UInt32.ofNat x)) []).t = t := rfl
  have e2 : (Nd.mk t (be 4 (UInt32.ofNat x)) []).v.length = 4 := be_len 4 _
  have e3 : (Nd.mk t (be 4 (UInt32.ofNat x)) []).ks = [] := rfl
  rw [e1, e2, e3]
  by_cases h3 : t = 3 ∨ t = 9
  · have : t ∈ numT := by rcases h3 with rfl | rfl <;> decide
    simp [this, h3]
  · have : t ∉ numT := by
      simp only [numT, List.mem_cons, List.not_mem_nil, or_false]
      rintro (h1 | h1 | h1)
      · exact h h1
      · exact h3 (.inl h1)
      · exact h3 (.inr h1)
    simp [this, h3, h]
theorem num_of_right1 (x : Nat) (h : x < 65536) : rightO numT (.mk 1 (be 4 (UInt32.ofNat (x * 65536))) []) = numN 1 x := by
  unfold rightO numN
  rw [okC_num, be_shift h]
  simp [numT, Nd.t, Nd.v, Nd.ks, h]
/-- the number of a cause of a number -/
def valO (n : Nd) : Option Nat :=
  if okC numT n = true then (if n.t = 1 then (if numOf n.v % 65536 = 0 then some (numOf n.v / 65536) else none) else some (numOf n.v)) else none
theorem num4 {l : List UInt8} (h : l.length = 4) : ∃ a b c d, l = [a, b, c, d] := by
  match l, h with
  | [a, b, c, d], _ => exact ⟨a, b, c, d, rfl⟩
theorem val_num (t : UInt16) (x : Nat) (hx : x < 4294967296) : valO ((numN t x).getD zN) = if (numN t x).isSome = true then some x else none := by
  unfold numN
  by_cases h3 : t = 3 ∨ t = 9
  · rw [if_pos h3]
    simp only [Option.getD_some, Option.isSome_some, if_true]
    unfold valO
    rw [okC_num]
    have e2 : (be 4 (UInt32.ofNat x)).length = 4 := be_len 4 _
    have hm : t ∈ numT := by rcases h3 with rfl | rfl <;> decide
    have h1 : t ≠ 1 := by rcases h3 with rfl | rfl <;> decide
    simp only [Nd.t, Nd.v, Nd.ks, e2, hm, h1, and_self, decide_true, if_true, if_false, numOf_be (k := 4) (by omega), u32_nat hx]
    rw [Nat.mod_eq_of_lt (by omega)]
  · rw [if_neg h3]
    by_cases h1 : t = 1 ∧ x < 65536
    · rw [if_pos h1]
      simp only [Option.getD_some, Option.isSome_some, if_true]
      unfold valO
      rw [okC_num]
      have hn : numOf [UInt8.ofNat (x / 256), UInt8.ofNat x, 0, 0] = x * 65536 := by
        rw [← be_shift h1.2, numOf_be (k := 4) (by omega), u32_nat (by omega)]
        exact Nat.mod_eq_of_lt (by omega)
      simp [Nd.t, Nd.v, Nd.ks, numT, hn]
    · rw [if_neg h1]
      rfl

/-! ### missing types -/
def wideT (t : UInt16) : UInt32 := UInt32.ofNat t.toNat
def dM (l : List UInt16) : List UInt8 := be 4 (UInt32.ofNat l.length) ++ puts 2 (l.map wideT)
theorem dM_len (l : List UInt16) : (dM l).length = 4 + 2 * l.length := by
  unfold dM
  rw [List.length_append, be_len, puts_len, List.length_map]
  omega
def missN (l : List UInt16) : Option Nd := if l.length = 0 ∨ 32763 < l.length then none else some (.mk 2 (dM l) [])
theorem fit2 (m : Nat) : fitK 2 2 m = decide (6 ≤ m ∧ m ≤ 65531 ∧ m % 2 = 0) := by
  rw [fit_at l2]
  show (decide ((6 : Int) ≤ (m : Int)) && decide ((m : Int) ≤ 65531) && (((m : Int) - 6) % 2 == 0)) = _
  have e : ((((m : Int) - 6) % 2 == 0)) = decide (m % 2 = 0) := by
    by_cases h : m % 2 = 0
    · rw [decide_eq_true h]
      have : ((m : Int) - 6) % 2 = 0 := by omega
      simp [this]
    · rw [decide_eq_false h]
      have : ¬ ((m : Int) - 6) % 2 = 0 := by omega
      simpa using this
  rw [e, ← Bool.decide_and, ← Bool.decide_and, decide_eq_decide]
  omega
theorem cnt_dM (l : List UInt16) (h : l.length < 4294967296) : cntB 2 2 (dM l) = true := by
  unfold cntB
  have e1 : (dM l).take 4 = be 4 (UInt32.ofNat l.length) := by
    unfold dM
    rw [List.take_append_of_le_length (by rw [be_len]; exact Nat.le_refl _), List.take_of_length_le (by rw [be_len]; exact Nat.le_refl _)]
  rw [e1, numOf_be (k := 4) (by omega), u32_nat h, Nat.mod_eq_of_lt (by omega), dM_len]
  simp
theorem miss_right (l : List UInt16) (h : l.length < 4294967296) : rightO [2] (.mk 2 (dM l) []) = missN l := by
  unfold rightO missN okC
  have e : chk 4 2 (.mk 2 (dM l) []) = 0 ↔ ¬ (l.length = 0 ∨ 32763 < l.length) := by
    rw [chk_leaf, fit2, form_at l2, cnt_dM l h, dM_len]
    have e2 : insB (cT[1]'(by decide)).ki [] = true := by kernel_rfl
    rw [e2, decide_eq_true_eq]
    constructor
    · rintro ⟨h1, _, _, h4⟩; omega
    · intro h1; exact ⟨by omega, rfl, rfl, by omega⟩
  have e3 : (Nd.mk 2 (dM l) []).t ∈ ([2] : List UInt16) := List.mem_singleton.2 rfl
  rw [decide_eq_true e3, Bool.true_and]
  by_cases h1 : l.length = 0 ∨ 32763 < l.length
  · rw [if_pos h1, if_neg]
    rw [decide_eq_true_eq, e]
    exact fun h2 => h2 h1
  · rw [if_neg h1, if_pos]
    rw [decide_eq_true_eq, e]
    exact h1
/-- the types that pairs of bytes are -/
def prs (b : List UInt8) : List UInt16 := (nums 2 b).map fun x => UInt16.ofNat x.toNat
theorem prs_len (b : List UInt8) : (prs b).length = b.length / 2 := by unfold prs; rw [List.length_map, nums_len]
theorem prs_at (b : List UInt8) {k : Nat} {x y : UInt8} (hx : b[2 * k]? = some x) (hy : b[2 * k + 1]? = some y) : (prs b)[k]? = some (UInt16.ofNat (x.toNat * 256 + y.toNat)) := by
  have h1 := (List.getElem?_eq_some_iff.1 hy).1
  have hk : k < b.length / 2 := by omega
  unfold prs nums
  rw [List.getElem?_map, List.getElem?_map, List.getElem?_range hk]
  simp only [Option.map_some, numAt_toNat]
  have h2 : (b.drop (k * 2)).take 2 = [x, y] := by
    have hx' := (List.getElem?_eq_some_iff.1 hx)
    have hy' := (List.getElem?_eq_some_iff.1 hy)
    apply List.ext_getElem?
    intro i
    rw [List.getElem?_take, List.getElem?_drop]
    match i with
    | 0 => rw [if_pos (by omega), show k * 2 + 0 = 2 * k by omega, hx]; rfl
    | 1 => rw [if_pos (by omega), show k * 2 + 1 = 2 * k + 1 by omega, hy]; rfl
    | i + 2 => rw [if_neg (by omega)]; simp
  rw [h2, numOf_pair]
theorem prs_dM (l : List UInt16) : prs ((dM l).drop 4) = l := by
  have e1 : (dM l).drop 4 = puts 2 (l.map wideT) := by
    unfold dM
    rw [List.drop_append_of_le_length (by rw [be_len]; exact Nat.le_refl _), List.drop_of_length_le (by rw [be_len]; exact Nat.le_refl _), List.nil_append]
  rw [e1]
  apply List.ext_getElem?
  intro i
  rcases Nat.lt_or_ge i l.length with h | h
  · have h1 : (l.map wideT)[i]? = some (wideT l[i]) := by rw [List.getElem?_map, List.getElem?_eq_getElem h]; rfl
    have h2 := nums_puts_at (k := 2) _ i _ h1
    unfold prs nums
    rw [List.getElem?_map, List.getElem?_map, List.getElem?_range (by rw [puts_len, List.length_map]; omega), List.getElem?_eq_getElem h]
    simp only [Option.map_some, numAt_toNat, h2, numOf_be (k := 2) (by omega)]
    have h3 : (wideT l[i]).toNat = l[i].toNat := u32_nat (by have := l[i].toNat_lt; omega)
    rw [h3, Nat.mod_eq_of_lt (by have := l[i].toNat_lt; omega)]
    simp
  · rw [List.getElem?_eq_none h, List.getElem?_eq_none (by rw [prs_len, puts_len, List.length_map]; omega)]
def typO (n : Nd) : Option (List UInt16) := if okC [2] n = true then some (prs (n.v.drop 4)) else none
theorem typ_miss (l : List UInt16) (h : l.length < 4294967296) : typO ((missN l).getD zN) = if (missN l).isSome = true then some l else none := by
  have h1 := miss_right l h
  have hz : okC [2] zN = false := by decide +kernel
  unfold rightO at h1
  by_cases h2 : okC [2] (.mk 2 (dM l) []) = true
  · rw [if_pos h2] at h1
    rw [← h1]
    simp only [Option.getD_some, Option.isSome_some, if_true]
    unfold typO
    rw [if_pos h2]
    show some (prs ((dM l).drop 4)) = some l
    rw [prs_dM]
  · rw [if_neg h2] at h1
    rw [← h1]
    simp only [Option.getD_none, Option.isSome_none]
    unfold typO
    rw [hz]
    rfl
theorem typ_even {n : Nd} (h : okC [2] n = true) : n.t = 2 ∧ 6 ≤ n.v.length ∧ n.v.length % 2 = 0 ∧ n.v.length ≤ 65531 := by
  unfold okC at h
  simp only [Bool.and_eq_true, decide_eq_true_eq, List.mem_singleton] at h
  obtain ⟨g1, _⟩ := chk_zero (f := 3) h.2
  rw [h.1, fit2] at g1
  have := of_decide_eq_true g1
  exact ⟨h.1, this.1, this.2.2, this.2.1⟩

/-! ### bytes -/
def chunkO (b : List UInt8) : Option Nd := if 4 ≤ b.length ∧ b.length ≤ 65531 then some (.mk 6 b []) else none
theorem chunk_right (b : List UInt8) : rightO [6] (.mk 6 b []) = chunkO b := by
  unfold rightO chunkO okC
  have e3 : (Nd.mk 6 b []).t ∈ ([6] : List UInt16) := List.mem_singleton.2 rfl
  have e5 : chk 4 2 (.mk 6 b []) = 0 ↔ (4 ≤ b.length ∧ b.length ≤ 65531) := by
    rw [chk_plain (a := 4) (b := 65531) l6 rfl rfl rfl rfl (by decide) (by omega) _ rfl]
    simp [Nd.v, Nd.ks]
  rw [decide_eq_true e3, Bool.true_and, show decide (chk 4 2 (.mk 6 b []) = 0) = decide (4 ≤ b.length ∧ b.length ≤ 65531) from decide_eq_decide.2 e5]
  simp
def msgO (t : UInt16) (b : List UInt8) : Option Nd := if (t = 12 ∨ t = 13) ∧ b.length ≤ 65531 then some (.mk t b []) else none
theorem msg_right (t : UInt16) (b : List UInt8) : rightO [12, 13] (.mk t b []) = msgO t b := by
  unfold rightO msgO okC
  have e4 : (Nd.mk t b []).t = t := rfl
  rw [e4]
  by_cases ht : t = 12 ∨ t = 13
  · have e3 : t ∈ ([12, 13] : List UInt16) := by simpa using ht
    rw [decide_eq_true e3, Bool.true_and]
    have e5 : chk 4 2 (.mk t b []) = 0 ↔ b.length ≤ 65531 := by
      rcases ht with rfl | rfl
      · rw [chk_plain (a := 0) (b := 65531) l12 rfl rfl rfl rfl (by decide) (by omega) _ rfl]
        simp [Nd.v, Nd.ks]
      · rw [chk_plain (a := 0) (b := 65531) l13 rfl rfl rfl rfl (by decide) (by omega) _ rfl]
        simp [Nd.v, Nd.ks]
    rw [show decide (chk 4 2 (.mk t b []) = 0) = decide (b.length ≤ 65531) from decide_eq_decide.2 e5]
    simp [ht]
  · have e3 : t ∉ ([12, 13] : List UInt16) := by simpa using ht
    rw [decide_eq_false e3, Bool.false_and]
    simp [ht]
end Go.Proofs.Ytdnilbebdgohnaa





namespace Go.Proofs.Ytdnilbebdgohnaa
open Go.RowKit

theorem Lies.half {w : World} {B : Nat} {A : Option Addr} {l : List UInt16} (h : Lies w B A (l.map hv)) {k : Nat} (hk : k < l.length) :
    ∃ ad x, A = some ad ∧ ad.block < B ∧ Hid (l[k]? = some x) ∧ w.cell? (ad.add k) = some (.int .u16 (x.toNat : Int)) := h.of_map hk
theorem hv_ne {a b : UInt16} (h : ¬ a = b) : ¬ (a.toNat : Int) = (b.toNat : Int) := fun e => h (UInt16.toNat_inj.1 (by omega))
def NotIn (l : List UInt16) (k : Nat) (t : UInt16) : Prop := ∀ (j : Nat) (x : UInt16), j < k → l[j]? = some x → ¬ t = x

/-- what Index says -/
def IxV (l : List UInt16) (t : UInt16) (i : Int) : Prop := (0 ≤ i ∧ t ∈ l) ∨ (i = -1 ∧ t ∉ l)
theorem index_any (A : Option Addr) (c B : Nat) (l : List UInt16) (t : UInt16) (w : World) (h : Lies w B A (l.map hv)) (hn : l.length ≤ 1000000) :
    Calls Try.prog 53 #[.slice A l.length c, hv t] w fun e w' => (∃ i, e = .returned (.int .i64 i) ∧ IxV l t i) ∧ w = w' := by
  go_enter Try.func53, Try.ntmps53
  go_wp2_with fail
  go_loopw [8] (fun i wr => ∃ k : Nat, k ≤ l.length ∧ i = .int .i64 k ∧ Hid (NotIn l k t) ∧ w = wr) (fun i _ => l.length - (intOf i).toNat)
  case atStart => exact ⟨0, Nat.zero_le _, rfl, fun j x hj _ => absurd hj (by omega), rfl⟩
  case round =>
    obtain ⟨k, hk, rfl, hno, rfl⟩ := hrel
    by_cases hlt : k < l.length
    · obtain ⟨ad, x, rfl, hb, hx, hc0⟩ := h.half hlt
      by_cases hft : t = x
      · have HM : Hid (t ∈ l) := by rw [hft]; exact List.mem_of_getElem? hx.out
        have hd : (t.toNat : Int) = (x.toNat : Int) := by rw [hft]
        clear hft
        go_wp2_with fail
        go_ret
        exact ⟨⟨_, rfl, .inl ⟨by omega, HM.out⟩⟩, rfl⟩
      · have HN : Hid (NotIn l (k + 1) t) := fun j y hj hy => by
          by_cases hjk : j = k
          · subst hjk; rw [hx.out] at hy; cases hy; exact hft
          · exact hno.out j y (by omega) hy
        have hd := hv_ne hft
        clear hft
        go_wp2_with fail
        go_roundw
        case rel => exact ⟨k + 1, by omega, by go_num, HN, trivial⟩
        case measure => simp [intOf]; omega
    · obtain rfl : k = l.length := by omega
      have HL : Hid (t ∉ l) := fun hm => by
        obtain ⟨j, hj, he⟩ := List.getElem_of_mem hm
        exact hno.out j _ hj (List.getElem?_eq_getElem hj) he.symm
      go_wp2_with fail
      go_ret
      exact ⟨⟨_, rfl, .inr ⟨rfl, HL.out⟩⟩, rfl⟩
theorem contains_any (A : Option Addr) (c B : Nat) (l : List UInt16) (t : UInt16) (w : World) (h : Lies w B A (l.map hv)) (hn : l.length ≤ 1000000) :
    Calls Try.prog 44 #[.slice A l.length c, hv t] w fun e w' => e = .returned (.bool (decide (t ∈ l))) ∧ w = w' := by
  have hI := index_any A c B l t w h hn
  go_enter Try.func44, Try.ntmps44
  go_wp2_with fail
  refine hI.mono ?_
  rintro e w1 ⟨⟨i, rfl, ⟨hi, hm⟩ | ⟨rfl, hm⟩⟩, rfl⟩
  · have HM := Lib.hid (decide_eq_true hm)
    clear hm
    go_wp2_with fail
    go_ret
    exact ⟨ret_bool HM.out.symm, rfl⟩
  · have HM := Lib.hid (decide_eq_false hm)
    clear hm
    go_wp2_with fail
    go_ret
    exact ⟨ret_bool HM.out.symm, rfl⟩

/-- what a function of the package returns: a node of its own, or none -/
def RetN (w : World) (o : Option Nd) (e : Ending) (w' : World) : Prop := Below w.heap.size w w' ∧ ∃ A c K k, e = .returned (.tuple #[ndV (o.getD zN) A c K k, .bool o.isSome]) ∧ NodeS w' (NewS w w') A c K k (o.getD zN)
theorem zN_node (w : World) (S : Nat → Prop) : NodeS w S none 0 none 0 zN :=
  ⟨fun h => absurd rfl h, Nat.le_refl _, Nat.zero_le _, .mk [] (fun _ => none) (fun _ => 0) (fun h => absurd rfl h) rfl (fun i n h => by simp [zN, Nd.ks] at h) (fun i n h => by simp [zN, Nd.ks] at h), Nat.le_refl _, Nat.zero_le _⟩
theorem RetN.on {w w0 : World} {o : Option Nd} {e : Ending} {w' : World} (h : RetN w0 o e w') (hb : Below w.heap.size w w0) : RetN w o e w' := by
  obtain ⟨b, A, c, K, k, he, hN⟩ := h
  exact ⟨hb.trans (b.mono hb.size), A, c, K, k, he, hN.turn (fun _ _ => rfl) fun x hx => ⟨Nat.le_trans hb.size hx.1, hx.2⟩⟩
theorem RetN.zero {w w' : World} (hb : Below w.heap.size w w') : RetN w none (.returned (.tuple #[.agg #[.int .u16 0, .slice none 0 0, .slice none 0 0], .bool false])) w' :=
  ⟨hb, none, 0, none, 0, rfl, zN_node _ _⟩
theorem Whole.three {w : World} {g : Nat} {t : TypeId} {a b c : Value} (h : Whole w g t #[a, b, c]) : w.cell? ⟨g, 0, none⟩ = some a ∧ w.cell? ⟨g, 1, none⟩ = some b ∧ w.cell? ⟨g, 2, none⟩ = some c ∧
    w.frozen? ⟨g, 0, none⟩ = false ∧ w.frozen? ⟨g, 1, none⟩ = false ∧ w.frozen? ⟨g, 2, none⟩ = false :=
  ⟨by rw [h.cell]; rfl, by rw [h.cell]; rfl, by rw [h.cell]; rfl, h.frozen 0, h.frozen 1, h.frozen 2⟩
set_option maxRecDepth 100000 in
set_option maxHeartbeats 1000000 in
theorem right1_any (L : List UInt16) (AL : Option Addr) (cL g : Nat) (n : Nd) (A : Option Addr) (c : Nat) (K : Option Addr) (k : Nat) (w : World) (hg : Whole w g 37 #[.slice AL L.length cL]) (hL : Lies w w.heap.size AL (L.map hv)) (hLn : L.length ≤ 1000)
    (hN : Node w w.heap.size A c K k n) (hf : Fine n) : Calls Try.prog 43 #[ndV n A c K k, .pointer (some ⟨g, 0, none⟩)] w (RetN w (rightO L n)) := by
  unfold ndV
  have b0 : Below w.heap.size w ((w.alloc (.cells #[hv n.t, .slice A n.v.length c, .slice K n.ks.length k] 28)).alloc (.cells #[.int .u16 0, .slice none 0 0, .slice none 0 0] 28)) := ((Below.refl _ _).alloc (Nat.le_refl _) _).alloc (by simp) _
  have hb0 := hg.below b0 hg.lt
  have hc0 := hb0.cell 0
  simp only [List.getElem?_toArray, List.getElem?_cons_zero] at hc0
  have x0 : NdBox _ w.heap.size n A c K k := (Whole.new w 28 #[hv n.t, .slice A n.v.length c, .slice K n.ks.length k]).alloc (.cells #[.int .u16 0, .slice none 0 0, .slice none 0 0] 28)
  have x1 := wnew1 w (.cells #[hv n.t, .slice A n.v.length c, .slice K n.ks.length k] 28) 28 #[.int .u16 0, .slice none 0 0, .slice none 0 0]
  have hL0 := (hL.below b0).more b0.size
  have hN0 := hN.on b0
  have HF := Lib.hid hf
  have hT := contains_any AL cL _ L n.t _ hL0 (by omega)
  have HO : Hid (rightO L n = if decide (n.t ∈ L) = true then (if chk 4 2 n = 0 then some n else none) else none) := by
    unfold Hid rightO okC
    by_cases h1 : n.t ∈ L <;> by_cases h2 : chk 4 2 n = 0 <;> simp [h1, h2]
  clear hf hN hL hg hL0
  generalize rightO L n = o at *
  cases hd : decide (n.t ∈ L) with
  | false =>
    rw [hd] at hT
    have HO' := HO.out
    rw [hd, if_neg (by simp)] at HO'
    clear hd HO
    go_enter Try.func43, Try.ntmps43
    go_wp2_with fail
    refine hT.mono ?_
    rintro e w1 ⟨rfl, rfl⟩
    go_wp2_with fail
    (try simp only [Exit.then])
    refine bodyPost_ret (results_row_tmp rfl _ _ (w.heap.size + 1) 28 _ _ rfl x1 Try.underlying28 rfl (by kernel_rfl)) rfl ?_
    rw [HO']
    exact RetN.zero b0
  | true =>
    rw [hd] at hT
    have HO' := HO.out
    rw [hd, if_pos rfl] at HO'
    clear hd HO
    have hC := ncheck_any 2 n A c K k _ hN0 HF.out
    have x00 := x0.c0
    have x01 := x0.c1
    have x02 := x0.c2
    unfold ndV at hC
    have h2 := nclone_any n (Fine.few2 _ HF.out) A c K k
    unfold ndV at h2
    by_cases hz : chk 4 2 n = 0
    · rw [if_pos hz] at HO'
      have HO2 := Lib.hid HO'
      rw [hz] at hC
      have hC' := hC.mono (R' := fun e w' => e = .returned .nilIface ∧ Below _ _ w') (fun e w' h => h)
      clear hz HO' hC
      go_enter Try.func43, Try.ntmps43
      go_wp2_with fail
      refine hT.mono ?_
      rintro e w1 ⟨rfl, rfl⟩
      go_wp2_with fail
      refine hC'.mono ?_
      rintro e w2 ⟨rfl, b2⟩
      have B2 := b0.trans (b2.mono b0.size)
      have y0 := x0.below b2
      have y00 := y0.c0
      have y01 := y0.c1
      have y02 := y0.c2
      have y1 := x1.below b2 x1.lt
      have hK := h2 w2 (hN0.on b2)
      clear hT hC' x00 x01 x02
      go_wp2_with fail
      refine hK.mono ?_
      rintro e w3 ⟨A3, c3, K3, k3, rfl, hN3, b3⟩
      have z1 := y1.below b3 y1.lt
      have B3 := B2.trans (b3.mono B2.size)
      have hlt := y1.lt
      have hF := ((z1.set_ 0 (hv n.t)).set_ 1 (.slice A3 n.v.length c3)).set_ 2 (.slice K3 n.ks.length k3)
      have hB := ((B3.setCell (p := ⟨w.heap.size + 1, 0, none⟩) (Nat.le_add_right _ _) (hv n.t)).setCell (p := ⟨w.heap.size + 1, 1, none⟩) (Nat.le_add_right _ _) (.slice A3 n.v.length c3)).setCell (p := ⟨w.heap.size + 1, 2, none⟩) (Nat.le_add_right _ _) (.slice K3 n.ks.length k3)
      have hNS : NodeS (((w3.setCell ⟨w.heap.size + 1, 0, none⟩ (hv n.t)).setCell ⟨w.heap.size + 1, 1, none⟩ (.slice A3 n.v.length c3)).setCell ⟨w.heap.size + 1, 2, none⟩ (.slice K3 n.ks.length k3)) (NewS w w3) A3 c3 K3 k3 n :=
        hN3.turn (fun p hp => by
          have h1 : p.block ≠ w.heap.size + 1 := fun e => by have := hp.1; omega
          rw [World.cell?_setCell_other _ _ _ _ (fun e => h1 (by rw [← e])), World.cell?_setCell_other _ _ _ _ (fun e => h1 (by rw [← e])), World.cell?_setCell_other _ _ _ _ (fun e => h1 (by rw [← e]))])
          (fun b hb => ⟨Nat.le_trans B2.size hb.1, hb.2⟩)
      obtain ⟨z10, z11, z12, z13, z14, z15⟩ := z1.three
      clear hK y0 y00 y01 y02 y1 z1
      go_wp2_with fail
      (try simp only [Exit.then])
      refine bodyPost_ret (results_row_tmp rfl _ _ (w.heap.size + 1) 28 _ _ rfl hF Try.underlying28 rfl (by kernel_rfl)) rfl ?_
      rw [HO2.out]
      exact ⟨hB, A3, c3, K3, k3, rfl, hNS.turn (fun _ _ => rfl) fun b hb => ⟨hb.1, by have := hb.2; simpa [World.setCell] using this⟩⟩
    · rw [if_neg hz] at HO'
      have HO2 := Lib.hid HO'
      have hC' := hC.mono (R' := fun e w' => e = .returned (codeV (chk 4 2 n : Nat)) ∧ Below _ _ w') (fun e w' h => ⟨by have := h.1; unfold codeE at this; rwa [if_neg hz] at this, h.2⟩)
      generalize ((chk 4 2 n : Nat) : Int) = code at hC'
      unfold codeV at hC'
      clear hz HO' hC
      go_enter Try.func43, Try.ntmps43
      go_wp2_with fail
      refine hT.mono ?_
      rintro e w1 ⟨rfl, rfl⟩
      go_wp2_with fail
      refine hC'.mono ?_
      rintro e w2 ⟨rfl, b2⟩
      have B2 := b0.trans (b2.mono b0.size)
      have y1 := x1.below b2 x1.lt
      have hF := ((y1.set_ 0 (.int .u16 0)).set_ 1 (.slice none 0 0)).set_ 2 (.slice none 0 0)
      have hB := ((B2.setCell (p := ⟨w.heap.size + 1, 0, none⟩) (Nat.le_add_right _ _) (.int .u16 0)).setCell (p := ⟨w.heap.size + 1, 1, none⟩) (Nat.le_add_right _ _) (.slice none 0 0)).setCell (p := ⟨w.heap.size + 1, 2, none⟩) (Nat.le_add_right _ _) (.slice none 0 0)
      obtain ⟨z10, z11, z12, z13, z14, z15⟩ := y1.three
      clear hT hC' x00 x01 x02
      go_wp2_with fail
      (try simp only [Exit.then])
      refine bodyPost_ret (results_row_tmp rfl _ _ (w.heap.size + 1) 28 _ _ rfl hF Try.underlying28 rfl (by kernel_rfl)) rfl ?_
      rw [HO2.out]
      exact RetN.zero hB

/-- right: the closure over the types -/
theorem cright_any (L : List UInt16) (AL : Option Addr) (cL : Nat) (w : World) :
    Calls Try.prog 32 #[.slice AL L.length cL] w fun e w' => e = .returned (.func (.func 43) #[] #[.pointer (some ⟨w.heap.size, 0, none⟩)]) ∧ w' = w.alloc (.cells #[.slice AL L.length cL] 37) := by
  go_enter Try.func32, Try.ntmps32
  go_wp2_with fail
  go_ret
  exact ⟨rfl, rfl⟩
theorem ofNumber_any (w : World) :
    Calls Try.prog 26 #[] w fun e w' => e = .returned (.func (.func 43) #[] #[.pointer (some ⟨w.heap.size + 1, 0, none⟩)]) ∧
      w' = (w.alloc (.cells #[.int .u16 1, .int .u16 3, .int .u16 9] 22)).alloc (.cells #[.slice (some ⟨w.heap.size, 0, none⟩) 3 3] 37) := by
  have hR := cright_any numT (some ⟨w.heap.size, 0, none⟩) 3 (w.alloc (.cells #[.int .u16 1, .int .u16 3, .int .u16 9] 22))
  simp only [numT, List.length_cons, List.length_nil, Nat.zero_add, Nat.reduceAdd, World.size_alloc] at hR
  go_enter Try.func26, Try.ntmps26
  go_wp2_with fail
  refine hR.mono ?_
  rintro e w1 ⟨rfl, rfl⟩
  go_wp2_with fail
  go_ret
  exact ⟨rfl, rfl⟩
end Go.Proofs.Ytdnilbebdgohnaa

