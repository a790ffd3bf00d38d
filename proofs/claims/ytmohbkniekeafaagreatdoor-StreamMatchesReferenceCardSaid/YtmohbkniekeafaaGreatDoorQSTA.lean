/- Layer 17: right parameters of re-config chunks, their numbers and streams: mathematics alone. No condition of its own. -/
/- Layer 17: isType, numbersOf, streamsOf, right, collecting and what it gives. They write nothing that was there (the closure its own box alone). -/
/- Layer 17: collecting and what it gives (a closure that writes its own box alone), right. -/
import Derived.Test.YtmohbkniekeafaaGreatDoorQNF
import Derived.Test.YtmohbkniekeafaaGreatDoorQW
import Derived.Test.YtmohbkniekeafaaGreatDoorQDJ
import Derived.Test.YtmohbkniekeafaaGreatDoorQP
import Derived.Test.YtmohbkniekeafaaGreatDoorQS
import Derived.Test.YtmohbkniekeafaaGreatDoorQDA
import Derived.Deep.RegionHeld3
import Derived.Deep.Cut
import Derived.Laws.StructEq
import Derived.Test.YtmohbkniekeafaaGreatDoorQA
import Derived.Laws.BytesArg
import Derived.Test.YtmohbkniekeafaaGreatDoorQTA
import Derived.Test.YtmohbkniekeafaaGreatDoorQDataV
import Derived.BigGuard
import Derived.Deep.RegionWith




namespace Go.Proofs.YtmohbkniekeafaaGreatDoor
open Go.RowKit

/-- a type of this layer -/
def isT (t : UInt16) : Bool := decide (13 ≤ t.toNat) && decide (t.toNat ≤ 18)
/-- a right parameter of this layer -/
def seqB (n : Nd) : Bool := isT n.t && decide (chk 4 1 n = 0)
def seqN (n : Nd) : UInt32 := nrd n.v 0 4
/-- bytes as streams -/
def strs (d : List UInt8) : List UInt16 := (nums 2 d).map fun x => UInt16.ofNat x.toNat
/-- streams as numbers -/
def wid (l : List UInt16) : List UInt32 := l.map fun x => u32of x.toNat
def strOf (n : Nd) : List UInt16 := if seqB n = true then (if n.t = 13 then strs (n.v.drop 12) else if n.t = 14 then strs (n.v.drop 4) else []) else []
theorem wid_len (l : List UInt16) : (wid l).length = l.length := by simp [wid]
theorem strs_len (d : List UInt8) : (strs d).length = d.length / 2 := by simp [strs, nums_len]

theorem vlen17 (t : UInt16) (d : List UInt8) : (Nd.mk t d []).vlen = d.length := by simp [Nd.vlen, lens, sizes]
theorem chk17 (t : UInt16) (d : List UInt8) : chk 4 1 (.mk t d []) = 0 ↔ fitK 1 t d.length = true ∧ insB (formOf 1 t).ki [] = true ∧ d.length ≤ 65531 := by
  constructor
  · intro h
    obtain ⟨h1, h2, _, _, h5⟩ := chk_zero (f := 3) h
    exact ⟨h1, h2, by rw [vlen17] at h5; exact h5⟩
  · rintro ⟨h1, h2, h4⟩
    rw [chk_succ, vlen17]
    have e1 : (Nd.mk t d []).t = t := rfl
    have e2 : (Nd.mk t d []).v = d := rfl
    have e3 : (Nd.mk t d []).ks = [] := rfl
    have e5 : cntB 1 t d = true := by unfold cntB; simp
    rw [e1, e2, e3, h1, h2, e5]
    have e4 : fst0 (List.map (chk 3 (ins (formOf 1 t).ki).1) []) = 0 := rfl
    rw [e4]
    simp
    omega
theorem fit17 {t : UInt16} {F : Form} (h : look (tab 1) t = some F) (m : Nat) : fitK 1 t m = fitsB F (m : Int) := by unfold fitK; rw [h]
theorem form17 {t : UInt16} {F : Form} (h : look (tab 1) t = some F) : formOf 1 t = F := by unfold formOf; rw [h]; rfl
theorem ins17 (ks : List Nd) : insB 0 ks = decide (ks = []) := by
  unfold insB ins
  cases ks with
  | nil => simp
  | cons k ks => simp
theorem fits17 {F : Form} {a b u : Nat} (h1 : F.lo = (a : Int)) (h2 : F.hi = (b : Int)) (h3 : F.un = (u : Int)) (_hu : 1 ≤ u) (m : Nat) : fitsB F (m : Int) = decide (a ≤ m ∧ m ≤ b ∧ (m - a) % u = 0) := by
  unfold fitsB
  rw [h1, h2, h3]
  by_cases ha : a ≤ m
  · have e : ((m : Int) - (a : Int)) % (u : Int) = (((m - a) % u : Nat) : Int) := by
      rw [show ((m : Int) - (a : Int)) = ((m - a : Nat) : Int) by omega]
      exact (Int.natCast_emod _ _).symm
    rw [e, Bool.eq_iff_iff]
    simp only [Bool.and_eq_true, decide_eq_true_eq, beq_iff_eq]
    omega
  · rw [Bool.eq_iff_iff]
    simp only [Bool.and_eq_true, decide_eq_true_eq, beq_iff_eq]
    omega
/-- a type whose form has nothing inside -/
theorem plain17 {t : UInt16} {F : Form} {a b u : Nat} (h : look (tab 1) t = some F) (h1 : F.lo = (a : Int)) (h2 : F.hi = (b : Int)) (h3 : F.un = (u : Int)) (h4 : F.ki = 0) (hu : 1 ≤ u) (hb : b ≤ 65531) (n : Nd) (hn : n.t = t) :
    chk 4 1 n = 0 ↔ (a ≤ n.v.length ∧ n.v.length ≤ b ∧ (n.v.length - a) % u = 0) ∧ n.ks = [] := by
  obtain ⟨t', v, ks⟩ := n
  have hn' : t' = t := hn
  subst hn'
  constructor
  · intro h5
    obtain ⟨g1, g2, _, _, _⟩ := chk_zero (f := 3) h5
    have g1' : fitK 1 t' v.length = true := g1
    have g2' : insB (formOf 1 t').ki ks = true := g2
    rw [fit17 h, fits17 h1 h2 h3 hu] at g1'
    rw [form17 h, h4, ins17] at g2'
    exact ⟨of_decide_eq_true g1', of_decide_eq_true g2'⟩
  · rintro ⟨h5, h6⟩
    have h6' : ks = [] := h6
    subst h6'
    have h5' : a ≤ v.length ∧ v.length ≤ b ∧ (v.length - a) % u = 0 := h5
    rw [chk17, fit17 h, fits17 h1 h2 h3 hu, form17 h, h4, ins17]
    exact ⟨decide_eq_true h5', rfl, by omega⟩
theorem p13 : look (tab 1) 13 = some (pT[8]'(by decide)) := by kernel_rfl
theorem p14 : look (tab 1) 14 = some (pT[9]'(by decide)) := by kernel_rfl
theorem p15 : look (tab 1) 15 = some (pT[10]'(by decide)) := by kernel_rfl
theorem p16 : look (tab 1) 16 = some (pT[11]'(by decide)) := by kernel_rfl
theorem p17 : look (tab 1) 17 = some (pT[12]'(by decide)) := by kernel_rfl
theorem p18 : look (tab 1) 18 = some (pT[13]'(by decide)) := by kernel_rfl
theorem chk13 (n : Nd) (h : n.t = 13) : chk 4 1 n = 0 ↔ (12 ≤ n.v.length ∧ n.v.length ≤ 65531 ∧ (n.v.length - 12) % 2 = 0) ∧ n.ks = [] := plain17 (a := 12) (b := 65531) (u := 2) p13 rfl rfl rfl rfl (by omega) (by omega) n h
theorem chk14 (n : Nd) (h : n.t = 14) : chk 4 1 n = 0 ↔ (4 ≤ n.v.length ∧ n.v.length ≤ 65531 ∧ (n.v.length - 4) % 2 = 0) ∧ n.ks = [] := plain17 (a := 4) (b := 65531) (u := 2) p14 rfl rfl rfl rfl (by omega) (by omega) n h
theorem chk15 (n : Nd) (h : n.t = 15) : chk 4 1 n = 0 ↔ (4 ≤ n.v.length ∧ n.v.length ≤ 4 ∧ (n.v.length - 4) % 1 = 0) ∧ n.ks = [] := plain17 (a := 4) (b := 4) (u := 1) p15 rfl rfl rfl rfl (by omega) (by omega) n h
theorem chk16 (n : Nd) (h : n.t = 16) : chk 4 1 n = 0 ↔ (8 ≤ n.v.length ∧ n.v.length ≤ 16 ∧ (n.v.length - 8) % 8 = 0) ∧ n.ks = [] := plain17 (a := 8) (b := 16) (u := 8) p16 rfl rfl rfl rfl (by omega) (by omega) n h
theorem chk1718 (n : Nd) (h : n.t = 17 ∨ n.t = 18) : chk 4 1 n = 0 ↔ (8 ≤ n.v.length ∧ n.v.length ≤ 8 ∧ (n.v.length - 8) % 1 = 0) ∧ n.ks = [] := by
  rcases h with h | h
  · exact plain17 (a := 8) (b := 8) (u := 1) p17 rfl rfl rfl rfl (by omega) (by omega) n h
  · exact plain17 (a := 8) (b := 8) (u := 1) p18 rfl rfl rfl rfl (by omega) (by omega) n h
theorem isT_or {t : UInt16} (h : isT t = true) : t = 13 ∨ t = 14 ∨ t = 15 ∨ t = 16 ∨ t = 17 ∨ t = 18 := by
  unfold isT at h
  simp only [Bool.and_eq_true, decide_eq_true_eq] at h
  have e : ∀ k : UInt16, t.toNat = k.toNat → t = k := fun k h => UInt16.toNat_inj.1 h
  have h9 : t.toNat = 13 ∨ t.toNat = 14 ∨ t.toNat = 15 ∨ t.toNat = 16 ∨ t.toNat = 17 ∨ t.toNat = 18 := by omega
  rcases h9 with h | h | h | h | h | h
  · exact .inl (e 13 h)
  · exact .inr (.inl (e 14 h))
  · exact .inr (.inr (.inl (e 15 h)))
  · exact .inr (.inr (.inr (.inl (e 16 h))))
  · exact .inr (.inr (.inr (.inr (.inl (e 17 h)))))
  · exact .inr (.inr (.inr (.inr (.inr (e 18 h)))))
theorem seqB_parts {n : Nd} (h : seqB n = true) : isT n.t = true ∧ chk 4 1 n = 0 := by
  unfold seqB at h
  simp only [Bool.and_eq_true, decide_eq_true_eq] at h
  exact h
theorem seqB_len {n : Nd} (h : seqB n = true) : 4 ≤ n.v.length ∧ n.v.length ≤ 65531 ∧ n.ks = [] := by
  obtain ⟨h1, h2⟩ := seqB_parts h
  rcases isT_or h1 with h | h | h | h | h | h
  · have := (chk13 n h).1 h2
    exact ⟨by omega, by omega, this.2⟩
  · have := (chk14 n h).1 h2
    exact ⟨by omega, by omega, this.2⟩
  · have := (chk15 n h).1 h2
    exact ⟨by omega, by omega, this.2⟩
  · have := (chk16 n h).1 h2
    exact ⟨by omega, by omega, this.2⟩
  · have := (chk1718 n (.inl h)).1 h2
    exact ⟨by omega, by omega, this.2⟩
  · have := (chk1718 n (.inr h)).1 h2
    exact ⟨by omega, by omega, this.2⟩
theorem seqB_13 {n : Nd} (h : seqB n = true) (ht : n.t = 13) : 12 ≤ n.v.length ∧ n.v.length % 2 = 0 := by
  have := (chk13 n ht).1 (seqB_parts h).2
  omega
theorem seqB_14 {n : Nd} (h : seqB n = true) (ht : n.t = 14) : 4 ≤ n.v.length ∧ n.v.length % 2 = 0 := by
  have := (chk14 n ht).1 (seqB_parts h).2
  omega
/-! ### what the program builds -/
def outN (a b c : UInt32) (s : List UInt16) : Nd := .mk 13 (puts 4 [a, b, c] ++ puts 2 (wid s)) []
def incN (a : UInt32) (s : List UInt16) : Nd := .mk 14 (puts 4 [a] ++ puts 2 (wid s)) []
def rstN (a : UInt32) : Nd := .mk 15 (puts 4 [a]) []
def rspN (a b : UInt32) (l : List UInt32) : Nd := .mk 16 (puts 4 [a, b] ++ puts 4 l) []
def morN (t : UInt16) (a : UInt32) (n : UInt16) : Nd := .mk t (puts 4 [a] ++ puts 2 [u32of n.toNat, 0]) []
theorem outN_len (a b c : UInt32) (s : List UInt16) : (outN a b c s).v.length = 12 + 2 * s.length := by
  show (puts 4 [a, b, c] ++ puts 2 (wid s)).length = _
  rw [List.length_append, puts_len, puts_len, wid_len, Nat.mul_comm s.length 2]
  rfl
theorem incN_len (a : UInt32) (s : List UInt16) : (incN a s).v.length = 4 + 2 * s.length := by
  show (puts 4 [a] ++ puts 2 (wid s)).length = _
  rw [List.length_append, puts_len, puts_len, wid_len, Nat.mul_comm s.length 2]
  rfl
theorem rspN_len (a b : UInt32) (l : List UInt32) : (rspN a b l).v.length = 8 + 4 * l.length := by
  show (puts 4 [a, b] ++ puts 4 l).length = _
  rw [List.length_append, puts_len, puts_len, Nat.mul_comm l.length 4]
  rfl
theorem seq_front {x : UInt32} {r : List UInt8} : nrd (be 4 x ++ r) 0 4 = x := by
  unfold nrd
  rw [List.drop_zero, List.take_append_of_le_length (by rw [be_len]; exact Nat.le_refl _), List.take_of_length_le (by rw [be_len]; exact Nat.le_refl _)]
  exact nrd_be4 x
theorem puts_cons17 (k : Nat) (x : UInt32) (l : List UInt32) : puts k (x :: l) = be k x ++ puts k l := by simp [puts]
theorem seq_puts (x : UInt32) (l : List UInt32) (r : List UInt8) : nrd (puts 4 (x :: l) ++ r) 0 4 = x := by
  rw [puts_cons17, List.append_assoc]
  exact seq_front
theorem seqN_out (a b c : UInt32) (s : List UInt16) : seqN (outN a b c s) = a := seq_puts a [b, c] _
theorem seqN_rsp (a b : UInt32) (l : List UInt32) : seqN (rspN a b l) = a := seq_puts a [b] _
theorem seqN_mor (t : UInt16) (a : UInt32) (n : UInt16) : seqN (morN t a n) = a := seq_puts a [] _
theorem morN_seq {t : UInt16} (ht : t = 17 ∨ t = 18) (a : UInt32) (n : UInt16) : seqB (morN t a n) = true := by
  unfold seqB
  have h1 : isT t = true := by rcases ht with rfl | rfl <;> rfl
  rw [show (morN t a n).t = t from rfl, h1, Bool.true_and, decide_eq_true_eq, chk1718 (morN t a n) (show (morN t a n).t = 17 ∨ (morN t a n).t = 18 from ht)]
  have hl : (morN t a n).v.length = 8 := by
    show (puts 4 [a] ++ puts 2 [u32of n.toNat, 0]).length = _
    rw [List.length_append, puts_len, puts_len]
    rfl
  rw [hl]
  exact ⟨⟨by omega, by omega, rfl⟩, rfl⟩
theorem morN_str {t : UInt16} (ht : t = 17 ∨ t = 18) (a : UInt32) (n : UInt16) : strOf (morN t a n) = [] := by
  unfold strOf
  rw [if_pos (morN_seq ht a n), show (morN t a n).t = t from rfl]
  rcases ht with rfl | rfl
  · rfl
  · rfl
end Go.Proofs.YtmohbkniekeafaaGreatDoor












namespace Go.Proofs.YtmohbkniekeafaaGreatDoor
open Go.RowKit

set_option linter.unusedSimpArgs false
set_option maxHeartbeats 1000000 in
theorem isType17_any (t : UInt16) (w : World) : Calls Tryz.prog 106 #[hv t] w fun e w' => e = .returned (.bool (isT t)) ∧ w = w' := by
  have HR : Hid (isT t = (decide (13 ≤ (t.toNat : Int)) && decide ((t.toNat : Int) ≤ 18))) := by
    unfold Hid isT
    rw [Bool.eq_iff_iff]
    simp only [Bool.and_eq_true, decide_eq_true_eq]
    omega
  generalize isT t = r at *
  by_cases h1 : 13 ≤ (t.toNat : Int)
  · by_cases h2 : (t.toNat : Int) ≤ 18
    · obtain rfl : r = true := by rw [HR.out, decide_eq_true h1, decide_eq_true h2]; rfl
      go_enter Tryz.func106, Tryz.ntmps106
      go_wp2_with fail
      go_ret
      exact ⟨rfl, rfl⟩
    · obtain rfl : r = false := by rw [HR.out, decide_eq_false h2, Bool.and_false]
      go_enter Tryz.func106, Tryz.ntmps106
      go_wp2_with fail
      go_ret
      exact ⟨rfl, rfl⟩
  · obtain rfl : r = false := by rw [HR.out, decide_eq_false h1, Bool.false_and]
    go_enter Tryz.func106, Tryz.ntmps106
    go_wp2_with fail
    go_ret
    exact ⟨rfl, rfl⟩
theorem u32info17 : (Tryz.prog.info? 22).map (fun i => (i.zero, i.size, i.bytes)) = some (some (.int .u32 0), 1, 4) := by kernel_rfl
theorem row17 {w : World} {g n k : Nat} {l : List UInt32} {x : UInt32} (h : Whole w g 22 ((l.take k).map uv ++ List.replicate (n - k) (Value.int .u32 0)).toArray) (hk : k < n) (hl : l[k]? = some x) :
    Whole (w.setCell ⟨g, k, none⟩ (uv x)) g 22 ((l.take (k + 1)).map uv ++ List.replicate (n - (k + 1)) (Value.int .u32 0)).toArray := by
  have hkl := (List.getElem?_eq_some_iff.1 hl).1
  have h4 := h.set_ k (uv x)
  have hlen : ((l.take k).map uv).length = k := by rw [List.length_map, List.length_take]; omega
  rw [List.setIfInBounds_toArray, List.set_append_right _ _ (by omega), hlen, Nat.sub_self] at h4
  obtain ⟨m, hm⟩ : ∃ m, n - k = m + 1 := ⟨n - k - 1, by omega⟩
  rw [hm, List.replicate_succ, List.set_cons_zero] at h4
  rw [show n - (k + 1) = m by omega, take_some hl, List.map_append, List.append_assoc]
  exact h4
set_option maxRecDepth 100000 in
set_option maxHeartbeats 2000000 in
theorem numbersOf17 (A : Option Addr) (c : Nat) (l : List UInt16) (w : World) (h : Lies w w.heap.size A (l.map hv)) (hn : l.length ≤ 1000000) :
    Calls Tryz.prog 103 #[.slice A l.length c] w fun e w' => ∃ A' c', e = .returned (.slice A' l.length c') ∧ Lies w' w'.heap.size A' ((wid l).map uv) ∧ Below w.heap.size w w' := by
  obtain ⟨i0, hi, hz0, hz1, hz2⟩ := info_parts u32info17
  have HW := Lib.hid (fun (k : Nat) (x : UInt16) (hx : l[k]? = some x) => show (wid l)[k]? = some (u32of x.toNat) by unfold wid; rw [List.getElem?_map, hx]; rfl)
  have HWL := Lib.hid (wid_len l)
  go_enter Tryz.func103, Tryz.ntmps103
  go_wp2_with (at_make; refine wpList_make_full _ rfl (.tmp 7) (.tmp 7) 23 rfl w.heap.size 22 i0 _ 1 Tryz.underlying23 hi hz0 hz1 .i64 .i64 _ _ l.length rfl rfl rfl rfl (by rw [hz2]; omega) (by unfold maxLen; omega) (Nat.le_refl _) ?_; intro w1 hown hgrow)
  have hb1 : Below w.heap.size w w1 := (Below.refl _ w).grown hgrow (Nat.le_refl _) (by simp)
  have hR : Hid (Whole w1 w.heap.size 22 (((wid l).take 0).map uv ++ List.replicate (l.length - 0) (Value.int .u32 0)).toArray) := by
    have := (own_whole hown).1
    simpa [Hid, Whole, toList_madeCells_one, Value.cells] using this
  clear hown hgrow
  go_loopw [11] (fun i wr => ∃ k : Nat, k ≤ l.length ∧ i = .int .i64 k ∧ Hid (Whole wr w.heap.size 22 (((wid l).take k).map uv ++ List.replicate (l.length - k) (Value.int .u32 0)).toArray) ∧ Below w.heap.size w wr) (fun i _ => l.length - (intOf i).toNat)
  case atStart => exact ⟨0, Nat.zero_le _, rfl, hR, hb1⟩
  case round =>
    obtain ⟨k, hk, rfl, hrw, hbel⟩ := hrel
    clear hR
    by_cases hlt : k < l.length
    · obtain ⟨ad, x, rfl, hb, hx, hc⟩ := (h.below hbel).of_map (f := hv) hlt
      have hf := hrw.out.frozen k
      have hce : wr.cell? ⟨w.heap.size, k, none⟩ = some (.int .u32 0) := by
        rw [hrw.out.cell]
        simp only [List.getElem?_toArray]
        have hlen : (((wid l).take k).map uv).length = k := by rw [List.length_map, List.length_take, HWL.out]; omega
        rw [List.getElem?_append_right (by omega), List.getElem?_replicate, if_pos (by omega)]
      have HS := Lib.hid (row17 hrw.out hlt (HW.out k x hx.out))
      have HB := Lib.hid (hbel.setCell (p := ⟨w.heap.size, k, none⟩) (Nat.le_refl _) (uv (u32of x.toNat)))
      have hxt := x.toNat_lt
      have hcv : IntKind.u32.wrap (x.toNat : Int) = ((u32of x.toNat).toNat : Int) := by
        rw [u32of_toNat (by omega)]
        unfold IntKind.wrap IntKind.bits
        simp [IntKind.signed]
        omega
      have hmd : (x.toNat : Int) % 4294967296 = ((u32of x.toNat).toNat : Int) := by
        rw [u32of_toNat (by omega)]
        omega
      clear hrw hxt
      generalize u32of x.toNat = y at *
      go_wp2_with fail
      go_roundw
      case rel => exact ⟨k + 1, by omega, by go_num, HS.out, HB.out⟩
      case measure => simp [intOf]; omega
    · obtain rfl : k = l.length := by omega
      have HE : Hid (Lies wr wr.heap.size (some ⟨w.heap.size, 0, none⟩) ((wid l).map uv)) := by
        have h1 := hrw.out
        rw [List.take_of_length_le (by rw [HWL.out]; omega), Nat.sub_self, List.replicate_zero, List.append_nil] at h1
        exact h1.lies h1.lt
      clear hrw
      go_wp2_with fail
      go_ret
      exact ⟨_, _, rfl, HE.out, hbel⟩
theorem u8size17 (W : World) : (sizeOf 5).run Tryz.prog W = .ok 1 W := by kernel_rfl
theorem elem_u817 : Tryz.prog.elem 41 = 5 := by kernel_rfl
theorem slice_from17 {w : World} {B : Nat} (A : Option Addr) (c : Nat) (l : List UInt8) (k : Nat) (h : Lies w B A (l.map bv)) (hc : l.length ≤ c) (hm : c ≤ maxLen) (hk : k ≤ l.length) :
    ∃ A1 c1, (∀ W : World, (Instr.slice 41 (.slice A l.length c) (some (.int .i64 (k : Int))) none none).run Tryz.prog W = .ok (.slice A1 (l.drop k).length c1) W) ∧ Lies w B A1 ((l.drop k).map bv) ∧ (l.drop k).length ≤ c1 ∧ c1 ≤ maxLen := by
  refine ⟨if c = k then A else A.map (·.add k), c - k, fun W => ?_, ?_, by rw [List.length_drop]; omega, by omega⟩
  · rw [run_slice_l (P := Tryz.prog) W 41 A l.length c (by rw [elem_u817]; exact Tryz.underlying41) .i64 (k : Int) (by omega) (by omega), elem_u817, u8size17]
    simp [Result.andThen, sliced]
  · have h2 := h.drop (k := k) (c := c) (by simpa using hc)
    rwa [← List.map_drop] at h2
theorem wpList_slice17 {P : Program} {ops : Array Oper} {rest : List Oper} {o : Oper} {a : Act} {w : World} {Q : Exit → Act → World → Prop} (hgd : o.guard = none) (t : TypeId) (x : Operand) (lo hi mx : Option Operand) (ho : o.op = .slice t x lo hi mx) (ht : P.underlying t = some (.slice (P.elem t)))
    (v : Value) (hr : (Instr.slice t (a.eval x) (lo.map a.eval) (hi.map a.eval) (mx.map a.eval)).run P w = .ok v w) (h : wpList P ops Q rest (a.put o.dst v) w) : wpList P ops Q (o :: rest) a w := by
  refine wpList_plain hgd fun _ hK => ?_
  unfold Oper.wp execOp
  simp only [ho, Sem.run_bind, Sem.run_pure, Result.andThen_ok, run_sliceAt_slice w t _ _ _ _ ht, hr]
  exact hK _ _ h
theorem u16cv17 (x : UInt32) : IntKind.u16.wrap (x.toNat : Int) = ((UInt16.ofNat x.toNat).toNat : Int) := by
  unfold IntKind.wrap IntKind.bits
  rw [UInt16.toNat_ofNat']
  simp [IntKind.signed]
set_option maxRecDepth 100000 in
set_option maxHeartbeats 4000000 in
theorem streamsOf17 (A : Option Addr) (c : Nat) (d : List UInt8) (w : World) (h : Lies w w.heap.size A (d.map bv)) (hd : d.length % 2 = 0) (hs : d.length ≤ 1000000) (hc : d.length ≤ c) (m : Nat) (hm : d.length / 2 = m) :
    Calls Tryz.prog 111 #[.slice A d.length c] w fun e w' => ∃ A' c', e = .returned (.slice A' m c') ∧ Lies w' w'.heap.size A' ((strs d).map hv) ∧ Below w.heap.size w w' := by
  have hN := numbersF_any 2 rfl A c d w h hd (by omega) hc
  have HP : Hid (strs d = (nums 2 d).map fun x => UInt16.ofNat x.toNat) := rfl
  have HPL := Lib.hid (strs_len d)
  have HNL := Lib.hid (nums_len 2 d)
  rw [hm] at hN HPL HNL
  have hm2 : m ≤ 500000 := by omega
  clear hm
  generalize nums 2 d = U at *
  generalize strs d = Z at *
  go_enter Tryz.func111, Tryz.ntmps111
  go_wp2_with fail
  refine hN.mono ?_
  rintro e w5 ⟨A6, c6, rfl, own6, b5⟩
  have l6 := Lies.own own6
  clear own6 hN
  go_wp2_with fail
  go_loopw [3, 9] (fun v i wr => ∃ (k : Nat) (A' : Option Addr) (c' : Nat), k ≤ m ∧ i = .int .i64 k ∧ v = .slice A' k c' ∧ Hid (wr.ownsRow w5.heap.size 37 1 (.slice A' k c') k ((Z.take k).map hv)) ∧ Below w5.heap.size w5 wr) (fun _ i _ => m - (intOf i).toNat)
  case atStart => exact ⟨0, none, 0, Nat.zero_le _, rfl, rfl, World.ownsRow_nil _ _ _ _, Below.refl _ _⟩
  case round =>
    obtain ⟨k, A2, c2, hk, rfl, rfl, hown, hbel⟩ := hrel
    have hsz := hbel.size
    by_cases hlt : k < m
    · obtain ⟨ad, x, rfl, hb, hx, hc⟩ := (l6.below hbel).word (k := k) (by have := HNL.out; omega)
      have HZ : Hid (Z.take (k + 1) = Z.take k ++ [UInt16.ofNat x.toNat]) := by
        apply take_some
        rw [HP.out, List.getElem?_map, hx.out]
        rfl
      have hcv := u16cv17 x
      have HL1 := Lib.hid (Lies.new1 wr (hv (UInt16.ofNat x.toNat)) 37)
      have HO2 := Lib.hid (hown.out.alloc (.cells #[hv (UInt16.ofNat x.toNat)] 37))
      generalize UInt16.ofNat x.toNat = y at *
      go_wp2_with (at_builtin; refine wpList_append_lies _ rfl (.tmp 13) (.tmp 16) 36 rfl w5.heap.size 37 _ 2 Tryz.underlying36 u16info rfl _ _ _ rfl HO2.out _ _ 1 1 [hv y] rfl rfl HL1.out (by intro u hu; rw [List.mem_singleton.1 hu]; rfl) (by omega) (by unfold maxLen; omega) (by simp; omega) ?_; intro A4 c4 w4 hown4 hgrow4 _)
      have H2 : Hid (w4.ownsRow w5.heap.size 37 1 (.slice A4 (k + 1) c4) (k + 1) ((Z.take (k + 1)).map hv)) := by
        unfold Hid
        rw [HZ.out, List.map_append]
        exact hown4
      have hb4 : Below w5.heap.size w5 w4 := (hbel.alloc hsz _).grown hgrow4 (by simp; omega) (fun q e => (hown.out.lt q e).1)
      clear hown4 hgrow4
      go_wp2_with fail
      go_roundw
      case rel => exact ⟨k + 1, A4, c4, by omega, by go_num, rfl, H2, hb4⟩
      case measure => simp [intOf]; omega
    · obtain rfl : k = m := by omega
      have HE : Hid (Lies wr wr.heap.size A2 (Z.map hv)) := by
        have h1 := hown.out
        rw [List.take_of_length_le (by have := HPL.out; omega)] at h1
        exact Lies.own h1
      clear hown
      go_wp2_with fail
      go_ret
      exact ⟨A2, c2, rfl, HE.out, b5.trans (hbel.mono b5.size)⟩
end Go.Proofs.YtmohbkniekeafaaGreatDoor








namespace Go.Proofs.YtmohbkniekeafaaGreatDoor
open Go.RowKit

set_option linter.unusedSimpArgs false
theorem fput_own17 (k : Nat) (hk : k = 1 ∨ k = 2 ∨ k = 4) (A : Option Addr) (c : Nat) (l : List UInt32) (hl : l.length ≤ 100000) (w : World) (h : Lies w w.heap.size A (l.map uv)) (m : Nat) (hm : l.length * k = m) :
    Calls Tryz.prog 68 #[.int .i64 (k : Int), .slice A l.length c] w fun e w' => ∃ A' c', e = .returned (.slice A' m c') ∧ w'.ownsRow w.heap.size 5 1 (.slice A' m c') m ((puts k l).map bv) ∧ Below w.heap.size w w' := by
  subst hm
  exact put_any k hk A c l w h (by omega)
theorem isB_own17 {w : World} {base n c : Nat} {A : Option Addr} {l : List UInt8} (h : w.ownsRow base 5 1 (.slice A n c) n (l.map bv)) : IsB w w.heap.size (.slice A n c) l := by
  have hc := own_cap h
  have hl : l.length = n := by have h1 := hc.1; rw [List.length_map] at h1; exact h1
  exact ⟨A, c, by rw [hl], Lies.own h, by rw [hl]; exact hc.2.1, hc.2.2⟩
theorem isB_on17 {w w' : World} {v : Value} {l : List UInt8} (h : IsB w w.heap.size v l) (hb : Below w.heap.size w w') : IsB w' w'.heap.size v l := by
  obtain ⟨A, c, h1, h2, h3, h4⟩ := h
  exact ⟨A, c, h1, (h2.below hb).more hb.size, h3, h4⟩
theorem fparts217 {w : World} (v1 v2 : Value) (p1 p2 : List UInt8) (h1 : IsB w w.heap.size v1 p1) (h2 : IsB w w.heap.size v2 p2) :
    Parts (w.alloc (.cells #[v1, v2] 41)) (w.alloc (.cells #[v1, v2] 41)).heap.size (some ⟨w.heap.size, 0, none⟩) [v1, v2] [p1, p2] := by
  have hb : Below w.heap.size w (w.alloc (.cells #[v1, v2] 41)) := (Below.refl _ w).alloc (Nat.le_refl _) _
  refine ⟨(Lies.newN w [v1, v2] _).more (by simp), rfl, fun i p hp => ?_⟩
  match i, hp with
  | 0, hp => simp only [List.getElem?_cons_zero, Option.some.injEq] at hp; subst hp; exact ⟨_, rfl, isB_on17 h1 hb⟩
  | 1, hp => simp only [List.getElem?_cons_succ, List.getElem?_cons_zero, Option.some.injEq] at hp; subst hp; exact ⟨_, rfl, isB_on17 h2 hb⟩
  | i + 2, hp => simp at hp
theorem fjoin2_any17 (v1 v2 : Value) (p1 p2 : List UInt8) (w : World) (h1 : IsB w w.heap.size v1 p1) (h2 : IsB w w.heap.size v2 p2) (n : Nat) (hn : p1.length + p2.length = n) (hm : n ≤ 100000) :
    Calls Tryz.prog 70 #[.slice (some ⟨w.heap.size, 0, none⟩) 2 2] (w.alloc (.cells #[v1, v2] 41)) fun e w' =>
      ∃ A' c', e = .returned (.slice A' n c') ∧ w'.ownsRow w.heap.size 5 1 (.slice A' n c') n ((p1 ++ p2).map bv) ∧ Below w.heap.size w w' := by
  have hP := fparts217 _ _ _ _ h1 h2
  have ht : tot [p1, p2] = n := by rw [← hn]; simp [tot]
  refine (join_any _ 2 _ _ _ hP (by simp [maxLen]) (by rw [ht]; omega)).mono ?_
  rintro e w' ⟨A', c', rfl, hown, hb⟩
  rw [ht] at hown ⊢
  have e3 : [p1, p2].flatten = p1 ++ p2 := by simp
  rw [e3] at hown
  exact ⟨A', c', rfl, own_base hown (by simp), ((Below.refl _ w).alloc (Nat.le_refl _) _).trans (hb.mono (by simp))⟩
theorem wh317 {w : World} {g : Nat} {t : TypeId} {a b c : Value} (h : Whole w g t #[a, b, c]) : w.cell? ⟨g, 0, none⟩ = some a ∧ w.cell? ⟨g, 1, none⟩ = some b ∧ w.cell? ⟨g, 2, none⟩ = some c := ⟨by rw [h.cell]; rfl, by rw [h.cell]; rfl, by rw [h.cell]; rfl⟩
set_option maxHeartbeats 1000000 in
theorem collecting_any (t : UInt16) (w : World) : Calls Tryz.prog 101 #[hv t] w fun e w' => e = .returned (.func (.func 145) #[] #[.pointer (some ⟨w.heap.size, 0, none⟩)]) ∧ Whole w' w.heap.size 76 #[hv t, .slice none 0 0, .slice none 0 0] ∧ Below w.heap.size w w' := by
  have HX := Lib.hid (Whole.new w 76 #[hv t, .slice none 0 0, .slice none 0 0])
  have HB : Hid (Below w.heap.size w (w.alloc (.cells #[hv t, .slice none 0 0, .slice none 0 0] 76))) := Lib.hid ((Below.refl _ w).alloc (Nat.le_refl _) _)
  go_enter Tryz.func101, Tryz.ntmps101
  go_wp2_with fail
  go_ret
  exact ⟨rfl, HX.out, HB.out⟩
set_option maxRecDepth 100000 in
set_option maxHeartbeats 8000000 in
/-- a call of what collecting gives: the numbers l in k bytes each behind what the box has -/
theorem coll1_any (k : Nat) (hk : k = 1 ∨ k = 2 ∨ k = 4) (Al : Option Addr) (cl : Nat) (l : List UInt32) (t : UInt16) (g : Nat) (A0 : Option Addr) (c0 : Nat) (d : List UInt8) (B : Nat) (w : World)
    (hx : Whole w g 76 #[hv t, .slice A0 d.length c0, .slice none 0 0]) (hg : B ≤ g) (hd : w.ownsRow B 5 1 (.slice A0 d.length c0) d.length (d.map bv))
    (hl : Lies w w.heap.size Al (l.map uv)) (hll : l.length ≤ 100000) (hm : d.length + l.length * k ≤ 100000) :
    Calls Tryz.prog 145 #[.int .i64 (k : Int), .slice Al l.length cl, .pointer (some ⟨g, 0, none⟩)] w fun e w' => ∃ A' c', e = .returned (.agg #[hv t, .slice A' (d.length + l.length * k) c', .slice none 0 0]) ∧
      Whole w' g 76 #[hv t, .slice A' (d.length + l.length * k) c', .slice none 0 0] ∧ w'.ownsRow B 5 1 (.slice A' (d.length + l.length * k) c') (d.length + l.length * k) ((d ++ puts k l).map bv) ∧ Below B w w' := by
  have b0 : Below w.heap.size w (w.alloc (.cells #[.int .u16 0, .slice none 0 0, .slice none 0 0] 76)) := (Below.refl _ w).alloc (Nat.le_refl _) _
  have r0 := Whole.new w 76 #[.int .u16 0, .slice none 0 0, .slice none 0 0]
  have hgw := hx.lt
  have hs0 : w.heap.size + 1 = (w.alloc (.cells #[.int .u16 0, .slice none 0 0, .slice none 0 0] 76)).heap.size := by simp
  have x0 := hx.below b0 hx.lt
  have d0 := own_below' hd b0
  have l0 := (hl.below b0).more b0.size
  have HP : Hid (∀ V, Below (w.alloc (.cells #[.int .u16 0, .slice none 0 0, .slice none 0 0] 76)).heap.size (w.alloc (.cells #[.int .u16 0, .slice none 0 0, .slice none 0 0] 76)) V → Calls Tryz.prog 68 #[.int .i64 (k : Int), .slice Al l.length cl] V fun e w' => ∃ A' c', e = .returned (.slice A' (l.length * k) c') ∧ w'.ownsRow V.heap.size 5 1 (.slice A' (l.length * k) c') (l.length * k) ((puts k l).map bv) ∧ Below V.heap.size V w') :=
    Lib.hid (fun V hV => fput_own17 k hk Al cl l hll V ((l0.below hV).more hV.size) _ rfl)
  have hpl : (puts k l).length = l.length * k := puts_len k l
  have HPL := Lib.hid hpl
  clear hl l0 b0 hk hpl
  have HX0 := Lib.hid hx
  have HD0 := Lib.hid hd
  clear hx hd
  generalize hq : puts k l = q at *
  clear hq
  generalize hlk : l.length * k = lk at *
  clear hlk
  go_enter Tryz.func145, Tryz.ntmps145
  go_upto_region 1 with fail
  have hb0 : Below w.heap.size w (w.alloc (.cells #[.int .u16 0, .slice none 0 0, .slice none 0 0] 76)) := (Below.refl _ w).alloc (Nat.le_refl _) _
  generalize w.alloc (.cells #[.int .u16 0, .slice none 0 0, .slice none 0 0] 76) = wa at *
  have KS : Hid (∀ V, Below wa.heap.size wa V → V.cell? ⟨g, 1, none⟩ = some (.slice A0 d.length c0)) := Lib.hid (fun V hV => (wh317 (x0.below hV (by omega))).2.1)
  have k0 : wa.drew.cell? ⟨g, 1, none⟩ = some (.slice A0 d.length c0) := KS.out _ (below_drew (Below.refl _ _))
  have XS : Hid (∀ V, Below wa.heap.size wa V → Whole V g 76 #[hv t, .slice A0 d.length c0, .slice none 0 0] ∧ Whole V w.heap.size 76 #[.int .u16 0, .slice none 0 0, .slice none 0 0]) := Lib.hid (fun V hV => ⟨x0.below hV (by omega), r0.below hV (by omega)⟩)
  clear x0 r0
  have HB0 := Lib.hid hb0
  have D0 := Lib.hid d0
  clear hb0 d0
  go_region_with (first
    | (go_at_call 68; (with_reducible refine (HP.out _ (below_drew (Below.refl _ _))).mono ?_); rintro e w2 ⟨A2, c2, rfl, o2, b2⟩; have R2 : Below wa.heap.size wa w2 := below_undrew13 b2; have k2 := KS.out _ R2)
    | (go_at_call 70; (with_reducible refine (fjoin2_any17 (.slice A0 d.length c0) (.slice A2 lk c2) d q w2 (isB_own17 (own_below' D0.out R2)) (isB_own17 o2) (d.length + lk) (by rw [HPL.out]) hm).mono ?_); rintro e w3 ⟨A3, c3, rfl, o3, b3⟩; have R3 : Below wa.heap.size wa w3 := R2.trans (b3.mono R2.size); have k3 := KS.out _ R3; have f3 := (XS.out _ R3).1.frozen 1)
    | fail)
  all_goals
    have x3 := (XS.out _ R3).1
    have r3 := (XS.out _ R3).2
    have hgw2 : g ≠ w.heap.size := by omega
    have x4 := x3.set_ 1 (.slice A3 (d.length + lk) c3)
    have r4 := r3.far (p := ⟨g, 1, none⟩) hgw2.symm (.slice A3 (d.length + lk) c3)
    have o4 : (w3.setCell ⟨g, 1, none⟩ (.slice A3 (d.length + lk) c3)).ownsRow w2.heap.size 5 1 (.slice A3 (d.length + lk) c3) (d.length + lk) ((d ++ q).map bv) := own_set13 o3 x3 (by decide)
    have R4 : Below B w (w3.setCell ⟨g, 1, none⟩ (.slice A3 (d.length + lk) c3)) := ((HB0.out.trans (R3.mono (by omega))).mono (by omega)).setCell (p := ⟨g, 1, none⟩) hg _
    have hsz2 : B ≤ w2.heap.size := by have := R2.size; omega
    clear k0 k3 f3 x3 r3 o3 o2
    (try clear k2)
    generalize w3.setCell ⟨g, 1, none⟩ (.slice A3 (d.length + lk) c3) = w4 at *
    obtain ⟨q0, q1, q2⟩ := wh317 x4
    obtain ⟨u0, u1, u2⟩ := wh317 r4
    have f0 := r4.frozen 0
    have f1 := r4.frozen 1
    have f2 := r4.frozen 2
    have HO := Lib.hid (own_base o4 hsz2)
    clear o4 hsz2
    go_wp2_with fail
    refine bodyPost_ret (results_row13 rfl _ _ w.heap.size 76 _ _ rfl (((r4.set_ 0 _).set_ 1 _).set_ 2 _) Tryz.underlying76 rfl (by kernel_rfl)) rfl ?_
    refine ⟨A3, c3, rfl, ((x4.far (p := ⟨w.heap.size, 0, none⟩) hgw2 _).far (p := ⟨w.heap.size, 1, none⟩) hgw2 _).far (p := ⟨w.heap.size, 2, none⟩) hgw2 _, own_set13 (own_set13 (own_set13 HO.out r4 (by decide)) (r4.set_ 0 _) (by decide)) ((r4.set_ 0 _).set_ 1 _) (by decide), ?_⟩
    exact ((R4.setCell (p := ⟨w.heap.size, 0, none⟩) (by show B ≤ w.heap.size; omega) _).setCell (p := ⟨w.heap.size, 1, none⟩) (by show B ≤ w.heap.size; omega) _).setCell (p := ⟨w.heap.size, 2, none⟩) (by show B ≤ w.heap.size; omega) _
theorem codeE_ne17 {c : Nat} (h : c ≠ 0) : codeE c = .iface 126 (.int .i64 (c : Int)) := by unfold codeE codeV; rw [if_neg h]
theorem coll17 (k : Nat) (hk : k = 1 ∨ k = 2 ∨ k = 4) (Al : Option Addr) (cl : Nat) (l : List UInt32) (t : UInt16) (g : Nat) (A0 : Option Addr) (c0 : Nat) (d : List UInt8) (B : Nat) (w : World) (n0 ll n : Nat) (hn0 : d.length = n0) (hl0 : l.length = ll) (hn : n0 + ll * k = n)
    (hx : Whole w g 76 #[hv t, .slice A0 n0 c0, .slice none 0 0]) (hg : B ≤ g) (hd : w.ownsRow B 5 1 (.slice A0 n0 c0) n0 (d.map bv))
    (hl : Lies w w.heap.size Al (l.map uv)) (hm : n ≤ 100000) :
    Calls Tryz.prog 145 #[.int .i64 (k : Int), .slice Al ll cl, .pointer (some ⟨g, 0, none⟩)] w fun e w' => ∃ A' c', e = .returned (.agg #[hv t, .slice A' n c', .slice none 0 0]) ∧
      Whole w' g 76 #[hv t, .slice A' n c', .slice none 0 0] ∧ w'.ownsRow B 5 1 (.slice A' n c') n ((d ++ puts k l).map bv) ∧ Below B w w' := by
  subst hn0
  subst hl0
  subst hn
  have hk1 : 1 ≤ k := by omega
  have := Nat.le_mul_of_pos_right l.length hk1
  exact coll1_any k hk Al cl l t g A0 c0 d B w hx hg hd hl (by omega) hm
/-- what a builder hands back: the node if it is right, or a zero one -/
def MkP (n : Nd) (w : World) (e : Ending) (w' : World) : Prop := Below w.heap.size w w' ∧
  ((chk 4 1 n = 0 ∧ ∃ A' c', e = .returned (.tuple #[.agg #[hv n.t, .slice A' n.v.length c', .slice none 0 0], .bool true]) ∧ w'.ownsRow w.heap.size 5 1 (.slice A' n.v.length c') n.v.length (n.v.map bv)) ∨
   (chk 4 1 n ≠ 0 ∧ e = .returned (.tuple #[.agg #[.int .u16 0, .slice none 0 0, .slice none 0 0], .bool false])))
theorem node17 {w : World} {A : Option Addr} {c : Nat} {t : UInt16} {d : List UInt8} {B n : Nat} (h : w.ownsRow B 5 1 (.slice A n c) n (d.map bv)) : Node w w.heap.size A c none 0 (.mk t d []) := by
  obtain ⟨h1, h2, h3⟩ := own_cap h
  rw [List.length_map] at h1
  exact ⟨Lies.own h, by rw [show (Nd.mk t d []).v = d from rfl, h1]; exact h2, h3, Nodes.nil _ _ _, Nat.zero_le _, Nat.zero_le _⟩
theorem fine17 (t : UInt16) (d : List UInt8) (h : d.length ≤ 800000) : Fine (.mk t d []) := .mk (by rw [vlen17]; exact h) (Nat.zero_le _) (fun k hk => by cases hk)
set_option maxRecDepth 100000 in
set_option maxHeartbeats 4000000 in
theorem right17_any (t : UInt16) (d : List UInt8) (A : Option Addr) (c : Nat) (B : Nat) (w : World) (h : w.ownsRow B 5 1 (.slice A d.length c) d.length (d.map bv)) (hd : d.length ≤ 800000) :
    Calls Tryz.prog 102 #[.agg #[hv t, .slice A d.length c, .slice none 0 0]] w fun e w' => Below w.heap.size w w' ∧ ((chk 4 1 (.mk t d []) = 0 ∧ e = .returned (.tuple #[.agg #[hv t, .slice A d.length c, .slice none 0 0], .bool true])) ∨ (chk 4 1 (.mk t d []) ≠ 0 ∧ e = .returned (.tuple #[.agg #[.int .u16 0, .slice none 0 0, .slice none 0 0], .bool false]))) := by
  have b0 : Below w.heap.size w ((w.alloc (.cells #[hv t, .slice A d.length c, .slice none 0 0] 76)).alloc (.cells #[.int .u16 0, .slice none 0 0, .slice none 0 0] 76)) := ((Below.refl _ w).alloc (Nat.le_refl _) _).alloc (by simp) _
  have x0 := (Whole.new w 76 #[hv t, .slice A d.length c, .slice none 0 0]).alloc (.cells #[.int .u16 0, .slice none 0 0, .slice none 0 0] 76)
  have y0 := Whole.new (w.alloc (.cells #[hv t, .slice A d.length c, .slice none 0 0] 76)) 76 #[.int .u16 0, .slice none 0 0, .slice none 0 0]
  rw [World.size_alloc] at y0
  have hC : Calls Tryz.prog 107 #[.int .i64 1, .agg #[hv t, .slice A d.length c, .slice none 0 0]] ((w.alloc (.cells #[hv t, .slice A d.length c, .slice none 0 0] 76)).alloc (.cells #[.int .u16 0, .slice none 0 0, .slice none 0 0] 76)) fun e w' => e = .returned (codeE (chk 4 1 (.mk t d []))) ∧ Below ((w.alloc (.cells #[hv t, .slice A d.length c, .slice none 0 0] 76)).alloc (.cells #[.int .u16 0, .slice none 0 0, .slice none 0 0] 76)).heap.size ((w.alloc (.cells #[hv t, .slice A d.length c, .slice none 0 0] 76)).alloc (.cells #[.int .u16 0, .slice none 0 0, .slice none 0 0] 76)) w' :=
    ncheck_any 1 (.mk t d []) A c none 0 _ (node17 (own_below' h b0)) (fine17 t d hd)
  have hCC := fun hc : chk 4 1 (.mk t d []) ≠ 0 => codeE_ne17 hc
  generalize chk 4 1 (.mk t d []) = cc at *
  have hs0 : ((w.alloc (.cells #[hv t, .slice A d.length c, .slice none 0 0] 76)).alloc (.cells #[.int .u16 0, .slice none 0 0, .slice none 0 0] 76)).heap.size = w.heap.size + 2 := by simp
  have HCC := Lib.hid hCC
  clear h hCC
  go_enter Tryz.func102, Tryz.ntmps102
  go_upto_region 1 with fail
  generalize (w.alloc (.cells #[hv t, .slice A d.length c, .slice none 0 0] 76)).alloc (.cells #[.int .u16 0, .slice none 0 0, .slice none 0 0] 76) = wa at *
  obtain ⟨q0, q1, q2⟩ := wh317 x0
  by_cases hc : cc = 0
  · subst hc
    have e0 : codeE 0 = .nilIface := rfl
    rw [e0] at hC
    clear e0 HCC
    go_wp2_with fail
    refine hC.mono ?_
    rintro e w1 ⟨rfl, b1⟩
    have B1 := Lib.hid (b0.trans (b1.mono (by omega)))
    have x1 := x0.below b1 (by omega)
    have y1 := y0.below b1 (by omega)
    clear q0 q1 q2 x0 y0 b0 b1 hC
    obtain ⟨q0, q1, q2⟩ := wh317 x1
    have f0 := y1.frozen 0
    have f1 := y1.frozen 1
    have f2 := y1.frozen 2
    obtain ⟨u0, u1, u2⟩ := wh317 y1
    go_wp2_with fail
    refine bodyPost_ret (results_row_tmp rfl _ _ (w.heap.size + 1) 76 _ _ rfl (((y1.set_ 0 _).set_ 1 _).set_ 2 _) Tryz.underlying76 rfl (by kernel_rfl)) rfl ?_
    exact ⟨((B1.out.setCell (p := ⟨w.heap.size + 1, 0, none⟩) (Nat.le_succ _) _).setCell (p := ⟨w.heap.size + 1, 1, none⟩) (Nat.le_succ _) _).setCell (p := ⟨w.heap.size + 1, 2, none⟩) (Nat.le_succ _) _, rfl⟩
  · have HC := Lib.hid hc
    rw [HCC.out hc] at hC
    clear hc HCC
    go_wp2_with fail
    refine hC.mono ?_
    rintro e w1 ⟨rfl, b1⟩
    have B1 := Lib.hid (b0.trans (b1.mono (by omega)))
    have x1 := x0.below b1 (by omega)
    have y1 := y0.below b1 (by omega)
    clear q0 q1 q2 x0 y0 b0 b1 hC
    have f0 := y1.frozen 0
    have f1 := y1.frozen 1
    have f2 := y1.frozen 2
    obtain ⟨u0, u1, u2⟩ := wh317 y1
    go_wp2_with fail
    refine bodyPost_ret (results_row_tmp rfl _ _ (w.heap.size + 1) 76 _ _ rfl (((y1.set_ 0 _).set_ 1 _).set_ 2 _) Tryz.underlying76 rfl (by kernel_rfl)) rfl ?_
    exact ⟨((B1.out.setCell (p := ⟨w.heap.size + 1, 0, none⟩) (Nat.le_succ _) _).setCell (p := ⟨w.heap.size + 1, 1, none⟩) (Nat.le_succ _) _).setCell (p := ⟨w.heap.size + 1, 2, none⟩) (Nat.le_succ _) _, .inr ⟨HC.out, rfl⟩⟩
end Go.Proofs.YtmohbkniekeafaaGreatDoor


