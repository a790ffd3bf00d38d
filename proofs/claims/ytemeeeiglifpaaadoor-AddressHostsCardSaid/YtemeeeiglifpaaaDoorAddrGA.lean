/- Layer 9: the texts of addresses: digits, words, reading word by word. No program, no condition of its own. -/
import Derived.Test.YtemeeeiglifpaaaDoorNodeHJ
import Derived.Test.YtemeeeiglifpaaaDoorShapeC
import Derived.Lib.OthersKept
import Derived.Laws.RangeAny
import Derived.Lib.ConvBytes
import Derived.Laws.IdiomCopy
import Derived.Lib.FrozenHead2
import Derived.Test.YtemeeeiglifpaaaDoorEqual
import Derived.Test.YtemeeeiglifpaaaDoorNodeFG
import Derived.Lib.Builder

namespace Go.Proofs.YtemeeeiglifpaaaDoor
/-! ### the digits of a number -/
def dch (d : Nat) : UInt8 := if d < 10 then UInt8.ofNat (48 + d) else UInt8.ofNat (87 + d)
def digs (b : Nat) : Nat → Nat → List UInt8
  | 0, n => [dch n]
  | f + 1, n => if n < b then [dch n] else digs b f (n / b) ++ [dch (n % b)]
theorem digs_succ (b f n : Nat) : digs b (f + 1) n = if n < b then [dch n] else digs b f (n / b) ++ [dch (n % b)] := rfl
def dg (b n : Nat) : List UInt8 := digs b 4 n
def dval (c : UInt8) : Nat := if 48 ≤ c.toNat ∧ c.toNat ≤ 57 then c.toNat - 48 else if 97 ≤ c.toNat ∧ c.toNat ≤ 102 then c.toNat - 87 else 99
theorem dval_dch {d : Nat} (h : d < 16) : dval (dch d) = d := by
  unfold dval dch
  by_cases h1 : d < 10
  · rw [if_pos h1, UInt8.toNat_ofNat', if_pos (by omega)]; omega
  · rw [if_neg h1, UInt8.toNat_ofNat', if_neg (by omega), if_pos (by omega)]; omega
theorem dch_dval {c : UInt8} (h : dval c < 16) : dch (dval c) = c := by
  unfold dval at *
  have hc := c.toNat_lt
  by_cases h1 : 48 ≤ c.toNat ∧ c.toNat ≤ 57
  · rw [if_pos h1] at *
    unfold dch
    rw [if_pos (by omega), show 48 + (c.toNat - 48) = c.toNat by omega, UInt8.ofNat_toNat]
  · rw [if_neg h1] at *
    by_cases h2 : 97 ≤ c.toNat ∧ c.toNat ≤ 102
    · rw [if_pos h2] at *
      unfold dch
      rw [if_neg (by omega), show 87 + (c.toNat - 87) = c.toNat by omega, UInt8.ofNat_toNat]
    · rw [if_neg h2] at h
      omega
theorem dch_ne_sign {d : Nat} (h : d < 16) : dch d ≠ 46 ∧ dch d ≠ 58 := by
  have h1 := dval_dch h
  constructor <;> (intro e; rw [e] at h1; revert h1; unfold dval; simp; omega)
theorem digs_ne (b f n : Nat) : digs b f n ≠ [] := by
  cases f with
  | zero => simp [digs]
  | succ f => unfold digs; split <;> simp
theorem digs_chars {b : Nat} (hb : 2 ≤ b) (hb2 : b ≤ 16) : ∀ (f n : Nat), n < b ^ (f + 1) → ∀ c ∈ digs b f n, ∃ d, d < b ∧ c = dch d := by
  intro f
  induction f with
  | zero =>
    intro n hn c hc
    rw [digs, List.mem_singleton] at hc
    exact ⟨n, by simpa using hn, hc⟩
  | succ f ih =>
    intro n hn c hc
    rw [digs] at hc
    split at hc
    · rename_i h
      rw [List.mem_singleton] at hc
      exact ⟨n, h, hc⟩
    · rw [List.mem_append, List.mem_singleton] at hc
      rcases hc with hc | hc
      · exact ih (n / b) (by rw [Nat.div_lt_iff_lt_mul (by omega)]; rwa [Nat.pow_succ] at hn) c hc
      · exact ⟨n % b, Nat.mod_lt _ (by omega), hc⟩

/-! ### reading words digit by digit -/
def lim (b : Nat) : Nat := if b = 10 then 255 else 65535
abbrev St := List Nat × Option Nat
def stp (b : Nat) (sg : UInt8) (s : St) (c : UInt8) : Option St :=
  if c = sg then (match s.2 with | none => none | some w => some (s.1 ++ [w], none))
  else if b ≤ dval c ∨ s.2 = some 0 then none
  else if lim b < s.2.getD 0 * b + dval c then none else some (s.1, some (s.2.getD 0 * b + dval c))
def run (b : Nat) (sg : UInt8) : St → List UInt8 → Option St
  | s, [] => some s
  | s, c :: l => match stp b sg s c with | none => none | some s' => run b sg s' l
def fin (s : St) : Option (List Nat) := match s.2 with | none => none | some w => some (s.1 ++ [w])
theorem run_append (b : Nat) (sg : UInt8) (s : St) (l k : List UInt8) : run b sg s (l ++ k) = match run b sg s l with | none => none | some s' => run b sg s' k := by
  induction l generalizing s with
  | nil => rfl
  | cons c l ih =>
    rw [List.cons_append, run, run]
    cases stp b sg s c with
    | none => rfl
    | some s' => exact ih s'
theorem run_snoc (b : Nat) (sg : UInt8) (s : St) (l : List UInt8) (c : UInt8) : run b sg s (l ++ [c]) = match run b sg s l with | none => none | some s' => stp b sg s' c := by
  rw [run_append]
  cases run b sg s l with
  | none => rfl
  | some s' =>
    show run b sg s' [c] = stp b sg s' c
    rw [run]
    cases stp b sg s' c with
    | none => rfl
    | some s2 => rfl
/-- the text of some words -/
def txt (b : Nat) (sg : UInt8) (l : List Nat) : List UInt8 := ((l.map fun w => sg :: dg b w).flatten).drop 1
/-- each word with its sign in front -/
def stx (b : Nat) (sg : UInt8) (l : List Nat) : List UInt8 := (l.map fun w => sg :: dg b w).flatten
def wtx (b : Nat) (o : Option Nat) : List UInt8 := match o with | none => [] | some w => dg b w
theorem stx_snoc (b : Nat) (sg : UInt8) (l : List Nat) (w : Nat) : stx b sg (l ++ [w]) = stx b sg l ++ sg :: dg b w := by simp [stx]
theorem dg_small {b n : Nat} (h : n < b) : dg b n = [dch n] := by unfold dg digs; rw [if_pos h]
theorem digs_fuel {b : Nat} (hb : 2 ≤ b) : ∀ (f n : Nat), n < b ^ (f + 1) → digs b (f + 1) n = digs b f n := by
  intro f
  induction f with
  | zero => intro n hn; rw [digs_succ, if_pos (by simpa using hn)]; rfl
  | succ f ih =>
    intro n hn
    rw [digs_succ b (f + 1) n, digs_succ b f n]
    by_cases h : n < b
    · rw [if_pos h, if_pos h]
    · rw [if_neg h, if_neg h, ih (n / b) (by rw [Nat.div_lt_iff_lt_mul (by omega)]; rwa [Nat.pow_succ] at hn)]
theorem dg_step {b w d : Nat} (hb : b = 10 ∨ b = 16) (hw : 0 < w) (hd : d < b) (hl : w * b + d ≤ lim b) : dg b (w * b + d) = dg b w ++ [dch d] := by
  have hb2 : 2 ≤ b := by omega
  have h1 : ¬ w * b + d < b := by have := Nat.mul_le_mul_right b hw; omega
  have h2 : (w * b + d) / b = w := by rw [Nat.mul_comm, Nat.mul_add_div (by omega), Nat.div_eq_of_lt hd]; omega
  have h3 : (w * b + d) % b = d := by rw [Nat.mul_comm, Nat.mul_add_mod, Nat.mod_eq_of_lt hd]
  have h4 : w < b ^ 4 := by
    have : w ≤ lim b := by have := Nat.le_mul_of_pos_right w (show 0 < b by omega); omega
    rcases hb with rfl | rfl <;> (unfold lim at this; simp at this; omega)
  rw [show dg b (w * b + d) = digs b 4 (w * b + d) from rfl, digs, if_neg h1, h2, h3, show dg b w = digs b 4 w from rfl, digs_fuel hb2 3 w h4]
/-- what has been read is the text of the words -/
theorem run_sound (b : Nat) (sg : UInt8) (hb : b = 10 ∨ b = 16) (s : List UInt8) : ∀ st, run b sg ([], none) s = some st → sg :: s = stx b sg st.1 ++ sg :: wtx b st.2 ∧ (∀ w ∈ st.1, w ≤ lim b) ∧ (∀ w, st.2 = some w → w ≤ lim b) := by
  have hrev : ∀ (k : Nat) (s : List UInt8), s.length = k → ∀ st, run b sg ([], none) s = some st → sg :: s = stx b sg st.1 ++ sg :: wtx b st.2 ∧ (∀ w ∈ st.1, w ≤ lim b) ∧ (∀ w, st.2 = some w → w ≤ lim b) := by
    intro k
    induction k with
    | zero =>
      intro s hs st h
      obtain rfl := List.eq_nil_of_length_eq_zero hs
      rw [run] at h
      cases h
      exact ⟨by simp [stx, wtx], by simp, by simp⟩
    | succ k ih =>
      intro s hs st h
      obtain ⟨l, c, rfl⟩ : ∃ l c, s = l ++ [c] := ⟨s.dropLast, s.getLast (by intro e; rw [e] at hs; simp at hs), (List.dropLast_concat_getLast _).symm⟩
      rw [run_snoc] at h
      cases hr : run b sg ([], none) l with
      | none => rw [hr] at h; cases h
      | some s1 =>
        rw [hr] at h
        replace h : stp b sg s1 c = some st := h
        obtain ⟨h1, h2, h3⟩ := ih l (by simpa using hs) s1 hr
        unfold stp at h
        by_cases hc : c = sg
        · rw [if_pos hc] at h
          cases hw : s1.2 with
          | none => rw [hw] at h; cases h
          | some w =>
            rw [hw] at h h1
            simp only [Option.some.injEq] at h
            subst h hc
            refine ⟨?_, ?_, by simp⟩
            · rw [← List.cons_append, h1, stx_snoc]; simp [wtx]
            · intro x hx
              rcases List.mem_append.1 hx with hx | hx
              · exact h2 x hx
              · rw [List.mem_singleton.1 hx]; exact h3 w hw
        · rw [if_neg hc] at h
          by_cases hd : b ≤ dval c ∨ s1.2 = some 0
          · rw [if_pos hd] at h; cases h
          · rw [if_neg hd] at h
            by_cases hl : lim b < s1.2.getD 0 * b + dval c
            · rw [if_pos hl] at h; cases h
            · rw [if_neg hl] at h
              simp only [Option.some.injEq] at h
              subst h
              have hd1 : dval c < b := by omega
              refine ⟨?_, h2, by intro w hw; simp only [Option.some.injEq] at hw; omega⟩
              rw [← List.cons_append, h1]
              have hcc : dch (dval c) = c := dch_dval (by omega)
              cases hw : s1.2 with
              | none =>
                rw [hw] at hl
                simp only [Option.getD_none, Nat.zero_mul, Nat.zero_add, wtx]
                rw [dg_small hd1, hcc]; simp
              | some w =>
                rw [hw] at hl hd
                have hw0 : 0 < w := by
                  rcases Nat.eq_zero_or_pos w with rfl | h
                  · exact absurd (Or.inr rfl) hd
                  · exact h
                simp only [Option.getD_some, wtx] at *
                rw [dg_step hb hw0 hd1 (by omega), hcc]; simp
  exact hrev s.length s rfl
theorem run_digs (b : Nat) (sg : UInt8) (hb : b = 10 ∨ b = 16) (hsg : sg = 46 ∨ sg = 58) (l : List Nat) : ∀ (f w : Nat), w < b ^ (f + 1) → w ≤ lim b → run b sg (l, none) (digs b f w) = some (l, some w) := by
  intro f
  have hone : ∀ (o : Option Nat) (d : Nat), d < b → o ≠ some 0 → o.getD 0 * b + d ≤ lim b → stp b sg (l, o) (dch d) = some (l, some (o.getD 0 * b + d)) := by
    intro o d hd ho hl
    have hd16 : d < 16 := by omega
    have h1 := dch_ne_sign hd16
    have h2 : dch d ≠ sg := by rcases hsg with rfl | rfl <;> simp [h1]
    unfold stp
    rw [if_neg h2, dval_dch hd16, if_neg (by rintro (h | h); (omega); (exact ho h)), if_neg (by show ¬ lim b < o.getD 0 * b + d; omega)]
  induction f with
  | zero =>
    intro w hw hl
    rw [digs, run, hone none w (by simpa using hw) (by simp) (by simpa using hl)]
    simp [run]
  | succ f ih =>
    intro w hw hl
    rw [digs]
    by_cases h : w < b
    · rw [if_pos h, run, hone none w h (by simp) (by simpa using hl)]
      simp [run]
    · have hb0 : 0 < b := by omega
      have hq : 0 < w / b := Nat.div_pos (by omega) hb0
      rw [if_neg h, run_snoc, ih (w / b) (by rw [Nat.div_lt_iff_lt_mul hb0]; rwa [Nat.pow_succ] at hw) (Nat.le_trans (Nat.div_le_self _ _) hl)]
      show stp b sg (l, some (w / b)) (dch (w % b)) = _
      have he : w / b * b + w % b = w := by rw [Nat.mul_comm]; exact Nat.div_add_mod w b
      rw [hone (some (w / b)) (w % b) (Nat.mod_lt _ hb0) (by simp; omega) (by simpa [he] using hl)]
      simp [he]
theorem run_dg (b : Nat) (sg : UInt8) (hb : b = 10 ∨ b = 16) (hsg : sg = 46 ∨ sg = 58) (l : List Nat) (w : Nat) (hl : w ≤ lim b) : run b sg (l, none) (dg b w) = some (l, some w) :=
  run_digs b sg hb hsg l 4 w (by rcases hb with rfl | rfl <;> (unfold lim at hl; simp at hl; omega)) hl
theorem run_stx (b : Nat) (sg : UInt8) (hb : b = 10 ∨ b = 16) (hsg : sg = 46 ∨ sg = 58) (ws : List Nat) (l : List Nat) (w : Nat) (hw : ∀ x ∈ ws, x ≤ lim b) : run b sg (l, some w) (stx b sg ws) = some (((w :: ws).dropLast.foldl (fun a x => a ++ [x]) l), (w :: ws).getLast?) := by
  induction ws generalizing l w with
  | nil => simp [stx, run]
  | cons x ws ih =>
    have h1 : stx b sg (x :: ws) = sg :: (dg b x ++ stx b sg ws) := by simp [stx]
    rw [h1, run]
    have h2 : stp b sg (l, some w) sg = some (l ++ [w], none) := by unfold stp; rw [if_pos rfl]
    rw [h2]
    show run b sg (l ++ [w], none) (dg b x ++ stx b sg ws) = _
    rw [run_append, run_dg b sg hb hsg _ x (hw x (by simp))]
    show run b sg (l ++ [w], some x) (stx b sg ws) = _
    rw [ih (l ++ [w]) x (fun y hy => hw y (List.mem_cons_of_mem _ hy))]
    simp
def words (b : Nat) (sg : UInt8) (s : List UInt8) : Option (List Nat) := match run b sg ([], none) s with | none => none | some st => fin st
theorem foldl_snoc (l k : List Nat) : k.foldl (fun a x => a ++ [x]) l = l ++ k := by
  induction k generalizing l with
  | nil => simp
  | cons x k ih => rw [List.foldl_cons, ih]; simp
theorem words_txt (b : Nat) (sg : UInt8) (hb : b = 10 ∨ b = 16) (hsg : sg = 46 ∨ sg = 58) (ws : List Nat) (hne : ws ≠ []) (hw : ∀ x ∈ ws, x ≤ lim b) : words b sg (txt b sg ws) = some ws := by
  cases ws with
  | nil => exact absurd rfl hne
  | cons w ws =>
    have h1 : txt b sg (w :: ws) = dg b w ++ stx b sg ws := by simp [txt, stx]
    unfold words
    rw [h1, run_append, run_dg b sg hb hsg [] w (hw w (by simp))]
    show (match run b sg ([], some w) (stx b sg ws) with | none => none | some st => fin st) = _
    rw [run_stx b sg hb hsg ws [] w (fun y hy => hw y (List.mem_cons_of_mem _ hy)), foldl_snoc, List.nil_append]
    have h2 : (w :: ws).getLast? = some ((w :: ws).getLast (by simp)) := List.getLast?_eq_some_getLast (by simp)
    rw [h2]
    show some ((w :: ws).dropLast ++ [(w :: ws).getLast (by simp)]) = _
    rw [List.dropLast_concat_getLast]
theorem words_sound (b : Nat) (sg : UInt8) (hb : b = 10 ∨ b = 16) (s : List UInt8) (ws : List Nat) (h : words b sg s = some ws) : s = txt b sg ws ∧ ws ≠ [] ∧ ∀ w ∈ ws, w ≤ lim b := by
  unfold words at h
  cases hr : run b sg ([], none) s with
  | none => rw [hr] at h; cases h
  | some st =>
    rw [hr] at h
    replace h : fin st = some ws := h
    obtain ⟨h1, h2, h3⟩ := run_sound b sg hb s st hr
    unfold fin at h
    cases hw : st.2 with
    | none => rw [hw] at h; cases h
    | some w =>
      rw [hw] at h h1
      simp only [Option.some.injEq] at h
      subst h
      refine ⟨?_, by simp, fun x hx => ?_⟩
      · have h4 : stx b sg (st.1 ++ [w]) = sg :: s := by rw [stx_snoc, h1]; rfl
        show s = (stx b sg (st.1 ++ [w])).drop 1
        rw [h4]; rfl
      · rcases List.mem_append.1 hx with hx | hx
        · exact h2 x hx
        · rw [List.mem_singleton.1 hx]; exact h3 w hw
/-! ### the text of an address -/
def prs : List UInt8 → List Nat
  | a :: b :: l => (256 * a.toNat + b.toNat) :: prs l
  | _ => []
def unp (l : List Nat) : List UInt8 := (l.map fun w => [UInt8.ofNat (w / 256), UInt8.ofNat (w % 256)]).flatten
def isA (t : UInt16) (v : List UInt8) : Prop := t = 5 ∧ v.length = 4 ∨ t = 6 ∧ v.length = 16
def atx (t : UInt16) (v : List UInt8) : List UInt8 := if t = 5 then txt 10 46 (v.map (·.toNat)) else txt 16 58 (prs v)
def bse (s : List UInt8) : Nat := if (58 : UInt8) ∈ s then 16 else 10
def sgn (s : List UInt8) : UInt8 := if (58 : UInt8) ∈ s then 58 else 46
def rdat (b : Nat) (l : List Nat) : List UInt8 := if b = 16 then unp l else l.map UInt8.ofNat
def rp (s : List UInt8) : Option (UInt16 × List UInt8) :=
  match words (bse s) (sgn s) s with
  | none => none
  | some l => if (rdat (bse s) l).length = (if bse s = 16 then 16 else 4) then some (if bse s = 16 then 6 else 5, rdat (bse s) l) else none
theorem unp_length (l : List Nat) : (unp l).length = 2 * l.length := by
  induction l with
  | nil => rfl
  | cons w l ih => unfold unp at *; rw [List.map_cons, List.flatten_cons, List.length_append, ih, List.length_cons]; simp; omega
theorem prs_unp (l : List Nat) (h : ∀ w ∈ l, w ≤ 65535) : prs (unp l) = l := by
  induction l with
  | nil => rfl
  | cons w l ih =>
    have hw := h w (by simp)
    have h1 : unp (w :: l) = UInt8.ofNat (w / 256) :: UInt8.ofNat (w % 256) :: unp l := by simp [unp]
    rw [h1, prs, ih (fun x hx => h x (List.mem_cons_of_mem _ hx)), UInt8.toNat_ofNat', UInt8.toNat_ofNat']
    congr 1; omega
theorem unp_prs : ∀ (k : Nat) (v : List UInt8), v.length = 2 * k → unp (prs v) = v := by
  intro k
  induction k with
  | zero => intro v h; obtain rfl := List.eq_nil_of_length_eq_zero (by simpa using h); rfl
  | succ k ih =>
    intro v h
    match v, h with
    | [], h => simp at h
    | [a], h => simp at h; omega
    | a :: b :: l, h =>
      have ha := a.toNat_lt
      have hb := b.toNat_lt
      have h1 : ∀ w, unp (w :: prs l) = UInt8.ofNat (w / 256) :: UInt8.ofNat (w % 256) :: unp (prs l) := fun w => by simp [unp]
      rw [prs, h1, ih l (by simp at h; omega), show (256 * a.toNat + b.toNat) / 256 = a.toNat by omega, show (256 * a.toNat + b.toNat) % 256 = b.toNat by omega, UInt8.ofNat_toNat, UInt8.ofNat_toNat]
theorem prs_le : ∀ (k : Nat) (v : List UInt8), v.length ≤ k → ∀ w ∈ prs v, w ≤ 65535 := by
  intro k
  induction k with
  | zero => intro v h w hw; obtain rfl := List.eq_nil_of_length_eq_zero (by omega : v.length = 0); simp [prs] at hw
  | succ k ih =>
    intro v h w hw
    match v, h, hw with
    | [], h, hw => simp [prs] at hw
    | [a], h, hw => simp [prs] at hw
    | a :: b :: l, h, hw =>
      have ha := a.toNat_lt
      have hb := b.toNat_lt
      rw [prs, List.mem_cons] at hw
      rcases hw with rfl | hw
      · omega
      · exact ih l (by simp at h; omega) w hw
theorem prs_len : ∀ (k : Nat) (v : List UInt8), v.length = 2 * k → (prs v).length = k := by
  intro k
  induction k with
  | zero => intro v h; obtain rfl := List.eq_nil_of_length_eq_zero (by simpa using h); rfl
  | succ k ih =>
    intro v h
    match v, h with
    | [], h => simp at h
    | [a], h => simp at h; omega
    | a :: b :: l, h => rw [prs, List.length_cons, ih l (by simp at h; omega)]
theorem stx_mem {b : Nat} {sg : UInt8} (hb : 2 ≤ b) (hb2 : b ≤ 16) (ws : List Nat) (hw : ∀ w ∈ ws, w < b ^ 5) : ∀ c ∈ stx b sg ws, c = sg ∨ ∃ d, d < b ∧ c = dch d := by
  intro c hc
  unfold stx at hc
  rw [List.mem_flatten] at hc
  obtain ⟨l, hl, hc⟩ := hc
  rw [List.mem_map] at hl
  obtain ⟨w, hw1, rfl⟩ := hl
  rcases List.mem_cons.1 hc with rfl | hc
  · exact .inl rfl
  · exact .inr (digs_chars hb hb2 4 w (hw w hw1) c hc)
theorem txt_mem {b : Nat} {sg : UInt8} (hb : 2 ≤ b) (hb2 : b ≤ 16) (ws : List Nat) (hw : ∀ w ∈ ws, w < b ^ 5) : ∀ c ∈ txt b sg ws, c = sg ∨ ∃ d, d < b ∧ c = dch d :=
  fun c hc => stx_mem hb hb2 ws hw c (List.mem_of_mem_drop hc)
theorem colon_txt {ws : List Nat} (h : 2 ≤ ws.length) : (58 : UInt8) ∈ txt 16 58 ws := by
  match ws, h with
  | a :: b :: l, _ => simp [txt]
theorem no_colon_txt (ws : List Nat) (hw : ∀ w ∈ ws, w ≤ 255) : (58 : UInt8) ∉ txt 10 46 ws := by
  intro h
  rcases txt_mem (by omega) (by omega) ws (fun w h => by have := hw w h; omega) 58 h with h1 | ⟨d, hd, h1⟩
  · exact absurd h1 (by decide)
  · exact (dch_ne_sign (by omega : d < 16)).2 h1.symm
theorem rp_sound {s : List UInt8} {t : UInt16} {v : List UInt8} (h : rp s = some (t, v)) : isA t v ∧ s = atx t v := by
  unfold rp at h
  by_cases hc : (58 : UInt8) ∈ s
  · have hb : bse s = 16 := if_pos hc
    have hs : sgn s = 58 := if_pos hc
    rw [hb, hs] at h
    cases hw : words 16 58 s with
    | none => rw [hw] at h; cases h
    | some l =>
      rw [hw] at h
      obtain ⟨h1, h2, h3⟩ := words_sound 16 58 (.inr rfl) s l hw
      simp only [if_true] at h
      split at h
      · rename_i hlen
        simp only [Option.some.injEq, Prod.mk.injEq] at h
        obtain ⟨rfl, rfl⟩ := h
        refine ⟨.inr ⟨rfl, hlen⟩, ?_⟩
        unfold atx rdat
        rw [if_neg (by decide), if_pos rfl, prs_unp l (fun w hw => h3 w hw)]
        exact h1
      · cases h
  · have hb : bse s = 10 := if_neg hc
    have hs : sgn s = 46 := if_neg hc
    rw [hb, hs] at h
    cases hw : words 10 46 s with
    | none => rw [hw] at h; cases h
    | some l =>
      rw [hw] at h
      obtain ⟨h1, h2, h3⟩ := words_sound 10 46 (.inl rfl) s l hw
      simp only [show ¬ (10 = 16) by decide, if_false] at h
      split at h
      · rename_i hlen
        simp only [Option.some.injEq, Prod.mk.injEq] at h
        obtain ⟨rfl, rfl⟩ := h
        refine ⟨.inl ⟨rfl, hlen⟩, ?_⟩
        unfold atx rdat
        rw [if_pos rfl, if_neg (by decide), List.map_map]
        have h4 : l.map ((fun x : UInt8 => x.toNat) ∘ UInt8.ofNat) = l := by
          have : l.map ((fun x : UInt8 => x.toNat) ∘ UInt8.ofNat) = l.map id := List.map_congr_left fun w hw => by
            have h5 : w ≤ 255 := h3 w hw
            show (UInt8.ofNat w).toNat = w
            rw [UInt8.toNat_ofNat']; omega
          rw [this, List.map_id]
        rw [h4]
        exact h1
      · cases h
theorem rp_atx {t : UInt16} {v : List UInt8} (h : isA t v) : rp (atx t v) = some (t, v) := by
  rcases h with ⟨rfl, hv⟩ | ⟨rfl, hv⟩
  · have hle : ∀ w ∈ v.map (fun x : UInt8 => x.toNat), w ≤ 255 := by
      intro w hw
      obtain ⟨x, _, rfl⟩ := List.mem_map.1 hw
      have := x.toNat_lt; omega
    have ha : atx 5 v = txt 10 46 (v.map (·.toNat)) := if_pos rfl
    have hc : (58 : UInt8) ∉ atx 5 v := by rw [ha]; exact no_colon_txt _ hle
    have hb : bse (atx 5 v) = 10 := if_neg hc
    have hs : sgn (atx 5 v) = 46 := if_neg hc
    have hne : v.map (fun x : UInt8 => x.toNat) ≠ [] := fun e => by rw [List.map_eq_nil_iff] at e; rw [e] at hv; simp at hv
    have hid : (v.map (fun x : UInt8 => x.toNat)).map UInt8.ofNat = v := by
      rw [List.map_map]
      conv => rhs; rw [← List.map_id v]
      exact List.map_congr_left fun x _ => UInt8.ofNat_toNat
    unfold rp
    rw [hb, hs, ha, words_txt 10 46 (.inl rfl) (.inl rfl) _ hne hle]
    simp [rdat, hid, hv]
  · have hle := prs_le v.length v (Nat.le_refl _)
    have hl := prs_len 8 v (by omega)
    have ha : atx 6 v = txt 16 58 (prs v) := if_neg (by decide)
    have hc : (58 : UInt8) ∈ atx 6 v := by rw [ha]; exact colon_txt (by omega)
    have hb : bse (atx 6 v) = 16 := if_pos hc
    have hs : sgn (atx 6 v) = 58 := if_pos hc
    unfold rp
    rw [hb, hs, ha, words_txt 16 58 (.inr rfl) (.inr rfl) _ (fun e => by rw [e] at hl; simp at hl) hle]
    simp [rdat, unp_prs 8 v (by omega), hv]
end Go.Proofs.YtemeeeiglifpaaaDoor

/- Layer 9: the two notations; which of them a node is an address of. They write nothing that was there. -/


namespace Go.Proofs.YtemeeeiglifpaaaDoor
open Go.RowKit Go.Shelf

/-- a notation as a value -/
abbrev ntV (t : UInt16) (s x y : Nat) (m : ByteArray) : Value := .agg #[hv t, .int .i64 (s : Int), .int .i64 (x : Int), .int .i64 (y : Int), .string m]
def fitA (t : UInt16) (s : Nat) (n : Nd) : Bool := decide (n.t = t) && decide (n.v.length = s) && decide (n.ks.length = 0)
set_option maxRecDepth 100000 in
set_option maxHeartbeats 1000000 in
theorem fits_nt (t : UInt16) (s x y : Nat) (m : ByteArray) (n : Nd) (A : Option Addr) (c : Nat) (K : Option Addr) (k : Nat) (w : World) (_hs : s ≤ 16) (_hl : n.v.length ≤ 9223372036854775807) (_hk : n.ks.length ≤ 9223372036854775807) :
    Calls Tryd.prog 36 #[ntV t s x y m, ndV n A c K k] w fun e w' => e = .returned (.bool (fitA t s n)) ∧ Below w.heap.size w w' := by
  unfold ntV ndV fitA
  by_cases h1 : n.t = t
  · rw [decide_eq_true h1]
    subst h1
    by_cases h2 : n.v.length = s
    · rw [decide_eq_true h2]
      subst h2
      by_cases h3 : n.ks.length = 0
      · rw [decide_eq_true h3, h3]
        go_enter Tryd.func36, Tryd.ntmps36
        go_wp2_with fail
        go_ret
        exact ⟨rfl, ((Below.refl _ w).alloc (Nat.le_refl _) _).alloc (by simp) _⟩
      · rw [decide_eq_false h3]
        have h4 : ¬ (n.ks.length : Int) = 0 := by omega
        have h5 : ¬ n.ks = [] := fun e => h3 (by rw [e]; rfl)
        go_enter Tryd.func36, Tryd.ntmps36
        go_wp2_with fail
        go_ret
        exact ⟨by simp [*], ((Below.refl _ w).alloc (Nat.le_refl _) _).alloc (by simp) _⟩
    · rw [decide_eq_false h2]
      have h4 : ¬ (n.v.length : Int) = (s : Int) := by omega
      go_enter Tryd.func36, Tryd.ntmps36
      go_wp2_with fail
      go_ret
      exact ⟨by simp [*], ((Below.refl _ w).alloc (Nat.le_refl _) _).alloc (by simp) _⟩
  · rw [decide_eq_false h1]
    have h4 : ¬ (n.t.toNat : Int) = (t.toNat : Int) := fun e => h1 (UInt16.toNat_inj.1 (by omega))
    go_enter Tryd.func36, Tryd.ntmps36
    go_wp2_with fail
    go_ret
    exact ⟨by simp [*], ((Below.refl _ w).alloc (Nat.le_refl _) _).alloc (by simp) _⟩
/-! ### the table -/
/-- what the program's table holds -/
def Tbl (w : World) : Prop := ∀ (j : Nat) (v : Value), [hv 5, .int .i64 4, .int .i64 1, .int .i64 10, .string ⟨#[46]⟩, hv 6, .int .i64 16, .int .i64 2, .int .i64 16, .string ⟨#[58]⟩][j]? = some v → w.cell? ⟨0, j, none⟩ = some v
theorem Tbl.lt {w : World} (h : Tbl w) : 0 < w.heap.size := by
  have h0 := h 0 _ rfl
  rcases Nat.lt_or_ge 0 w.heap.size with h1 | h1
  · exact h1
  · unfold World.cell? at h0
    rw [Array.getElem?_eq_none h1] at h0
    simp at h0
theorem Tbl.below {w w' : World} (h : Tbl w) (hb : Below w.heap.size w w') : Tbl w' := fun j v hj => (hb.cell (p := ⟨0, j, none⟩) h.lt).trans (h j v hj)
/-- which notation a node is an address of: 2 for none -/
def nof (n : Nd) : Nat := if fitA 5 4 n then 0 else if fitA 6 16 n then 1 else 2
abbrev nt5 : Value := ntV 5 4 1 10 ⟨#[46]⟩
abbrev nt6 : Value := ntV 6 16 2 16 ⟨#[58]⟩
end Go.Proofs.YtemeeeiglifpaaaDoor

/- Layer 9: the notation of an address (notationOf), whether a node is one (isAddress), the address of bytes (Of). They write nothing that was there. -/


namespace Go.Proofs.YtemeeeiglifpaaaDoor
open Go.RowKit Go.Shelf

/-! ### a notation in one piece -/
section
variable {P : Program} {ops : Array Oper} {rest : List Oper} {o : Oper} {a : Act} {w : World} {Q : Exit → Act → World → Prop} {t : Int} {s x y : Int} {m : ByteArray}
theorem wpList_load_nt (hgd : o.guard = none) (T : TypeId) (p : Operand) (ho : o.op = .load T p)
    (g : Nat) (hp : a.eval p = .pointer (some ⟨g, 0, none⟩)) (tt : TypeId) (hc : Whole w g tt #[.int .u16 t, .int .i64 s, .int .i64 x, .int .i64 y, .string m]) (d : TypeDesc)
    (hu : P.underlying T = some d) (hd : (match d with | .struct _ | .array _ _ => true | _ => false) = true) (hi : (P.info? T).map (·.size) = some 5)
    (h : wpList P ops Q rest (a.put o.dst (.agg #[.int .u16 t, .int .i64 s, .int .i64 x, .int .i64 y, .string m])) w) : wpList P ops Q (o :: rest) a w :=
  wpList_load_lies hgd T p ho ⟨g, 0, none⟩ hp [.int .u16 t, .int .i64 s, .int .i64 x, .int .i64 y, .string m] (fun j u hu => by rw [add_row, hc.cell]; simpa using hu) d hu hd hi h
theorem wpList_store_nt (hgd : o.guard = none) (T : TypeId) (p q : Operand) (ho : o.op = .store T p q)
    (g : Nat) (hp : a.eval p = .pointer (some ⟨g, 0, none⟩)) (hq : a.eval q = .agg #[.int .u16 t, .int .i64 s, .int .i64 x, .int .i64 y, .string m])
    (tt : TypeId) (old : Array Value) (hg : w.heap[g]? = some (.cells old tt (0, 0))) (hi : (P.info? T).map (·.size) = some 5) (hold : old.size = 5)
    (h : wpList P ops Q rest (a.put o.dst undef) (w.setRow g #[.int .u16 t, .int .i64 s, .int .i64 x, .int .i64 y, .string m])) : wpList P ops Q (o :: rest) a w :=
  wpList_store_row hgd T p q ho g _ hp hq tt old hg hi hold (by simp [Value.oneCell']) h
theorem wpList_new_nt (hgd : o.guard = none) (T : TypeId) (p q : Operand) (ho : o.op = .store T p q)
    (w0 : World) (old : Array Value) (tt : TypeId) (hw : w = w0.alloc (.cells old tt)) (hp : a.eval p = .pointer (some ⟨w0.heap.size, 0, none⟩)) (hq : a.eval q = .agg #[.int .u16 t, .int .i64 s, .int .i64 x, .int .i64 y, .string m])
    (hi : (P.info? T).map (·.size) = some 5) (hold : old.size = 5)
    (h : wpList P ops Q rest (a.put o.dst undef) (w0.alloc (.cells #[.int .u16 t, .int .i64 s, .int .i64 x, .int .i64 y, .string m] tt))) : wpList P ops Q (o :: rest) a w :=
  wpList_store_new hgd T p q ho w0 old tt hw _ hp hq hi hold (by simp [Value.oneCell']) h
end
abbrev znt : Array Value := #[.int .u16 0, .int .i64 0, .int .i64 0, .int .i64 0, .string ⟨#[]⟩]
theorem idx_nt0 (w : World) : (Instr.index 45 (.agg #[hv 5, .int .i64 4, .int .i64 1, .int .i64 10, .string ⟨#[46]⟩, hv 6, .int .i64 16, .int .i64 2, .int .i64 16, .string ⟨#[58]⟩]) (.int .i64 0)).run Tryd.prog w = .ok (.agg #[hv 5, .int .i64 4, .int .i64 1, .int .i64 10, .string ⟨#[46]⟩]) w := by kernel_rfl
theorem idx_nt1 (w : World) : (Instr.index 45 (.agg #[hv 5, .int .i64 4, .int .i64 1, .int .i64 10, .string ⟨#[46]⟩, hv 6, .int .i64 16, .int .i64 2, .int .i64 16, .string ⟨#[58]⟩]) (.int .i64 1)).run Tryd.prog w = .ok (.agg #[hv 6, .int .i64 16, .int .i64 2, .int .i64 16, .string ⟨#[58]⟩]) w := by kernel_rfl
attribute [local go_sem, local simp] idx_nt0 idx_nt1
/-- what notationOf returns -/
def notV : Nat → Value
  | 0 => .tuple #[nt5, .bool true]
  | 1 => .tuple #[nt6, .bool true]
  | _ => .tuple #[.agg znt, .bool false]
set_option maxRecDepth 100000 in
set_option maxHeartbeats 2000000 in
theorem not_any (n : Nd) (A : Option Addr) (c : Nat) (K : Option Addr) (k : Nat) (w : World) (hT : Tbl w) (hl : n.v.length ≤ 9223372036854775807) (hk : n.ks.length ≤ 9223372036854775807) :
    Calls Tryd.prog 23 #[ndV n A c K k] w fun e w' => e = .returned (notV (nof n)) ∧ Below w.heap.size w w' := by
  have b0 : Below w.heap.size w ((w.alloc (.cells #[hv n.t, .slice A n.v.length c, .slice K n.ks.length k] 27)).alloc (.cells znt 44)) := ((Below.refl _ w).alloc (Nat.le_refl _) _).alloc (by simp) _
  have x0 := (Whole.new w 27 #[hv n.t, .slice A n.v.length c, .slice K n.ks.length k]).alloc (.cells znt 44)
  have x1 := Whole.new (w.alloc (.cells #[hv n.t, .slice A n.v.length c, .slice K n.ks.length k] 27)) 44 znt
  simp only [World.size_alloc] at x1
  have hsz : ((w.alloc (.cells #[hv n.t, .slice A n.v.length c, .slice K n.ks.length k] 27)).alloc (.cells znt 44)).heap.size = w.heap.size + 1 + 1 := by simp
  have hT2 := hT.below b0
  have U0 := hT 0 _ rfl
  have U1 := hT 1 _ rfl
  have U2 := hT 2 _ rfl
  have U3 := hT 3 _ rfl
  have U4 := hT 4 _ rfl
  have U5 := hT 5 _ rfl
  have U6 := hT 6 _ rfl
  have U7 := hT 7 _ rfl
  have U8 := hT 8 _ rfl
  have U9 := hT 9 _ rfl
  have hT0 := hT.lt
  have HB := Lib.hid b0
  clear b0 hT hT2
  unfold ndV
  go_enter Tryd.func23, Tryd.ntmps23
  go_wp2_with fail
  generalize (w.alloc (.cells #[hv n.t, .slice A n.v.length c, .slice K n.ks.length k] 27)).alloc (.cells znt 44) = w0 at *
  go_loopw [7] (fun i wr => ∃ q : Nat, q ≤ 2 ∧ i = .int .i64 q ∧ Hid ((1 ≤ q → fitA 5 4 n = false) ∧ (2 ≤ q → fitA 6 16 n = false)) ∧ Below w0.heap.size w0 wr) (fun i _ => 2 - (intOf i).toNat)
  case atStart => exact ⟨0, by omega, rfl, ⟨fun h => absurd h (by omega), fun h => absurd h (by omega)⟩, Below.refl _ _⟩
  case round =>
    obtain ⟨q, hq, rfl, hno, hbel⟩ := hrel
    have z0 := x0.below hbel (by omega)
    have z1 := x1.below hbel (by omega)
    have hsr := hbel.size
    have p0 : wr.cell? ⟨w.heap.size, 0, none⟩ = some (hv n.t) := by rw [z0.cell]; rfl
    have p1 : wr.cell? ⟨w.heap.size, 1, none⟩ = some (.slice A n.v.length c) := by rw [z0.cell]; rfl
    have p2 : wr.cell? ⟨w.heap.size, 2, none⟩ = some (.slice K n.ks.length k) := by rw [z0.cell]; rfl
    have HBW := Lib.hid (HB.out.trans (hbel.mono (by omega)))
    match q, hq with
    | 2, _ =>
      obtain ⟨h5, h6⟩ := hno.out
      have hn2 : nof n = 2 := by unfold nof; rw [h5 (by omega), h6 (by omega)]; rfl
      have hN := Lib.hid hn2
      clear hno h5 h6 hn2
      go_wp2_with (first | (refine wpList_store_nt rfl 44 _ _ rfl (w.heap.size + 1) rfl rfl _ _ z1 (by kernel_rfl) rfl ?_))
      (try simp only [Exit.inBlock, Exit.then])
      refine bodyPost_ret (results_row_tmp rfl _ _ (w.heap.size + 1) 44 _ _ rfl (z1.setRow _) Tryd.underlying44 rfl (by kernel_rfl)) rfl ?_
      exact ⟨by rw [hN.out]; rfl, below_setRow HBW.out (Nat.le_add_right _ _) _⟩
    | 0, _ =>
      have bn : Below wr.heap.size wr (wr.alloc (.cells #[.int .u16 5, .int .i64 4, .int .i64 1, .int .i64 10, .string ⟨#[46]⟩] 44)) := (Below.refl _ _).alloc (Nat.le_refl _) _
      have hF := fits_nt 5 4 1 10 ⟨#[46]⟩ n A c K k (wr.alloc (.cells #[.int .u16 5, .int .i64 4, .int .i64 1, .int .i64 10, .string ⟨#[46]⟩] 44)) (by omega) hl hk
      have y0 := Whole.new wr 44 #[.int .u16 5, .int .i64 4, .int .i64 1, .int .i64 10, .string ⟨#[46]⟩]
      have y1 := z0.below bn (by omega)
      have r0 : (wr.alloc (.cells #[.int .u16 5, .int .i64 4, .int .i64 1, .int .i64 10, .string ⟨#[46]⟩] 44)).cell? ⟨w.heap.size, 0, none⟩ = some (hv n.t) := by rw [y1.cell]; rfl
      have r1 : (wr.alloc (.cells #[.int .u16 5, .int .i64 4, .int .i64 1, .int .i64 10, .string ⟨#[46]⟩] 44)).cell? ⟨w.heap.size, 1, none⟩ = some (.slice A n.v.length c) := by rw [y1.cell]; rfl
      have r2 : (wr.alloc (.cells #[.int .u16 5, .int .i64 4, .int .i64 1, .int .i64 10, .string ⟨#[46]⟩] 44)).cell? ⟨w.heap.size, 2, none⟩ = some (.slice K n.ks.length k) := by rw [y1.cell]; rfl
      have hsn : (wr.alloc (.cells #[.int .u16 5, .int .i64 4, .int .i64 1, .int .i64 10, .string ⟨#[46]⟩] 44)).heap.size = wr.heap.size + 1 := by simp
      cases hf : fitA 5 4 n with
      | false =>
        rw [hf] at hF
        have HNO : Hid ((1 ≤ 0 + 1 → fitA 5 4 n = false) ∧ (2 ≤ 0 + 1 → fitA 6 16 n = false)) := ⟨fun _ => hf, fun h => absurd h (by omega)⟩
        clear hf hno
        go_wp2_with (first | (refine wpList_new_nt rfl 44 _ _ rfl wr _ _ rfl rfl rfl (by kernel_rfl) rfl ?_))
        refine hF.mono ?_
        rintro e w2 ⟨rfl, b2⟩
        go_wp2_with fail
        go_roundw
        case rel => exact ⟨0 + 1, by omega, by go_num, (by obtain ⟨ha, hb⟩ := HNO.out; exact ⟨fun h => by first | trivial | exact ha h, fun h => by first | trivial | exact hb h⟩), hbel.trans ((bn.trans (b2.mono bn.size)).mono hbel.size)⟩
        case measure => simp [intOf]
      | true =>
        rw [hf] at hF
        have hn2 : nof n = 0 := by unfold nof; rw [hf]; rfl
        have hN := Lib.hid hn2
        clear hno hf hn2
        go_wp2_with (first | (refine wpList_new_nt rfl 44 _ _ rfl wr _ _ rfl rfl rfl (by kernel_rfl) rfl ?_))
        refine hF.mono ?_
        rintro e w2 ⟨rfl, b2⟩
        have u0 := y0.below b2 (by omega)
        have u1 := z1.below (bn.trans (b2.mono bn.size)) (by omega)
        have hfin := HBW.out.trans ((bn.trans (b2.mono bn.size)).mono HBW.out.size)
        go_wp2_with (first | (refine wpList_load_nt rfl 44 _ rfl wr.heap.size rfl _ u0 _ Tryd.underlying44 rfl (by kernel_rfl) ?_) | (refine wpList_store_nt rfl 44 _ _ rfl (w.heap.size + 1) rfl rfl _ _ u1 (by kernel_rfl) rfl ?_))
        (try simp only [Exit.inBlock, Exit.then])
        refine bodyPost_ret (results_row_tmp rfl _ _ (w.heap.size + 1) 44 _ _ rfl (u1.setRow _) Tryd.underlying44 rfl (by kernel_rfl)) rfl ?_
        exact ⟨by rw [hN.out]; rfl, below_setRow hfin (Nat.le_add_right _ _) _⟩
    | 1, _ =>
      have bn : Below wr.heap.size wr (wr.alloc (.cells #[.int .u16 6, .int .i64 16, .int .i64 2, .int .i64 16, .string ⟨#[58]⟩] 44)) := (Below.refl _ _).alloc (Nat.le_refl _) _
      have hF := fits_nt 6 16 2 16 ⟨#[58]⟩ n A c K k (wr.alloc (.cells #[.int .u16 6, .int .i64 16, .int .i64 2, .int .i64 16, .string ⟨#[58]⟩] 44)) (by omega) hl hk
      have y0 := Whole.new wr 44 #[.int .u16 6, .int .i64 16, .int .i64 2, .int .i64 16, .string ⟨#[58]⟩]
      have y1 := z0.below bn (by omega)
      have r0 : (wr.alloc (.cells #[.int .u16 6, .int .i64 16, .int .i64 2, .int .i64 16, .string ⟨#[58]⟩] 44)).cell? ⟨w.heap.size, 0, none⟩ = some (hv n.t) := by rw [y1.cell]; rfl
      have r1 : (wr.alloc (.cells #[.int .u16 6, .int .i64 16, .int .i64 2, .int .i64 16, .string ⟨#[58]⟩] 44)).cell? ⟨w.heap.size, 1, none⟩ = some (.slice A n.v.length c) := by rw [y1.cell]; rfl
      have r2 : (wr.alloc (.cells #[.int .u16 6, .int .i64 16, .int .i64 2, .int .i64 16, .string ⟨#[58]⟩] 44)).cell? ⟨w.heap.size, 2, none⟩ = some (.slice K n.ks.length k) := by rw [y1.cell]; rfl
      have hsn : (wr.alloc (.cells #[.int .u16 6, .int .i64 16, .int .i64 2, .int .i64 16, .string ⟨#[58]⟩] 44)).heap.size = wr.heap.size + 1 := by simp
      cases hf : fitA 6 16 n with
      | false =>
        rw [hf] at hF
        have HNO : Hid ((1 ≤ 1 + 1 → fitA 5 4 n = false) ∧ (2 ≤ 1 + 1 → fitA 6 16 n = false)) := ⟨fun _ => hno.out.1 (by omega), fun _ => hf⟩
        clear hf hno
        go_wp2_with (first | (refine wpList_new_nt rfl 44 _ _ rfl wr _ _ rfl rfl rfl (by kernel_rfl) rfl ?_))
        refine hF.mono ?_
        rintro e w2 ⟨rfl, b2⟩
        go_wp2_with fail
        go_roundw
        case rel => exact ⟨1 + 1, by omega, by go_num, (by obtain ⟨ha, hb⟩ := HNO.out; exact ⟨fun h => by first | trivial | exact ha h, fun h => by first | trivial | exact hb h⟩), hbel.trans ((bn.trans (b2.mono bn.size)).mono hbel.size)⟩
        case measure => simp [intOf]
      | true =>
        rw [hf] at hF
        have hn2 : nof n = 1 := by unfold nof; rw [hno.out.1 (by omega), hf]; rfl
        have hN := Lib.hid hn2
        clear hno hf hn2
        go_wp2_with (first | (refine wpList_new_nt rfl 44 _ _ rfl wr _ _ rfl rfl rfl (by kernel_rfl) rfl ?_))
        refine hF.mono ?_
        rintro e w2 ⟨rfl, b2⟩
        have u0 := y0.below b2 (by omega)
        have u1 := z1.below (bn.trans (b2.mono bn.size)) (by omega)
        have hfin := HBW.out.trans ((bn.trans (b2.mono bn.size)).mono HBW.out.size)
        go_wp2_with (first | (refine wpList_load_nt rfl 44 _ rfl wr.heap.size rfl _ u0 _ Tryd.underlying44 rfl (by kernel_rfl) ?_) | (refine wpList_store_nt rfl 44 _ _ rfl (w.heap.size + 1) rfl rfl _ _ u1 (by kernel_rfl) rfl ?_))
        (try simp only [Exit.inBlock, Exit.then])
        refine bodyPost_ret (results_row_tmp rfl _ _ (w.heap.size + 1) 44 _ _ rfl (u1.setRow _) Tryd.underlying44 rfl (by kernel_rfl)) rfl ?_
        exact ⟨by rw [hN.out]; rfl, below_setRow hfin (Nat.le_add_right _ _) _⟩
end Go.Proofs.YtemeeeiglifpaaaDoor

/- Layer 9: whether a node is an address (isAddress), the class inside (inside), the address of bytes (Of). They write nothing that was there. -/

namespace Go.Proofs.YtemeeeiglifpaaaDoor
open Go.RowKit Go.Shelf
attribute [local go_sem, local simp] idx_nt0 idx_nt1

set_option maxHeartbeats 1000000 in
theorem isA_any (n : Nd) (A : Option Addr) (c : Nat) (K : Option Addr) (k : Nat) (w : World) (hT : Tbl w) (hl : n.v.length ≤ 9223372036854775807) (hk : n.ks.length ≤ 9223372036854775807) :
    Calls Tryd.prog 39 #[ndV n A c K k] w fun e w' => e = .returned (.bool (decide (nof n < 2))) ∧ Below w.heap.size w w' := by
  have b0 : Below w.heap.size w (w.alloc (.cells #[hv n.t, .slice A n.v.length c, .slice K n.ks.length k] 27)) := (Below.refl _ w).alloc (Nat.le_refl _) _
  have hN := not_any n A c K k _ (hT.below b0) hl hk
  have HB := Lib.hid b0
  unfold ndV at *
  have h3 : nof n = 0 ∨ nof n = 1 ∨ nof n = 2 := by unfold nof; split; (simp); (split <;> simp)
  rcases h3 with h3 | h3 | h3
  all_goals
    rw [h3] at hN ⊢
    simp only [notV] at hN
    clear h3 b0
    go_enter Tryd.func39, Tryd.ntmps39
    go_wp2_with fail
    refine hN.mono ?_
    rintro e w1 ⟨rfl, b1⟩
    have hfin := (HB.out.trans (b1.mono HB.out.size))
    have hfin2 := hfin.size
    go_wp2_with (first | (refine wpList_new_nt rfl 44 _ _ rfl w1 _ _ rfl rfl rfl (by kernel_rfl) rfl ?_))
    go_ret
    exact ⟨rfl, hfin.alloc hfin2 _⟩
theorem insideA_any (t : UInt16) (w : World) : Calls Tryd.prog 40 #[.int .i64 1, hv t] w fun e w' => e = .returned (.int .i64 (if t = 49155 then 2 else 1)) ∧ w = w' := by
  by_cases h : t = 49155
  · rw [if_pos h]
    subst h
    go_enter Tryd.func40, Tryd.ntmps40
    go_wp2_with fail
    go_ret
    exact ⟨rfl, rfl⟩
  · rw [if_neg h]
    have h1 : ¬ (t.toNat : Int) = 49155 := fun e => h (UInt16.toNat_inj.1 (by show t.toNat = 49155; omega))
    go_enter Tryd.func40, Tryd.ntmps40
    go_wp2_with fail
    go_ret
    exact ⟨rfl, rfl⟩
/-- the node of an address of so many bytes -/
def ofN (l : List UInt8) : Nd := .mk (if l.length = 4 then 5 else 6) l []
abbrev znd : Value := .agg #[.int .u16 0, .slice none 0 0, .slice none 0 0]
def OfR (w : World) (l : List UInt8) (e : Ending) (w' : World) : Prop := Below w.heap.size w w' ∧
  (((l.length = 4 ∨ l.length = 16) ∧ ∃ A' c', e = .returned (.tuple #[ndV (ofN l) A' c' none 0, .bool true]) ∧ Node w' w'.heap.size A' c' none 0 (ofN l) ∧ ∀ ad, A' = some ad → w.heap.size < ad.block) ∨ (¬ (l.length = 4 ∨ l.length = 16) ∧ e = .returned (.tuple #[znd, .bool false])))
set_option maxRecDepth 100000 in
set_option maxHeartbeats 2000000 in
theorem of_bytes (A : Option Addr) (c : Nat) (l : List UInt8) (w : World) (hT : Tbl w) (h : Lies w w.heap.size A (l.map bv)) (hc : l.length ≤ c) (hm : c ≤ maxLen) (hn : l.length ≤ 140737488355328) :
    Calls Tryd.prog 15 #[.slice A l.length c] w (OfR w l) := by
  have b0 : Below w.heap.size w (w.alloc (.cells #[.int .u16 0, .slice none 0 0, .slice none 0 0] 27)) := (Below.refl _ w).alloc (Nat.le_refl _) _
  have x1 := Whole.new w 27 #[.int .u16 0, .slice none 0 0, .slice none 0 0]
  have hsz : (w.alloc (.cells #[.int .u16 0, .slice none 0 0, .slice none 0 0] 27)).heap.size = w.heap.size + 1 := by simp
  have U0 := hT 0 _ rfl
  have U1 := hT 1 _ rfl
  have U2 := hT 2 _ rfl
  have U3 := hT 3 _ rfl
  have U4 := hT 4 _ rfl
  have U5 := hT 5 _ rfl
  have U6 := hT 6 _ rfl
  have U7 := hT 7 _ rfl
  have U8 := hT 8 _ rfl
  have U9 := hT 9 _ rfl
  have hT0 := hT.lt
  have HB := Lib.hid b0
  have hl0 := (h.below b0).more b0.size
  clear b0 hT h
  go_enter Tryd.func15, Tryd.ntmps15
  go_wp2_with fail
  generalize w.alloc (.cells #[.int .u16 0, .slice none 0 0, .slice none 0 0] 27) = w0 at *
  go_loopw [7] (fun i wr => ∃ q : Nat, q ≤ 2 ∧ i = .int .i64 q ∧ Hid ((1 ≤ q → l.length ≠ 4) ∧ (2 ≤ q → l.length ≠ 16)) ∧ Below w0.heap.size w0 wr) (fun i _ => 2 - (intOf i).toNat)
  case atStart => exact ⟨0, by omega, rfl, ⟨fun h => absurd h (by omega), fun h => absurd h (by omega)⟩, Below.refl _ _⟩
  case round =>
    obtain ⟨q, hq, rfl, hno, hbel⟩ := hrel
    have z1 := x1.below hbel (by omega)
    have hsr := hbel.size
    have hlr := (hl0.below hbel).more hsr
    have HBW := Lib.hid (HB.out.trans (hbel.mono (by omega)))
    match q, hq with
    | 2, _ =>
      have HN := Lib.hid (show ¬ (l.length = 4 ∨ l.length = 16) from fun h => by rcases h with h | h; (exact hno.out.1 (by omega) h); (exact hno.out.2 (by omega) h))
      have c0 : wr.cell? ⟨w.heap.size, 0, none⟩ = some (.int .u16 0) := by rw [z1.cell]; rfl
      have c1 : wr.cell? ⟨w.heap.size, 1, none⟩ = some (.slice none 0 0) := by rw [z1.cell]; rfl
      have c2 : wr.cell? ⟨w.heap.size, 2, none⟩ = some (.slice none 0 0) := by rw [z1.cell]; rfl
      clear hno
      go_wp2_with (first | (at_builtin; fail) | (refine wpList_store_row rfl 27 _ _ rfl w.heap.size #[.int .u16 0, .slice none 0 0, .slice none 0 0] rfl rfl _ _ z1 (by kernel_rfl) rfl (by simp [Value.oneCell']) ?_))
      (try simp only [Exit.inBlock, Exit.then])
      refine bodyPost_ret (results_row_tmp rfl _ _ w.heap.size 27 _ _ rfl (z1.setRow _) Tryd.underlying27 rfl (by kernel_rfl)) rfl ?_
      exact ⟨below_setRow HBW.out (Nat.le_refl _) _, .inr ⟨HN.out, rfl⟩⟩
    | 0, _ =>
      have bn : Below wr.heap.size wr (wr.alloc (.cells #[.int .u16 5, .int .i64 4, .int .i64 1, .int .i64 10, .string ⟨#[46]⟩] 44)) := (Below.refl _ _).alloc (Nat.le_refl _) _
      have y0 := Whole.new wr 44 #[.int .u16 5, .int .i64 4, .int .i64 1, .int .i64 10, .string ⟨#[46]⟩]
      have r0 : (wr.alloc (.cells #[.int .u16 5, .int .i64 4, .int .i64 1, .int .i64 10, .string ⟨#[46]⟩] 44)).cell? ⟨wr.heap.size, 0, none⟩ = some (.int .u16 5) := by rw [y0.cell]; rfl
      have r1 : (wr.alloc (.cells #[.int .u16 5, .int .i64 4, .int .i64 1, .int .i64 10, .string ⟨#[46]⟩] 44)).cell? ⟨wr.heap.size, 1, none⟩ = some (.int .i64 4) := by rw [y0.cell]; rfl
      by_cases hf : l.length = 4
      · have hL := Lib.hid hf
        have hf1 : (l.length : Int) = 4 := by omega
        have hsn : (wr.alloc (.cells #[.int .u16 5, .int .i64 4, .int .i64 1, .int .i64 10, .string ⟨#[46]⟩] 44)).heap.size = wr.heap.size + 1 := by simp
        have hln := (hlr.below bn).more bn.size
        have HNF : Hid (l.length = 4 ∨ l.length = 16) := by simp [Hid, hf]
        have HON : Hid ((ofN l).t.toNat = 5) := by unfold ofN; rw [hf]; rfl
        clear hf hno
        go_wp2_with (first | (refine wpList_new_nt rfl 44 _ _ rfl wr _ _ rfl rfl rfl (by kernel_rfl) rfl ?_))
        generalize wr.alloc (.cells #[.int .u16 5, .int .i64 4, .int .i64 1, .int .i64 10, .string ⟨#[46]⟩] 44) = wn at *
        have HC : Hid (∀ W, Below wn.heap.size wn W → Calls Tryd.prog 34 #[.slice A l.length c] W fun e w' => ∃ A' c', e = .returned (.slice A' l.length c') ∧ LiesS w' (NewS W w') A' (l.map bv) ∧ l.length ≤ c' ∧ c' ≤ maxLen ∧ Below wn.heap.size wn w' ∧ Below W.heap.size W w') := fun W hW => by
          refine (bclone_any A c l W ((hln.below hW).more hW.size) hc hm hn).mono ?_
          rintro e w' ⟨A', c', h1, h2, h3, h4, h5⟩
          exact ⟨A', c', h1, h2, h3, h4, hW.trans (h5.mono hW.size), h5⟩
        have KS : Hid (∀ W, Below wn.heap.size wn W → W.cell? ⟨wr.heap.size, 0, none⟩ = some (.int .u16 5)) := fun W hW => (hW.cell (p := ⟨wr.heap.size, 0, none⟩) (by simp; omega)).trans r0
        have z2 := z1.below bn (by omega)
        have HZ : Hid (∀ W, Below wn.heap.size wn W → Whole W w.heap.size 27 #[.int .u16 0, .slice none 0 0, .slice none 0 0]) := fun W hW => z2.below hW (by omega)
        have hneq : ¬ w.heap.size = wr.heap.size := by omega
        clear y0 r1 z2 hln hc
        go_region_held3 (fun W => W.cell? ⟨wr.heap.size, 0, none⟩ = some (.int .u16 5))
          (first | exact KS.out _ (below_drew (Below.refl _ _)) | exact KS.out _ R2 | (rw [World.cell?_setCell_other _ _ _ _ (fun e => hneq (congrArg Addr.block e)), World.cell?_setCell_other _ _ _ _ (fun e => hneq (congrArg Addr.block e)), World.cell?_setCell_other _ _ _ _ (fun e => hneq (congrArg Addr.block e))]; exact KS.out _ R2) | fail)
          (first
          | (go_at_call 34; (with_reducible refine (HC.out _ (below_drew (Below.refl _ _))).mono ?_); rintro e w2 ⟨A2, c2, rfl, hN2, m1, m2, R2, b2⟩; have zz := HZ.out w2 R2; have g0 := zz.cell 0; have g1 := zz.cell 1; have g2 := zz.cell 2; have f0 := zz.frozen 0; have f1 := zz.frozen 1; have f2 := zz.frozen 2; simp only [List.getElem?_toArray, List.getElem?_cons_zero, List.getElem?_cons_succ] at g0 g1 g2)
          | fail)
        have hR := HBW.out.trans ((bn.trans (R2.mono bn.size)).mono HBW.out.size)
        have hR2 := R2.size
        have he : ndV (ofN l) A2 c2 none 0 = .agg #[.int .u16 5, .slice A2 l.length c2, .slice none 0 0] := by unfold ndV hv; rw [HON.out]; rfl
        have HE := Lib.hid he
        have HND : Hid (∀ v0 v1 v2, Node (((w2.setCell ⟨w.heap.size, 0, none⟩ v0).setCell ⟨w.heap.size, 1, none⟩ v1).setCell ⟨w.heap.size, 2, none⟩ v2) w2.heap.size A2 c2 none 0 (ofN l)) := fun v0 v1 v2 => by
          have hk : ∀ p : Addr, wn.heap.size ≤ p.block → (((w2.setCell ⟨w.heap.size, 0, none⟩ v0).setCell ⟨w.heap.size, 1, none⟩ v1).setCell ⟨w.heap.size, 2, none⟩ v2).cell? p = w2.cell? p := fun p hp => by
            rw [World.cell?_setCell_other _ _ _ _ (fun e => by rw [← e] at hp; simp at hp; omega), World.cell?_setCell_other _ _ _ _ (fun e => by rw [← e] at hp; simp at hp; omega), World.cell?_setCell_other _ _ _ _ (fun e => by rw [← e] at hp; simp at hp; omega)]
          exact ⟨(hN2.turn (fun p hp => hk p hp.1) (fun _ h => h)).lies (fun b hb => hb.2), m1, m2, Nodes.nil _ _ _, Nat.le_refl _, Nat.zero_le _⟩
        have HAD : Hid (∀ ad, A2 = some ad → w.heap.size < ad.block) := fun ad e => by
          obtain ⟨ad', q1, q2, _⟩ := hN2 (by intro e'; have q3 := congrArg List.length e'; rw [List.length_map, hL.out] at q3; simp at q3)
          rw [e] at q1
          cases q1
          have q4 : wn.heap.size ≤ ad.block := q2.1
          omega
        clear he hN2 m1 m2 b2
        go_wp2_with fail
        (try simp only [Exit.inBlock, Exit.then])
        refine bodyPost_ret (results_row_tmp rfl _ _ w.heap.size 27 _ _ rfl (((zz.set_ 0 _).set_ 1 _).set_ 2 _) Tryd.underlying27 rfl (by kernel_rfl)) rfl ?_
        refine ⟨((hR.setCell (Nat.le_refl _) _).setCell (Nat.le_refl _) _).setCell (Nat.le_refl _) _, .inl ⟨HNF.out, A2, c2, ?_, ?_, HAD.out⟩⟩
        · rw [HE.out]; rfl
        · have h := HND.out (.int .u16 5) (.slice A2 l.length c2) (.slice none 0 0)
          simpa [World.setCell] using h
      · have hf1 : ¬ (l.length : Int) = 4 := by omega
        have HNO : Hid ((1 ≤ 0 + 1 → l.length ≠ 4) ∧ (2 ≤ 0 + 1 → l.length ≠ 16)) := ⟨fun _ => hf, fun h => absurd h (by omega)⟩
        clear hf hno
        go_wp2_with (first | (refine wpList_new_nt rfl 44 _ _ rfl wr _ _ rfl rfl rfl (by kernel_rfl) rfl ?_))
        go_roundw
        case rel => exact ⟨0 + 1, by omega, by go_num, HNO, hbel.trans (bn.mono hbel.size)⟩
        case measure => simp [intOf]
    | 1, _ =>
      have bn : Below wr.heap.size wr (wr.alloc (.cells #[.int .u16 6, .int .i64 16, .int .i64 2, .int .i64 16, .string ⟨#[58]⟩] 44)) := (Below.refl _ _).alloc (Nat.le_refl _) _
      have y0 := Whole.new wr 44 #[.int .u16 6, .int .i64 16, .int .i64 2, .int .i64 16, .string ⟨#[58]⟩]
      have r0 : (wr.alloc (.cells #[.int .u16 6, .int .i64 16, .int .i64 2, .int .i64 16, .string ⟨#[58]⟩] 44)).cell? ⟨wr.heap.size, 0, none⟩ = some (.int .u16 6) := by rw [y0.cell]; rfl
      have r1 : (wr.alloc (.cells #[.int .u16 6, .int .i64 16, .int .i64 2, .int .i64 16, .string ⟨#[58]⟩] 44)).cell? ⟨wr.heap.size, 1, none⟩ = some (.int .i64 16) := by rw [y0.cell]; rfl
      by_cases hf : l.length = 16
      · have hL := Lib.hid hf
        have hf1 : (l.length : Int) = 16 := by omega
        have hsn : (wr.alloc (.cells #[.int .u16 6, .int .i64 16, .int .i64 2, .int .i64 16, .string ⟨#[58]⟩] 44)).heap.size = wr.heap.size + 1 := by simp
        have hln := (hlr.below bn).more bn.size
        have HNF : Hid (l.length = 4 ∨ l.length = 16) := by simp [Hid, hf]
        have HON : Hid ((ofN l).t.toNat = 6) := by unfold ofN; rw [hf]; rfl
        clear hf hno
        go_wp2_with (first | (refine wpList_new_nt rfl 44 _ _ rfl wr _ _ rfl rfl rfl (by kernel_rfl) rfl ?_))
        generalize wr.alloc (.cells #[.int .u16 6, .int .i64 16, .int .i64 2, .int .i64 16, .string ⟨#[58]⟩] 44) = wn at *
        have HC : Hid (∀ W, Below wn.heap.size wn W → Calls Tryd.prog 34 #[.slice A l.length c] W fun e w' => ∃ A' c', e = .returned (.slice A' l.length c') ∧ LiesS w' (NewS W w') A' (l.map bv) ∧ l.length ≤ c' ∧ c' ≤ maxLen ∧ Below wn.heap.size wn w' ∧ Below W.heap.size W w') := fun W hW => by
          refine (bclone_any A c l W ((hln.below hW).more hW.size) hc hm hn).mono ?_
          rintro e w' ⟨A', c', h1, h2, h3, h4, h5⟩
          exact ⟨A', c', h1, h2, h3, h4, hW.trans (h5.mono hW.size), h5⟩
        have KS : Hid (∀ W, Below wn.heap.size wn W → W.cell? ⟨wr.heap.size, 0, none⟩ = some (.int .u16 6)) := fun W hW => (hW.cell (p := ⟨wr.heap.size, 0, none⟩) (by simp; omega)).trans r0
        have z2 := z1.below bn (by omega)
        have HZ : Hid (∀ W, Below wn.heap.size wn W → Whole W w.heap.size 27 #[.int .u16 0, .slice none 0 0, .slice none 0 0]) := fun W hW => z2.below hW (by omega)
        have hneq : ¬ w.heap.size = wr.heap.size := by omega
        clear y0 r1 z2 hln hc
        go_region_held3 (fun W => W.cell? ⟨wr.heap.size, 0, none⟩ = some (.int .u16 6))
          (first | exact KS.out _ (below_drew (Below.refl _ _)) | exact KS.out _ R2 | (rw [World.cell?_setCell_other _ _ _ _ (fun e => hneq (congrArg Addr.block e)), World.cell?_setCell_other _ _ _ _ (fun e => hneq (congrArg Addr.block e)), World.cell?_setCell_other _ _ _ _ (fun e => hneq (congrArg Addr.block e))]; exact KS.out _ R2) | fail)
          (first
          | (go_at_call 34; (with_reducible refine (HC.out _ (below_drew (Below.refl _ _))).mono ?_); rintro e w2 ⟨A2, c2, rfl, hN2, m1, m2, R2, b2⟩; have zz := HZ.out w2 R2; have g0 := zz.cell 0; have g1 := zz.cell 1; have g2 := zz.cell 2; have f0 := zz.frozen 0; have f1 := zz.frozen 1; have f2 := zz.frozen 2; simp only [List.getElem?_toArray, List.getElem?_cons_zero, List.getElem?_cons_succ] at g0 g1 g2)
          | fail)
        have hR := HBW.out.trans ((bn.trans (R2.mono bn.size)).mono HBW.out.size)
        have hR2 := R2.size
        have he : ndV (ofN l) A2 c2 none 0 = .agg #[.int .u16 6, .slice A2 l.length c2, .slice none 0 0] := by unfold ndV hv; rw [HON.out]; rfl
        have HE := Lib.hid he
        have HND : Hid (∀ v0 v1 v2, Node (((w2.setCell ⟨w.heap.size, 0, none⟩ v0).setCell ⟨w.heap.size, 1, none⟩ v1).setCell ⟨w.heap.size, 2, none⟩ v2) w2.heap.size A2 c2 none 0 (ofN l)) := fun v0 v1 v2 => by
          have hk : ∀ p : Addr, wn.heap.size ≤ p.block → (((w2.setCell ⟨w.heap.size, 0, none⟩ v0).setCell ⟨w.heap.size, 1, none⟩ v1).setCell ⟨w.heap.size, 2, none⟩ v2).cell? p = w2.cell? p := fun p hp => by
            rw [World.cell?_setCell_other _ _ _ _ (fun e => by rw [← e] at hp; simp at hp; omega), World.cell?_setCell_other _ _ _ _ (fun e => by rw [← e] at hp; simp at hp; omega), World.cell?_setCell_other _ _ _ _ (fun e => by rw [← e] at hp; simp at hp; omega)]
          exact ⟨(hN2.turn (fun p hp => hk p hp.1) (fun _ h => h)).lies (fun b hb => hb.2), m1, m2, Nodes.nil _ _ _, Nat.le_refl _, Nat.zero_le _⟩
        have HAD : Hid (∀ ad, A2 = some ad → w.heap.size < ad.block) := fun ad e => by
          obtain ⟨ad', q1, q2, _⟩ := hN2 (by intro e'; have q3 := congrArg List.length e'; rw [List.length_map, hL.out] at q3; simp at q3)
          rw [e] at q1
          cases q1
          have q4 : wn.heap.size ≤ ad.block := q2.1
          omega
        clear he hN2 m1 m2 b2
        go_wp2_with fail
        (try simp only [Exit.inBlock, Exit.then])
        refine bodyPost_ret (results_row_tmp rfl _ _ w.heap.size 27 _ _ rfl (((zz.set_ 0 _).set_ 1 _).set_ 2 _) Tryd.underlying27 rfl (by kernel_rfl)) rfl ?_
        refine ⟨((hR.setCell (Nat.le_refl _) _).setCell (Nat.le_refl _) _).setCell (Nat.le_refl _) _, .inl ⟨HNF.out, A2, c2, ?_, ?_, HAD.out⟩⟩
        · rw [HE.out]; rfl
        · have h := HND.out (.int .u16 6) (.slice A2 l.length c2) (.slice none 0 0)
          simpa [World.setCell] using h
      · have hf1 : ¬ (l.length : Int) = 16 := by omega
        have HNO : Hid ((1 ≤ 1 + 1 → l.length ≠ 4) ∧ (2 ≤ 1 + 1 → l.length ≠ 16)) := ⟨fun _ => hno.out.1 (by omega), fun _ => hf⟩
        clear hf hno
        go_wp2_with (first | (refine wpList_new_nt rfl 44 _ _ rfl wr _ _ rfl rfl rfl (by kernel_rfl) rfl ?_))
        go_roundw
        case rel => exact ⟨1 + 1, by omega, by go_num, HNO, hbel.trans (bn.mono hbel.size)⟩
        case measure => simp [intOf]
end Go.Proofs.YtemeeeiglifpaaaDoor

/- Layer 9: whether a string is a host name, by the program and by the reference. They write nothing that was there. -/



namespace Go.Proofs.YtemeeeiglifpaaaDoor
open Go.RowKit Go.Shelf

def okB (c : UInt8) : Bool := decide (33 ≤ c.toNat) && decide (c.toNat ≤ 126)
def hostB (l : List UInt8) : Bool := decide (1 ≤ l.length) && decide (l.length ≤ 255) && l.all okB
theorem all_take {l : List UInt8} {k : Nat} {c : UInt8} (h : (l.take k).all okB = true) (hc : l[k]? = some c) (ho : okB c = true) : (l.take (k + 1)).all okB = true := by
  rw [List.take_add_one, hc, List.all_append, h]; simp [ho]
theorem all_bad {l : List UInt8} {k : Nat} {c : UInt8} (hc : l[k]? = some c) (ho : okB c = false) : l.all okB = false := by
  rw [List.all_eq_false]; exact ⟨c, List.mem_of_getElem? hc, by simp [ho]⟩
theorem str_at (s : ByteArray) (k : Nat) (h : k < s.size) : s.data.toList[k]? = some (s[k]'h) := by
  rw [List.getElem?_eq_getElem (by simpa using h)]; rfl
set_option maxRecDepth 100000 in
set_option maxHeartbeats 2000000 in
theorem isHost_any (s : ByteArray) (w : World) (hs : s.size ≤ 140737488355328) :
    Calls Tryd.prog 31 #[.string s] w fun e w' => e = .returned (.bool (hostB s.data.toList)) ∧ Below w.heap.size w w' := by
  have hln : s.data.toList.length = s.size := by simp
  by_cases h1 : s.size < 1
  · have HR := Lib.hid (show hostB s.data.toList = false by unfold hostB; rw [hln, decide_eq_false (by omega)]; rfl)
    have h2 : (s.size : Int) < 1 := by omega
    go_enter Tryd.func31, Tryd.ntmps31
    go_wp2_with fail
    go_ret
    exact ⟨by rw [HR.out]; rfl, Below.refl _ _⟩
  · have h2 : ¬ (s.size : Int) < 1 := by omega
    by_cases h3 : 255 < s.size
    · have HR := Lib.hid (show hostB s.data.toList = false by unfold hostB; rw [hln, decide_eq_false (by omega : ¬ s.size ≤ 255)]; simp)
      have h4 : (255 : Int) < (s.size : Int) := by omega
      go_enter Tryd.func31, Tryd.ntmps31
      go_wp2_with fail
      go_ret
      exact ⟨by rw [HR.out]; rfl, Below.refl _ _⟩
    · have h4 : ¬ (255 : Int) < (s.size : Int) := by omega
      have hk0 : (w.iter s 0).heap[w.heap.size]? = some (.stringIter s 0) := World.iter_heap w s 0
      have hb0 : Below w.heap.size w (w.iter s 0) := (Below.refl _ w).alloc (Nat.le_refl _) _
      go_enter Tryd.func31, Tryd.ntmps31
      go_wp2_with fail
      go_loopw [4] (fun _ wr => ∃ pos : Nat, pos ≤ s.size ∧ wr.heap[w.heap.size]? = some (.stringIter s pos) ∧ Hid ((s.data.toList.take pos).all okB = true) ∧ Below w.heap.size w wr) (fun _ wr => s.size - wr.iterPos w.heap.size)
      case atStart => exact ⟨0, Nat.zero_le _, hk0, by simp [Hid], hb0⟩
      case round =>
        obtain ⟨pos, hps, hk, hall, hbel⟩ := hrel
        by_cases hp : pos < s.size
        · have hat := str_at s pos hp
          have hpos : wr.iterPos w.heap.size = pos := by simp [World.iterPos, hk]
          by_cases ha : (s[pos]'hp).toNat < 128
          · have hnext : ∀ ty, (Instr.next (.pointer (some ⟨w.heap.size, 0, none⟩)) true ty).run Tryd.prog wr = _ := fun ty => Lib.run_next_ascii_at wr w.heap.size s pos ty hk hp ha
            have hk1 := Lib.iterAt_heap wr w.heap.size s pos (pos + 1) hk
            have hb1 : Below w.heap.size w (wr.iterAt w.heap.size s (pos + 1)) := Lib.below_iterAt hbel (Nat.le_refl _) s (pos + 1)
            generalize wr.iterAt w.heap.size s (pos + 1) = W1 at hnext hk1 hb1
            cases ho : okB (s[pos]'hp) with
            | true =>
              have hall1 := Lib.hid (all_take hall.out hat ho)
              have ho1 : 33 ≤ (s[pos]'hp).toNat ∧ (s[pos]'hp).toNat ≤ 126 := by unfold okB at ho; simpa using ho
              have t1 : ¬ ((s[pos]'hp).toNat : Int) < 33 := by omega
              have t2 : ¬ (126 : Int) < ((s[pos]'hp).toNat : Int) := by omega
              clear ho ho1 hat
              go_wp2_with fail
              go_roundw
              case rel => exact ⟨pos + 1, by omega, hk1, hall1, hb1⟩
              case measure =>
                have hmu2 : W1.iterPos w.heap.size = pos + 1 := by simp [World.iterPos, hk1]
                rw [hpos, hmu2]
                omega
            | false =>
              have HR := Lib.hid (show hostB s.data.toList = false by unfold hostB; rw [all_bad hat ho]; simp)
              have ho1 : ¬ (33 ≤ (s[pos]'hp).toNat ∧ (s[pos]'hp).toNat ≤ 126) := by unfold okB at ho; simpa using ho
              clear ho hat
              by_cases t1 : ((s[pos]'hp).toNat : Int) < 33
              · go_wp2_with fail
                go_ret
                exact ⟨by rw [HR.out]; rfl, hb1⟩
              · have t2 : (126 : Int) < ((s[pos]'hp).toNat : Int) := by omega
                clear ho1
                go_wp2_with fail
                go_ret
                exact ⟨by rw [HR.out]; rfl, hb1⟩
          · have hhi := (decode_high s pos hp (by omega)).1
            have hnext : ∀ ty, (Instr.next (.pointer (some ⟨w.heap.size, 0, none⟩)) true ty).run Tryd.prog wr = _ := fun ty => Lib.run_next_any_at wr w.heap.size s pos ty hk hp
            have hb1 : Below w.heap.size w (wr.iterAt w.heap.size s (pos + (Utf8.decode s pos).2)) := Lib.below_iterAt hbel (Nat.le_refl _) s _
            have HR := Lib.hid (show hostB s.data.toList = false by unfold hostB; rw [all_bad hat (by unfold okB; rw [decide_eq_false (by omega : ¬ (s[pos]'hp).toNat ≤ 126)]; simp)]; simp)
            generalize wr.iterAt w.heap.size s (pos + (Utf8.decode s pos).2) = W1 at hnext hb1
            generalize (Utf8.decode s pos).1 = r at *
            have t1 : ¬ ((r : Nat) : Int) < 33 := by omega
            have t2 : (126 : Int) < ((r : Nat) : Int) := by omega
            clear hat ha
            go_wp2_with fail
            go_ret
            exact ⟨by rw [HR.out]; rfl, hb1⟩
        · have hnext : ∀ ty, (Instr.next (.pointer (some ⟨w.heap.size, 0, none⟩)) true ty).run Tryd.prog wr = _ := fun ty => Lib.run_next_end_at wr w.heap.size s pos ty hk hp
          have HR := Lib.hid (show hostB s.data.toList = true by
            unfold hostB
            have h5 := hall.out
            rw [List.take_of_length_le (by omega)] at h5
            rw [hln, h5, decide_eq_true (by omega), decide_eq_true (by omega)]
            rfl)
          go_wp2_with fail
          go_ret
          exact ⟨by rw [HR.out]; rfl, hbel⟩
set_option maxRecDepth 100000 in
set_option maxHeartbeats 2000000 in
theorem rhost_any (s : ByteArray) (w : World) (hs : s.size ≤ 140737488355328) :
    Calls Tryd.prog 13 #[.string s] w fun e w' => e = .returned (.bool (hostB s.data.toList)) ∧ Below w.heap.size w w' := by
  have hln : s.data.toList.length = s.size := by simp
  go_enter Tryd.func13, Tryd.ntmps13
  go_wp2_with fail
  go_loopw [3] (fun i wr => ∃ pos : Nat, pos ≤ s.size ∧ i = .int .i64 pos ∧ Hid ((s.data.toList.take pos).all okB = true) ∧ Below w.heap.size w wr) (fun i _ => s.size - (intOf i).toNat)
  case atStart => exact ⟨0, Nat.zero_le _, rfl, by simp [Hid], Below.refl _ _⟩
  case round =>
    obtain ⟨pos, hps, rfl, hall, hbel⟩ := hrel
    by_cases hp : pos < s.size
    · have hat := str_at s pos hp
      have hp1 : (pos : Int) < (s.size : Int) := by omega
      cases ho : okB (s[pos]'hp) with
      | true =>
        have hall1 := Lib.hid (all_take hall.out hat ho)
        have ho1 : 33 ≤ (s[pos]'hp).toNat ∧ (s[pos]'hp).toNat ≤ 126 := by unfold okB at ho; simpa using ho
        have t1 : ¬ ((s[pos]'hp).toNat : Int) < 33 := by omega
        have t2 : ¬ (126 : Int) < ((s[pos]'hp).toNat : Int) := by omega
        clear ho ho1 hat
        go_wp2_with fail
        go_roundw
        case rel => exact ⟨pos + 1, by omega, by go_num, hall1, hbel⟩
        case measure => simp [intOf]; omega
      | false =>
        have HR := Lib.hid (show hostB s.data.toList = false by unfold hostB; rw [all_bad hat ho]; simp)
        have ho1 : ¬ (33 ≤ (s[pos]'hp).toNat ∧ (s[pos]'hp).toNat ≤ 126) := by unfold okB at ho; simpa using ho
        clear ho hat
        by_cases t1 : ((s[pos]'hp).toNat : Int) < 33
        · go_wp2_with fail
          go_ret
          exact ⟨by rw [HR.out]; rfl, hbel⟩
        · have t2 : (126 : Int) < ((s[pos]'hp).toNat : Int) := by omega
          clear ho1
          go_wp2_with fail
          go_ret
          exact ⟨by rw [HR.out]; rfl, hbel⟩
    · have hp1 : ¬ (pos : Int) < (s.size : Int) := by omega
      have h5 := hall.out
      rw [List.take_of_length_le (by omega)] at h5
      have HR : Hid (hostB s.data.toList = (decide (1 ≤ s.size) && decide (s.size ≤ 255))) := by unfold hostB; rw [hln, h5, Bool.and_true]; exact rfl
      clear h5 hall
      by_cases q1 : 1 ≤ s.size
      · have q2 : (1 : Int) ≤ (s.size : Int) := by omega
        by_cases q3 : s.size ≤ 255
        · have q4 : (s.size : Int) ≤ 255 := by omega
          rw [decide_eq_true q1, decide_eq_true q3] at HR
          go_wp2_with fail
          go_ret
          exact ⟨by rw [HR.out]; rfl, hbel⟩
        · have q4 : ¬ (s.size : Int) ≤ 255 := by omega
          rw [decide_eq_true q1, decide_eq_false q3] at HR
          go_wp2_with fail
          go_ret
          exact ⟨by rw [HR.out]; rfl, hbel⟩
      · have q2 : ¬ (1 : Int) ≤ (s.size : Int) := by omega
        rw [decide_eq_false q1] at HR
        go_wp2_with fail
        go_ret
        exact ⟨by rw [HR.out]; rfl, hbel⟩
end Go.Proofs.YtemeeeiglifpaaaDoor

/- Layer 9: append of one byte to bytes of a string ('append([]byte(s), 0)'): the row of the conversion bears a mark behind its end. Over whatever program. -/




namespace Go.Proofs.YtemeeeiglifpaaaDoor
open Go.RowKit Go.Shelf

theorem append_byte {P : Program} (w : World) (t ty e : TypeId) (ht : P.underlying t = some (.slice e)) (hi : (P.info? e).map (fun i => (i.zero, i.size, i.bytes)) = some (some (.int .u8 0), 1, 1))
    (g n cap : Nat) (xs : List Value) (hl : xs.length = n) (hx : ∀ j u, xs[j]? = some u → w.cell? ⟨g, j, none⟩ = some u) (hc : n < cap → (w.cell? ⟨g, n, none⟩).isSome = true ∧ w.frozen? ⟨g, n, none⟩ = false) (hg : g < w.heap.size)
    (ad : Addr) (c : Nat) (v : Value) (hv' : w.cell? ad = some v) (h1 : v.oneCell' = true) (hn : n + 1 ≤ 140737488355328) (hcm : cap ≤ maxLen) :
    ∃ g' cap' w', (Builtin.append_ #[t, t] ty #[.slice (some ⟨g, 0, none⟩) n cap, .slice (some ad) 1 c]).run P w = .ok (.slice (some ⟨g', 0, none⟩) (n + 1) cap') w' ∧
      (∀ j u, (xs ++ [v])[j]? = some u → w'.cell? ⟨g', j, none⟩ = some u) ∧ w.grownBy w' (some g) ∧ n + 1 ≤ cap' ∧ cap' ≤ maxLen ∧ (g' = g ∨ g' = w.heap.size) ∧ g' < w'.heap.size := by
  obtain ⟨i, hi0, hi1, hi2, hi3⟩ := info_parts hi
  have hnews : ∀ j u, [v][j]? = some u → w.cell? (ad.add j) = some u := fun j u hu => by
    match j, hu with
    | 0, hu => simp only [List.getElem?_cons_zero, Option.some.injEq] at hu; subst hu; simpa [Addr.add] using hv'
    | j + 1, hu => simp at hu
  by_cases hroom : n + 1 ≤ cap
  · obtain ⟨hc1, hc2⟩ := hc (by omega)
    have hf := run_firstCells_some (P := P) w i.size 1 ad 1 c [v] (by rw [hi2]; rfl) hnews
    have hst := run_storeCells_cells (P := P) g n [v] 0 w (fun j hj => by obtain rfl : j = 0 := (by simpa using hj); exact hc1) (fun j hj => by obtain rfl : j = 0 := (by simpa using hj); exact hc2) (fun u hu => by rw [List.mem_singleton.1 hu]; exact h1)
    simp only [Nat.add_zero, World.setCells] at hst
    rw [hi2] at hf
    have hr : (Builtin.append_ #[t, t] ty #[.slice (some ⟨g, 0, none⟩) n cap, .slice (some ad) 1 c]).run P w = .ok (.slice (some ⟨g, 0, none⟩) (n + 1) cap) (w.setCell ⟨g, n, none⟩ v) := by
      simp [Builtin.append_, run_underlying ht, sizeOf, typeInfo, hi0, hi2, Builtin.lenOf, hroom, hf, Addr.add_lit, hst]
    refine ⟨g, cap, _, hr, fun j u hu => ?_, ?_, hroom, hcm, .inl rfl, by simpa [World.setCell] using hg⟩
    · rcases Nat.lt_or_ge j n with hj | hj
      · rw [List.getElem?_append_left (by omega)] at hu
        rw [World.cell?_setCell_other _ _ _ _ (fun e => by have h9 : n = j := congrArg Addr.off e; omega)]
        exact hx j u hu
      · rw [List.getElem?_append_right (by omega), hl] at hu
        have hj2 : j - n = 0 := by
          rcases Nat.eq_zero_or_pos (j - n) with h | h
          · exact h
          · rw [List.getElem?_eq_none (by simp; omega)] at hu; cases hu
        rw [hj2] at hu
        simp only [List.getElem?_cons_zero, Option.some.injEq] at hu
        subst hu
        obtain rfl : j = n := by omega
        exact World.cell?_setCell_same' w _ v hc1
    · exact ⟨rfl, rfl, rfl, by simp [World.setCell], fun k _ hk => Below.heap_setCell _ _ _ k (fun e => hk (by rw [e]))⟩
  · have hr := run_append_grow (P := P) w t ty e i (.int .u8 0) ht hi0 hi1 ⟨g, 0, none⟩ n cap xs (by rw [hi2]; omega) (fun j u hu => by rw [add_row]; exact hx j u hu) ad 1 c [v] (by rw [hi2]; rfl) hnews (by omega) (by omega)
      (by rw [hi3]; exact growslice_fits (by omega) (by omega))
    have hge := grownCap_ge w (n + 1) cap e
    have hcm2 : grownCap w (n + 1) cap e ≤ maxLen := grownCap_le_maxLen w (n + 1) cap e (by unfold maxLen; omega)
    refine ⟨w.heap.size, _, _, hr, fun j u hu => ?_, ⟨rfl, rfl, rfl, by simp, fun k hk _ => Below.heap_alloc _ _ _ hk⟩, hge, hcm2, .inr rfl, by simp⟩
    refine (cell_of_row _ w.heap.size j _ e (0, 0) (World.alloc_heap_new w.drew _)).trans ?_
    have hj := (List.getElem?_eq_some_iff.1 hu).1
    rw [Array.getElem?_append_left (by simpa using hj)]
    simpa using hu
theorem wpList_append_byte {P : Program} {w : World} {ops : Array Oper} {rest : List Oper} {o : Oper} {a : Act} {Q : Exit → Act → World → Prop} (hgd : o.guard = none) (s x : Operand) (t : TypeId)
    (ho : o.op = .call { callee := .builtin .append, args := #[s, x], argTypes := #[t, t] }) (e : TypeId) (ht : P.underlying t = some (.slice e)) (hi : (P.info? e).map (fun i => (i.zero, i.size, i.bytes)) = some (some (.int .u8 0), 1, 1))
    (g n cap : Nat) (hs : a.eval s = .slice (some ⟨g, 0, none⟩) n cap) (xs : List Value) (hl : xs.length = n) (hx : ∀ j u, xs[j]? = some u → w.cell? ⟨g, j, none⟩ = some u) (hc : n < cap → (w.cell? ⟨g, n, none⟩).isSome = true ∧ w.frozen? ⟨g, n, none⟩ = false) (hg : g < w.heap.size)
    (ad : Addr) (c : Nat) (hxe : a.eval x = .slice (some ad) 1 c) (v : Value) (hv' : w.cell? ad = some v) (h1 : v.oneCell' = true) (hn : n + 1 ≤ 140737488355328) (hcm : cap ≤ maxLen)
    (h : ∀ g' cap' w', (∀ j u, (xs ++ [v])[j]? = some u → w'.cell? ⟨g', j, none⟩ = some u) → w.grownBy w' (some g) → n + 1 ≤ cap' → cap' ≤ maxLen → (g' = g ∨ g' = w.heap.size) → g' < w'.heap.size → wpList P ops Q rest (a.put o.dst (.slice (some ⟨g', 0, none⟩) (n + 1) cap')) w') : wpList P ops Q (o :: rest) a w :=
  wpList_plain hgd fun K hK => by
    obtain ⟨g', cap', w', hr, h2, h3, h4, h5, h6, h7⟩ := append_byte (P := P) w t o.type e ht hi g n cap xs hl hx hc hg ad c v hv' h1 hn hcm
    unfold Oper.wp execOp
    simp only [ho, resolve, invoke, builtin, Sem.run_bind, Sem.run_pure, Result.andThen_ok, List.map_toArray, List.map_cons, List.map_nil, hs, hxe, hr]
    exact hK _ _ (h g' cap' w' h2 h3 h4 h5 h6 h7)
/-- the row of a conversion -/
structure BRow (w w' : World) (s : ByteArray) (cap : Nat) : Prop where
  below : Below w.heap.size w w'
  size : w'.heap.size = w.heap.size + 1
  cells : ∀ j u, (s.data.toList.map bv)[j]? = some u → w'.cell? ⟨w.heap.size, j, none⟩ = some u
  room : ∀ j, j < cap → (w'.cell? ⟨w.heap.size, j, none⟩).isSome = true ∧ w'.frozen? ⟨w.heap.size, j, none⟩ = false
  le : s.size ≤ cap
  most : cap ≤ maxLen
theorem bytes_row (w : World) (e : TypeId) (s : ByteArray) (hs : s.size ≤ 140737488355328) : BRow w (Lib.bytesWorld w e s) s (grownCap w s.size 0 e) := by
  have hcs : (Lib.bytesCells w e s).size = grownCap w s.size 0 e := by
    have h1 := grownCap_ge w s.size 0 e
    simp [Lib.bytesCells]
    have : s.data.size = s.size := rfl
    omega
  have hrow := Lib.bytesWorld_at_new w e s
  refine ⟨⟨rfl, rfl, rfl, by rw [Lib.bytesWorld_size]; omega, fun j hj => Lib.bytesWorld_at_old w e s j hj⟩, Lib.bytesWorld_size w e s, fun j u hu => ?_, fun j hj => ⟨?_, ?_⟩, grownCap_ge w s.size 0 e, grownCap_le_maxLen w s.size 0 e (by unfold maxLen; omega)⟩
  · have hj := (List.getElem?_eq_some_iff.1 hu).1
    have hj2 : j < s.size := by simpa using hj
    rw [Lib.bytesWorld_cell w e s j hj2]
    rw [List.getElem?_map] at hu
    obtain ⟨c, hc, rfl⟩ := Option.map_eq_some_iff.1 hu
    rw [List.getD_eq_getElem?_getD, hc]
    rfl
  · rw [cell_of_row _ w.heap.size j _ e _ hrow]
    rw [Array.getElem?_eq_getElem (by omega)]
    rfl
  · simp only [World.frozen?, hrow, hcs]
    simp
    omega
end Go.Proofs.YtemeeeiglifpaaaDoor

/- Layer 9: the parameter of a host name (Host). It writes nothing that was there. -/

namespace Go.Proofs.YtemeeeiglifpaaaDoor
open Go.RowKit Go.Shelf

/-- the node of a host name -/
def hostN (l : List UInt8) : Nd := .mk 11 (l ++ [0]) []
def HostR (w : World) (l : List UInt8) (e : Ending) (w' : World) : Prop := Below w.heap.size w w' ∧
  ((hostB l = true ∧ ∃ A' c', e = .returned (.tuple #[ndV (hostN l) A' c' none 0, .bool true]) ∧ Node w' w'.heap.size A' c' none 0 (hostN l)) ∨ (hostB l = false ∧ e = .returned (.tuple #[znd, .bool false])))
set_option maxRecDepth 100000 in
set_option maxHeartbeats 2000000 in
theorem host_str (s : ByteArray) (w : World) (hs : s.size ≤ 1000000) : Calls Tryd.prog 12 #[.string s] w (HostR w s.data.toList) := by
  have b0 : Below w.heap.size w (w.alloc (.cells #[.int .u16 0, .slice none 0 0, .slice none 0 0] 27)) := (Below.refl _ w).alloc (Nat.le_refl _) _
  have x1 := Whole.new w 27 #[.int .u16 0, .slice none 0 0, .slice none 0 0]
  have hsz : (w.alloc (.cells #[.int .u16 0, .slice none 0 0, .slice none 0 0] 27)).heap.size = w.heap.size + 1 := by simp
  have hH := isHost_any s (w.alloc (.cells #[.int .u16 0, .slice none 0 0, .slice none 0 0] 27)) (by omega)
  have hln : s.data.toList.length = s.size := by simp
  go_enter Tryd.func12, Tryd.ntmps12
  go_wp2_with fail
  generalize w.alloc (.cells #[.int .u16 0, .slice none 0 0, .slice none 0 0] 27) = w0 at *
  refine hH.mono ?_
  rintro e w1 ⟨rfl, b1⟩
  have x2 := x1.below b1 (by omega)
  have hs1 := b1.size
  have B1 := b0.trans (b1.mono b0.size)
  cases hb : hostB s.data.toList with
  | false =>
    have HR := Lib.hid hb
    rw [hb] at hH
    clear hb
    go_wp2_with (first | (refine wpList_store_row rfl 27 _ _ rfl w.heap.size #[.int .u16 0, .slice none 0 0, .slice none 0 0] rfl rfl _ _ x2 (by kernel_rfl) rfl (by simp [Value.oneCell']) ?_))
    (try simp only [Exit.inBlock, Exit.then])
    refine bodyPost_ret (results_row_tmp rfl _ _ w.heap.size 27 _ _ rfl (x2.setRow _) Tryd.underlying27 rfl (by kernel_rfl)) rfl ?_
    exact ⟨below_setRow B1 (Nat.le_refl _) _, .inr ⟨HR.out, rfl⟩⟩
  | true =>
    have HR := Lib.hid hb
    clear hb hH
    have hcv := Lib.run_convert_string_bytes (P := Tryd.prog) w1 9 24 5 s Tryd.underlying9 Tryd.underlying24 Tryd.underlying5
    have hrow := bytes_row w1 5 s (by omega)
    generalize Lib.bytesWorld w1 5 s = w2 at hcv hrow
    generalize grownCap w1 s.size 0 5 = cap at hcv hrow
    have h2s : w1.heap.size < w2.heap.size := by have := hrow.size; omega
    have x3 := x2.below hrow.below (by omega)
    have B2 := B1.trans (hrow.below.mono B1.size)
    have hal : Below w2.heap.size w2 (w2.alloc (.cells #[.int .u8 0] 5)) := (Below.refl _ _).alloc (Nat.le_refl _) _
    have hal0 : (w2.alloc (.cells #[.int .u8 0] 5)).cell? ⟨w2.heap.size, 0, none⟩ = some (.int .u8 0) := by rw [(Whole.new w2 5 #[.int .u8 0]).cell]; rfl
    have HRO := Lib.hid hrow
    have HX := Lib.hid (x3.below hal (by omega))
    have HB2 := Lib.hid (B2.trans (hal.mono B2.size))
    have hals : w2.heap.size < (w2.alloc (.cells #[.int .u8 0] 5)).heap.size := by simp
    clear hrow x1 x2 x3 b0 B1 B2
    go_wp2_with (first
      | (at_builtin; refine wpList_append_byte rfl (.tmp 9) (.tmp 10) 24 rfl 5 Tryd.underlying24 u8info w1.heap.size s.size cap rfl (s.data.toList.map bv) (by simp) (fun j u hu => (World.cell?_alloc_lt w2 _ ⟨w1.heap.size, j, none⟩ (by show w1.heap.size < _; omega)).trans (HRO.out.cells j u hu)) (fun h => by have h9 := HRO.out.room s.size h; exact ⟨by rw [World.cell?_alloc_lt w2 _ ⟨w1.heap.size, s.size, none⟩ (by show w1.heap.size < _; omega)]; exact h9.1, by rw [World.frozen?_of_block (hal.block w1.heap.size (by omega))]; exact h9.2⟩) (by omega) ⟨w2.heap.size, 0, none⟩ 1 rfl (.int .u8 0) hal0 rfl (by omega) HRO.out.most ?_; intro g' cap' w3 hcells hgr hge hmo hg' hgl; have x3 : Whole w3 w.heap.size 27 #[.int .u16 0, .slice none 0 0, .slice none 0 0] := (hgr.block w.heap.size (by omega) (fun e => by simp at e; omega)).trans HX.out)
      | (refine wpList_store_row rfl 27 _ _ rfl w.heap.size #[.int .u16 11, .slice (some ⟨g', 0, none⟩) (s.size + 1) cap', .slice none 0 0] rfl rfl _ _ x3 (by kernel_rfl) rfl (by simp [Value.oneCell']) ?_)
      | fail)
    (try simp only [Exit.inBlock, Exit.then])
    refine bodyPost_ret (results_row_tmp rfl _ _ w.heap.size 27 _ _ rfl (x3.setRow _) Tryd.underlying27 rfl (by kernel_rfl)) rfl ?_
    have B3 := HB2.out.grown hgr HB2.out.size (fun r e => by simp at e; omega)
    have hg2 : g' ≠ w.heap.size := by rcases hg' with h | h <;> omega
    refine ⟨below_setRow B3 (Nat.le_refl _) _, .inl ⟨HR.out, some ⟨g', 0, none⟩, cap', ?_, ?_⟩⟩
    · have h9 : (hostN s.data.toList).v.length = s.size + 1 := by simp [hostN, Nd.v]
      unfold ndV
      rw [h9]
      rfl
    · have h9 : (hostN s.data.toList).v.length = s.size + 1 := by simp [hostN, Nd.v]
      refine ⟨fun _ => ⟨_, rfl, by simpa using hgl, fun j u hu => ?_⟩, by rw [h9]; exact hge, hmo, Nodes.nil _ _ _, Nat.le_refl _, Nat.zero_le _⟩
      rw [add_row]
      have hu' : (s.data.toList.map bv ++ [.int .u8 0])[j]? = some u := by
        have h8 : (hostN s.data.toList).v.map bv = s.data.toList.map bv ++ [.int .u8 0] := by simp [hostN, Nd.v, bv]
        rw [← h8]; exact hu
      refine (World.cell?_of_block (setRow_other w3 w.heap.size g' _ hg2)).trans (hcells j u hu')
end Go.Proofs.YtemeeeiglifpaaaDoor

/- Layer 9: bytes without a zero byte at their end (bytes.TrimSuffix), the host name of a node (Name). They write nothing that was there. -/



namespace Go.Proofs.YtemeeeiglifpaaaDoor
open Go.RowKit Go.Shelf

def trimZ (l : List UInt8) : List UInt8 := if l.getLast? = some 0 then l.dropLast else l
set_option maxRecDepth 100000 in
set_option maxHeartbeats 1000000 in
theorem hassuf_any (A : Option Addr) (c : Nat) (l : List UInt8) (g : Nat) (w : World) (h : Lies w w.heap.size A (l.map bv)) (hc : l.length ≤ c) (_hm : c ≤ maxLen) (hn : l.length ≤ 140737488355328) (hz : w.cell? ⟨g, 0, none⟩ = some (.int .u8 0)) (hg : g < w.heap.size) :
    Calls Tryd.prog 47 #[.slice A l.length c, .slice (some ⟨g, 0, none⟩) 1 1] w fun e w' => e = .returned (.bool (decide (l.getLast? = some 0))) ∧ w = w' := by
  have hL0 : Lies w w.heap.size (some ⟨g, 0, none⟩) (([0] : List UInt8).map bv) := fun _ => ⟨_, rfl, hg, fun j u hu => by
    match j, hu with
    | 0, hu => simp only [List.map_cons, List.getElem?_cons_zero, Option.some.injEq] at hu; subst hu; exact hz
    | j + 1, hu => simp at hu⟩
  rcases List.eq_nil_or_concat l with rfl | ⟨xs, x, rfl⟩
  · go_enter Tryd.func47, Tryd.ntmps47
    go_wp2_with fail
    go_ret
    exact ⟨rfl, rfl⟩
  · rw [List.concat_eq_append] at *
    obtain ⟨ad, rfl, hb, hcl⟩ := h (by simp)
    have hx : Lies w w.heap.size (some (ad.add xs.length)) (([x] : List UInt8).map bv) := fun _ => ⟨_, rfl, by rw [blk_add]; exact hb, fun j u hu => by
      match j, hu with
      | 0, hu =>
        simp only [List.map_cons, List.getElem?_cons_zero, Option.some.injEq] at hu; subst hu
        have := hcl xs.length (bv x) (by simp)
        simpa [Addr.add] using this
      | j + 1, hu => simp at hu⟩
    have hE := equal_any (some (ad.add xs.length)) (some ⟨g, 0, none⟩) (c - xs.length) 1 _ _ [x] [0] w hx hL0
    have hgl : decide ((xs ++ [x]).getLast? = some 0) = decide ([x] = [(0 : UInt8)]) := by simp
    rw [hgl]
    have hlen : (xs ++ [x]).length = xs.length + 1 := by simp
    rw [hlen] at hc hn ⊢
    generalize decide ([x] = [(0 : UInt8)]) = r at *
    generalize xs.length = n at *
    have q1 : (1 : Int) ≤ ((n : Int) + 1) := by omega
    have q2 : (n : Int) ≤ (n : Int) + 1 := by omega
    have q3 : (0 : Int) ≤ (n : Int) := by omega
    have q4 : (n : Int) + 1 - 1 = (n : Int) := by omega
    have q5 : ¬ c = n := by omega
    have q6 : n + 1 - n = 1 := by omega
    have q7 : (n : Int) + 1 ≤ (c : Int) := by omega
    simp only [List.length_singleton] at hE
    clear h hcl hlen hgl hL0 hx
    cases r
    all_goals
      go_enter Tryd.func47, Tryd.ntmps47
      go_wp2_with fail
      refine hE.mono ?_
      rintro e w1 ⟨rfl, rfl⟩
      go_wp2_with fail
      go_ret
      exact ⟨rfl, rfl⟩
set_option maxRecDepth 100000 in
theorem trim_any (A : Option Addr) (c : Nat) (l : List UInt8) (g : Nat) (w : World) (h : Lies w w.heap.size A (l.map bv)) (hc : l.length ≤ c) (hm : c ≤ maxLen) (hn : l.length ≤ 140737488355328) (hz : w.cell? ⟨g, 0, none⟩ = some (.int .u8 0)) (hg : g < w.heap.size) :
    Calls Tryd.prog 32 #[.slice A l.length c, .slice (some ⟨g, 0, none⟩) 1 1] w fun e w' => e = .returned (.slice A (trimZ l).length c) ∧ w = w' := by
  have hS := hassuf_any A c l g w h hc hm hn hz hg
  by_cases hl : l.getLast? = some 0
  · have hT : Hid (l.length = (trimZ l).length + 1) := by
      unfold trimZ
      rw [if_pos hl, List.length_dropLast]
      have : l ≠ [] := fun e => by rw [e] at hl; cases hl
      have := List.length_pos_iff.2 this
      exact show _ = _ by omega
    rw [decide_eq_true hl] at hS
    have hT2 := hT.out
    generalize (trimZ l).length = k at *
    rw [hT2] at hS ⊢
    have hkc : k + 1 ≤ c := by omega
    have q1 : (k : Int) + 1 - 1 = (k : Int) := by omega
    have q2 : (0 : Int) ≤ (k : Int) := by omega
    have q3 : (k : Int) ≤ (c : Int) := by omega
    have q4 : wrap64 (k : Int) = (k : Int) := by unfold maxLen at hm; unfold wrap64; omega
    clear hl hT hT2 hc hn h
    go_enter Tryd.func32, Tryd.ntmps32
    go_wp2_with fail
    refine hS.mono ?_
    rintro e w1 ⟨rfl, rfl⟩
    go_wp2_with fail
    go_ret
    exact ⟨rfl, rfl⟩
  · have hT : trimZ l = l := by unfold trimZ; rw [if_neg hl]
    rw [hT]
    rw [decide_eq_false hl] at hS
    clear hl hT
    go_enter Tryd.func32, Tryd.ntmps32
    go_wp2_with fail
    refine hS.mono ?_
    rintro e w1 ⟨rfl, rfl⟩
    go_wp2_with fail
    go_ret
    exact ⟨rfl, rfl⟩
/-! ### Name -/
def nameB (n : Nd) : Bool := hostB (trimZ n.v) && n.beq (hostN (trimZ n.v))
def nameS (n : Nd) : ByteArray := if nameB n = true then ⟨(trimZ n.v).toArray⟩ else ⟨#[]⟩
theorem trimZ_pre (l : List UInt8) : ∃ k, trimZ l = l.take k := by
  unfold trimZ
  split
  · exact ⟨l.length - 1, List.dropLast_eq_take⟩
  · exact ⟨l.length, by rw [List.take_length]⟩
set_option maxRecDepth 100000 in
set_option maxHeartbeats 2000000 in
theorem name_any (n : Nd) (A : Option Addr) (c : Nat) (K : Option Addr) (k : Nat) (w : World) (hN : Node w w.heap.size A c K k n) (hf : Few1 n) (hv' : n.v.length ≤ 300000) :
    Calls Tryd.prog 14 #[ndV n A c K k] w fun e w' => e = .returned (.tuple #[.string (nameS n), .bool (nameB n)]) ∧ Below w.heap.size w w' := by
  have b0 : Below w.heap.size w ((w.alloc (.cells #[hv n.t, .slice A n.v.length c, .slice K n.ks.length k] 27)).alloc (.cells #[.int .u8 0] 5)) := ((Below.refl _ w).alloc (Nat.le_refl _) _).alloc (by simp) _
  have x0 := (Whole.new w 27 #[hv n.t, .slice A n.v.length c, .slice K n.ks.length k]).alloc (.cells #[.int .u8 0] 5)
  have x1 := Whole.new (w.alloc (.cells #[hv n.t, .slice A n.v.length c, .slice K n.ks.length k] 27)) 5 #[.int .u8 0]
  simp only [World.size_alloc] at x1
  have hsz : ((w.alloc (.cells #[hv n.t, .slice A n.v.length c, .slice K n.ks.length k] 27)).alloc (.cells #[.int .u8 0] 5)).heap.size = w.heap.size + 1 + 1 := by simp
  have hN0 := hN.on b0
  have z0 : ((w.alloc (.cells #[hv n.t, .slice A n.v.length c, .slice K n.ks.length k] 27)).alloc (.cells #[.int .u8 0] 5)).cell? ⟨w.heap.size + 1, 0, none⟩ = some (.int .u8 0) := by rw [x1.cell]; rfl
  have hT := trim_any A c n.v (w.heap.size + 1) _ hN0.data hN0.dc hN0.dm (by omega) z0 (by simp)
  obtain ⟨m, hm⟩ := trimZ_pre n.v
  have hLt := hN0.data.take m
  rw [← List.map_take, ← hm] at hLt
  have hcv := conv_lies (P := Tryd.prog) c hLt 24 5 9 Tryd.underlying24 Tryd.underlying5 Tryd.underlying9
  have htl : (trimZ n.v).length ≤ 300000 := by rw [hm, List.length_take]; omega
  have HB := Lib.hid b0
  unfold ndV
  go_enter Tryd.func14, Tryd.ntmps14
  go_wp2_with fail
  generalize (w.alloc (.cells #[hv n.t, .slice A n.v.length c, .slice K n.ks.length k] 27)).alloc (.cells #[.int .u8 0] 5) = w0 at *
  refine hT.mono ?_
  rintro e w1 ⟨rfl, rfl⟩
  have hH := host_str ⟨(trimZ n.v).toArray⟩ w0 (by show (trimZ n.v).toArray.size ≤ _; simp; omega)
  have hsame : ∀ (A' : Option Addr) (c' : Nat) (W : World), Below w0.heap.size w0 W → Node W W.heap.size A' c' none 0 (hostN (trimZ n.v)) → Calls Tryd.prog 33 #[ndV n A c K k, ndV (hostN (trimZ n.v)) A' c' none 0] W fun e w' => e = .returned (.bool (n.beq (hostN (trimZ n.v)))) ∧ Below W.heap.size W w' := fun A' c' W hW hM =>
    nsame_any n (hostN (trimZ n.v)) hf A c K k A' c' none 0 W (hN0.on hW) hM
  have HSM := Lib.hid hsame
  have hs1 : HostR w0 (trimZ n.v) = HostR w0 (⟨(trimZ n.v).toArray⟩ : ByteArray).data.toList := rfl
  rw [← hs1] at hH
  have HNB : Hid (nameB n = (hostB (trimZ n.v) && n.beq (hostN (trimZ n.v)))) := rfl
  clear hs1 hm hLt hT hsame hN hf
  generalize hTq : trimZ n.v = T at *
  have HTQ := Lib.hid hTq
  clear hTq
  go_wp2_with fail
  refine hH.mono ?_
  rintro e w1 ⟨b1, (⟨hb, A', c', rfl, hM⟩ | ⟨hb, rfl⟩)⟩
  · have z1 := x0.below b1 (by omega)
    have hs2 := b1.size
    have b2 := b1.alloc b1.size (.cells #[hv (hostN T).t, .slice A' (hostN T).v.length c', .slice none (hostN T).ks.length 0] 27)
    have y0 := Whole.new w1 27 #[hv (hostN T).t, .slice A' (hostN T).v.length c', .slice none (hostN T).ks.length 0]
    have z2 := z1.below ((Below.refl _ w1).alloc (Nat.le_refl _) (.cells #[hv (hostN T).t, .slice A' (hostN T).v.length c', .slice none (hostN T).ks.length 0] 27)) (by omega)
    have p0 : (w1.alloc (.cells #[hv (hostN T).t, .slice A' (hostN T).v.length c', .slice none (hostN T).ks.length 0] 27)).cell? ⟨w.heap.size, 0, none⟩ = some (hv n.t) := by rw [z2.cell]; rfl
    have p1 : (w1.alloc (.cells #[hv (hostN T).t, .slice A' (hostN T).v.length c', .slice none (hostN T).ks.length 0] 27)).cell? ⟨w.heap.size, 1, none⟩ = some (.slice A n.v.length c) := by rw [z2.cell]; rfl
    have p2 : (w1.alloc (.cells #[hv (hostN T).t, .slice A' (hostN T).v.length c', .slice none (hostN T).ks.length 0] 27)).cell? ⟨w.heap.size, 2, none⟩ = some (.slice K n.ks.length k) := by rw [z2.cell]; rfl
    have hSm := HSM.out A' c' (w1.alloc (.cells #[hv (hostN T).t, .slice A' (hostN T).v.length c', .slice none (hostN T).ks.length 0] 27)) b2 (hM.on ((Below.refl _ w1).alloc (Nat.le_refl _) _))
    have HB1 := Lib.hid (HB.out.trans (b2.mono HB.out.size))
    unfold ndV at hSm ⊢
    cases hq : n.beq (hostN T) with
    | false =>
      have HF : Hid (nameB n = false) := by rw [HNB.out, hb, hq]; exact rfl
      rw [hq] at hSm
      clear hq hb HNB hH HSM
      go_wp2_with fail
      refine hSm.mono ?_
      rintro e w2 ⟨rfl, b3⟩
      go_wp2_with fail
      go_ret2
      exact ⟨by unfold nameS; rw [HF.out]; rfl, HB1.out.trans (b3.mono HB1.out.size)⟩
    | true =>
      have HF : Hid (nameB n = true) := by rw [HNB.out, hb, hq]; exact rfl
      rw [hq] at hSm
      clear hq hb HNB hH HSM
      go_wp2_with fail
      refine hSm.mono ?_
      rintro e w2 ⟨rfl, b3⟩
      go_wp2_with fail
      go_ret2
      exact ⟨by unfold nameS; rw [HF.out, HTQ.out]; rfl, HB1.out.trans (b3.mono HB1.out.size)⟩
  · have b2 := b1.alloc b1.size (.cells #[.int .u16 0, .slice none 0 0, .slice none 0 0] 27)
    have HB1 := Lib.hid (HB.out.trans (b2.mono HB.out.size))
    have HF : Hid (nameB n = false) := by rw [HNB.out, hb, Bool.false_and]; exact rfl
    clear hb hH HSM HNB
    go_wp2_with fail
    go_ret2
    exact ⟨by unfold nameS; rw [HF.out]; rfl, HB1.out⟩
end Go.Proofs.YtemeeeiglifpaaaDoor

/- Layer 9, the reference: whether a node is an address (Is), the value of a digit (digit). They write nothing that was there. -/

namespace Go.Proofs.YtemeeeiglifpaaaDoor
open Go.RowKit Go.Shelf

theorem nof_def (n : Nd) : decide (nof n < 2) = (fitA 5 4 n || fitA 6 16 n) := by
  unfold nof
  cases fitA 5 4 n <;> cases fitA 6 16 n <;> rfl
set_option maxRecDepth 100000 in
set_option maxHeartbeats 2000000 in
theorem ris_any (n : Nd) (A : Option Addr) (c : Nat) (K : Option Addr) (k : Nat) (w : World) (_hl : n.v.length ≤ 9223372036854775807) (_hk : n.ks.length ≤ 9223372036854775807) :
    Calls Tryd.prog 16 #[ndV n A c K k] w fun e w' => e = .returned (.bool (decide (nof n < 2))) ∧ Below w.heap.size w w' := by
  have HB : Hid (Below w.heap.size w (w.alloc (.cells #[hv n.t, .slice A n.v.length c, .slice K n.ks.length k] 27))) := (Below.refl _ w).alloc (Nat.le_refl _) _
  rw [nof_def]
  unfold fitA ndV
  by_cases h3 : n.ks.length = 0
  · have q3 : (n.ks.length : Int) = 0 := by omega
    by_cases h1 : n.t = 5
    · have q1 : (n.t.toNat : Int) = 5 := by rw [h1]; rfl
      have HR : Hid ((decide (n.t = 5) && decide (n.v.length = 4) && decide (n.ks.length = 0) || decide (n.t = 6) && decide (n.v.length = 16) && decide (n.ks.length = 0)) = decide (n.v.length = 4)) := by
        rw [h1, h3]; simp [Hid]
      by_cases h2 : n.v.length = 4
      · have q2 : (n.v.length : Int) = 4 := by omega
        have HR2 : Hid (decide (n.v.length = 4) = true) := decide_eq_true h2
        clear h1 h2 h3
        go_enter Tryd.func16, Tryd.ntmps16
        go_wp2_with fail
        go_ret
        exact ⟨by rw [HR.out, HR2.out]; rfl, HB.out⟩
      · have q2 : ¬ (n.v.length : Int) = 4 := by omega
        have q9 : ((n.v.length : Int) == 4) = false := beq_eq_false_iff_ne.2 q2
        have HR2 : Hid (decide (n.v.length = 4) = false) := decide_eq_false h2
        have q6 : ¬ (n.t.toNat : Int) = 6 := by omega
        clear h1 h2 h3
        go_enter Tryd.func16, Tryd.ntmps16
        go_wp2_with fail
        go_ret
        exact ⟨by rw [HR.out, HR2.out]; rfl, HB.out⟩
    · have q1 : ¬ (n.t.toNat : Int) = 5 := fun e => h1 (UInt16.toNat_inj.1 (by show n.t.toNat = 5; omega))
      by_cases h4 : n.t = 6
      · have q4 : (n.t.toNat : Int) = 6 := by rw [h4]; rfl
        have HR : Hid ((decide (n.t = 5) && decide (n.v.length = 4) && decide (n.ks.length = 0) || decide (n.t = 6) && decide (n.v.length = 16) && decide (n.ks.length = 0)) = decide (n.v.length = 16)) := by
          rw [h4, h3]; simp [Hid]
        by_cases h2 : n.v.length = 16
        · have q2 : (n.v.length : Int) = 16 := by omega
          have HR2 : Hid (decide (n.v.length = 16) = true) := decide_eq_true h2
          clear h1 h2 h3 h4
          go_enter Tryd.func16, Tryd.ntmps16
          go_wp2_with fail
          go_ret
          exact ⟨by rw [HR.out, HR2.out]; rfl, HB.out⟩
        · have q2 : ¬ (n.v.length : Int) = 16 := by omega
          have q9 : ((n.v.length : Int) == 16) = false := beq_eq_false_iff_ne.2 q2
          have HR2 : Hid (decide (n.v.length = 16) = false) := decide_eq_false h2
          clear h1 h2 h3 h4
          go_enter Tryd.func16, Tryd.ntmps16
          go_wp2_with fail
          go_ret
          exact ⟨by rw [HR.out, HR2.out]; rfl, HB.out⟩
      · have q4 : ¬ (n.t.toNat : Int) = 6 := fun e => h4 (UInt16.toNat_inj.1 (by show n.t.toNat = 6; omega))
        have HR : Hid ((decide (n.t = 5) && decide (n.v.length = 4) && decide (n.ks.length = 0) || decide (n.t = 6) && decide (n.v.length = 16) && decide (n.ks.length = 0)) = false) := by
          rw [decide_eq_false h1, decide_eq_false h4]; simp [Hid]
        clear h1 h3 h4
        go_enter Tryd.func16, Tryd.ntmps16
        go_wp2_with fail
        go_ret
        exact ⟨by rw [HR.out]; rfl, HB.out⟩
  · have q3 : ¬ (n.ks.length : Int) = 0 := by omega
    have q9 : ((n.ks.length : Int) == 0) = false := beq_eq_false_iff_ne.2 q3
    have q5 : ¬ n.ks = [] := fun e => h3 (by rw [e]; rfl)
    have HR : Hid ((decide (n.t = 5) && decide (n.v.length = 4) && decide (n.ks.length = 0) || decide (n.t = 6) && decide (n.v.length = 16) && decide (n.ks.length = 0)) = false) := by
      rw [decide_eq_false h3]; simp [Hid]
    clear h3
    go_enter Tryd.func16, Tryd.ntmps16
    go_wp2_with fail
    go_ret
    exact ⟨by rw [HR.out]; rfl, HB.out⟩
theorem rdigit_any (x : UInt8) (w : World) : Calls Tryd.prog 21 #[bv x] w fun e w' => e = .returned (.int .i64 (dval x : Nat)) ∧ w = w' := by
  have hx := x.toNat_lt
  have HR : Hid ((dval x : Nat) = if 48 ≤ x.toNat ∧ x.toNat ≤ 57 then x.toNat - 48 else if 97 ≤ x.toNat ∧ x.toNat ≤ 102 then x.toNat - 87 else 99) := rfl
  generalize dval x = d at *
  unfold bv
  by_cases h1 : 48 ≤ x.toNat ∧ x.toNat ≤ 57
  · have q1 : (48 : Int) ≤ (x.toNat : Int) := by omega
    have q2 : (x.toNat : Int) ≤ 57 := by omega
    have HD : Hid (d = x.toNat - 48) := by rw [HR.out, if_pos h1]; exact rfl
    have HW : Hid (((x.toNat - 48 : Nat) : Int) = (x.toNat : Int) - 48) := by exact (show _ = _ by omega)
    have q3 : ((x.toNat : Int) - 48) % 256 = (x.toNat : Int) - 48 := by omega
    have q4 : IntKind.u8.wrap ((x.toNat : Int) - 48) = (x.toNat : Int) - 48 := by rw [IntKind.wrap_u8']; omega
    clear h1 HR
    go_enter Tryd.func21, Tryd.ntmps21
    go_wp2_with fail
    go_ret
    exact ⟨by rw [HD.out, HW.out]; rfl, rfl⟩
  · by_cases h2 : 97 ≤ x.toNat ∧ x.toNat ≤ 102
    · have q1 : (48 : Int) ≤ (x.toNat : Int) := by omega
      have q2 : ¬ (x.toNat : Int) ≤ 57 := by omega
      have q5 : (97 : Int) ≤ (x.toNat : Int) := by omega
      have q6 : (x.toNat : Int) ≤ 102 := by omega
      have HD : Hid (d = x.toNat - 87) := by rw [HR.out, if_neg h1, if_pos h2]; exact rfl
      have HW : Hid (((x.toNat - 87 : Nat) : Int) = (x.toNat : Int) - 97 + 10) := by exact (show _ = _ by omega)
      have q3 : ((x.toNat : Int) - 97) % 256 = (x.toNat : Int) - 97 := by omega
      have q4 : IntKind.u8.wrap ((x.toNat : Int) - 97) = (x.toNat : Int) - 97 := by rw [IntKind.wrap_u8']; omega
      clear h1 h2 HR
      go_enter Tryd.func21, Tryd.ntmps21
      go_wp2_with fail
      go_ret
      exact ⟨by rw [HD.out, HW.out]; rfl, rfl⟩
    · have HD : Hid (d = 99) := by rw [HR.out, if_neg h1, if_neg h2]; exact rfl
      by_cases a1 : (48 : Int) ≤ (x.toNat : Int)
      · have a2 : ¬ (x.toNat : Int) ≤ 57 := by omega
        by_cases a3 : (97 : Int) ≤ (x.toNat : Int)
        · have a4 : ¬ (x.toNat : Int) ≤ 102 := by omega
          clear h1 h2 HR
          go_enter Tryd.func21, Tryd.ntmps21
          go_wp2_with fail
          go_ret
          exact ⟨by rw [HD.out]; rfl, rfl⟩
        · clear h1 h2 HR
          go_enter Tryd.func21, Tryd.ntmps21
          go_wp2_with fail
          go_ret
          exact ⟨by rw [HD.out]; rfl, rfl⟩
      · have a3 : ¬ (97 : Int) ≤ (x.toNat : Int) := by omega
        clear h1 h2 HR
        go_enter Tryd.func21, Tryd.ntmps21
        go_wp2_with fail
        go_ret
        exact ⟨by rw [HD.out]; rfl, rfl⟩
end Go.Proofs.YtemeeeiglifpaaaDoor

/- Layer 9: strings.Builder at this program: a string is written to a builder that the call has made. -/




namespace Go.Proofs.YtemeeeiglifpaaaDoor
open Go.RowKit Go.Shelf

set_option maxRecDepth 100000 in
set_option maxHeartbeats 2000000 in
theorem copyCheck_any (B b : Nat) (bs : List Value) (w : World) (h : Lib.IsBuilderF 54 5 B b bs w) :
    Calls Tryd.prog 43 #[.pointer (some ⟨b, 0, none⟩)] w fun e w' => e = .returned (.tuple #[]) ∧
      Lib.BuilderAtF 54 5 B b (.pointer (some ⟨b, 0, none⟩)) bs w' ∧ Below B w w' ∧ Lib.OthersKept 5 (some b) w w' := by
  rcases h with h | h
  · have c0 := h.cell0
    have f0 := h.frozen0
    have hsh := h.shape
    have hj : (Tryd.prog.info? 54).map (·.size) = some 2 := by kernel_rfl
    obtain ⟨j, hj1, hj2⟩ := Option.map_eq_some_iff.1 hj
    have hU := Lib.hid h
    have hto := Lib.run_to_unsafe (P := Tryd.prog) (src := 52) (dst := 93) w ⟨b, 0, none⟩ Tryd.underlying52 Tryd.underlying93 hj1 (by rw [hj2]; decide) hsh (Nat.zero_lt_succ 1)
    have hfrom := Lib.run_from_unsafe (P := Tryd.prog) (src := 93) (dst := 52) w ⟨b, 0, none⟩ Tryd.underlying93 Tryd.underlying52 hj1 hsh (by kernel_rfl)
    have hne : ∀ x w, (callFunc 58 #[x]).run Tryd.prog w = .ok (.value x) w := fun x w => by
      rw [run_callFunc_extern Tryd.func58 (by kernel_rfl) (by kernel_rfl) (by kernel_rfl) (e := Extern.AbiNoEscape.same) (by kernel_rfl), Lib.run_noEscape]
      rfl
    clear h hj hj1 hj2 hsh
    go_enter Tryd.func43, Tryd.ntmps43
    go_wp2_with fail
    go_end0
    exact ⟨rfl, hU.out.used _, (Below.refl B w).setCell (p := ⟨b, 0, none⟩) hU.out.1 _, (Lib.OthersKept.refl _ _ w).setCell ⟨b, 0, none⟩ rfl _⟩
  · have c0 := h.cell0
    have hj : (Tryd.prog.info? 54).map (·.size) = some 2 := by kernel_rfl
    obtain ⟨j, hj1, hj2⟩ := Option.map_eq_some_iff.1 hj
    have hnq := Lib.run_neq_ptr_same (P := Tryd.prog) (w := w) (tp := 52) ⟨b, 0, none⟩ Tryd.underlying52 hj1
    have hU := Lib.hid h
    clear h hj hj1 hj2
    go_enter Tryd.func43, Tryd.ntmps43
    go_wp2_with fail
    go_end0
    exact ⟨rfl, hU.out, Below.refl B _, Lib.OthersKept.refl _ _ _⟩
set_option maxRecDepth 100000 in
set_option maxHeartbeats 2000000 in
/-- WriteString: the bytes come behind those that are there -/
theorem writeS_any (B b : Nat) (bs : List Value) (s : ByteArray) (w : World) (h : Lib.IsBuilderF 54 5 B b bs w) (hlen : bs.length + s.size ≤ 140737488355328) (hBw : B ≤ w.heap.size) :
    Calls Tryd.prog 26 #[.pointer (some ⟨b, 0, none⟩), .string s] w fun e w' => e = .returned (.tuple #[.int .i64 s.size, .nilIface]) ∧
      Lib.BuilderAtF 54 5 B b (.pointer (some ⟨b, 0, none⟩)) (bs ++ Lib.strCells s) w' ∧ Below B w w' ∧ Lib.OthersKept 5 (some b) w w' := by
  obtain ⟨i0, hi, hz0, hz1, hz2⟩ := info_parts u8info
  have hC := copyCheck_any B b bs w h
  have HI := Lib.hid hi
  clear h
  go_enter Tryd.func26, Tryd.ntmps26
  go_wp2_with fail
  refine hC.mono ?_
  rintro e w1 ⟨rfl, ⟨hB, v, hbk, hown, hne⟩, b1, k1⟩
  have c1 : w1.cell? ⟨b, 1, none⟩ = some v := by rw [Lib.cell_of_heap hbk]; rfl
  have hs1 := b1.size
  have hlt : b < w1.heap.size := (Array.getElem?_eq_some_iff.1 hbk).1
  have HBK := Lib.hid hbk
  have HOW := Lib.hid hown
  have HNE := Lib.hid hne
  clear hC hbk hown hne
  go_wp2_with (first
    | (at_builtin; refine Lib.wpList_append_own_stringF _ rfl _ _ 24 9 rfl B 5 i0 Tryd.underlying24 Tryd.underlying9 HI.out hz0 hz1 hz2 _ _ _ rfl HOW.out s rfl (by unfold maxLen; omega) (by omega) (by omega) ?_; intro v' w2 own2 g2 _; have hb2 : w2.heap[b]? = some (.cells #[.pointer (some ⟨b, 0, none⟩), v] 54 (0, 0)) := (g2.block b hlt (fun e => HNE.out e.symm)).trans HBK.out; have d1 : w2.cell? ⟨b, 1, none⟩ = some v := (Lib.cell_of_heap hb2 1).trans rfl; have f1 : w2.frozen? ⟨b, 1, none⟩ = false := Lib.frozen_of_heap hb2 1; obtain ⟨ao, n', cap, rfl⟩ : ∃ ao n' cap, v' = .slice ao n' cap := by (rcases own2.2 with ⟨hv, _⟩ | ⟨g, cap, cur, fz, hv, _⟩ <;> exact ⟨_, _, _, hv⟩))
    | fail)
  go_ret2
  refine ⟨rfl, Lib.BuilderAtF.put (T := 54) (e := 5) hB hb2 (bs' := bs ++ Lib.strCells s) (by simpa [Lib.strCells_length] using own2) (by decide), (b1.grown g2 (by omega) (fun k hk => (HOW.out.lt k hk).1)).setCell (p := ⟨b, 1, none⟩) hB _, (k1.grown g2 (Lib.ownsRowF_kind HOW.out)).setCell ⟨b, 1, none⟩ rfl _⟩
end Go.Proofs.YtemeeeiglifpaaaDoor

/- Layer 9: the closure inside Text: a word is written, a mark ahead of it where there is something already. -/

namespace Go.Proofs.YtemeeeiglifpaaaDoor
open Go.RowKit Go.Shelf

theorem blen_any (B b : Nat) (bs : List Value) (w : World) (h : Lib.IsBuilderF 54 5 B b bs w) :
    Calls Tryd.prog 25 #[.pointer (some ⟨b, 0, none⟩)] w fun e w' => e = .returned (.int .i64 bs.length) ∧ w = w' := by
  have h1 : ∃ A c, w.cell? ⟨b, 1, none⟩ = some (.slice A bs.length c) := by
    have h2 : ∃ p, Lib.BuilderAtF 54 5 B b p bs w := by rcases h with h | h; (exact ⟨_, h⟩); (exact ⟨_, h⟩)
    obtain ⟨p, _, v, hb, hown, _⟩ := h2
    have hc : w.cell? ⟨b, 1, none⟩ = some v := (Lib.cell_of_heap hb 1).trans rfl
    rcases hown.2 with ⟨hv, h0⟩ | ⟨g, cap, cur, fz, hv, _⟩
    · exact ⟨none, 0, by rw [hc, hv, h0]⟩
    · exact ⟨_, _, by rw [hc, hv]⟩
  obtain ⟨A, c, hc⟩ := h1
  generalize bs.length = n at *
  clear h
  go_enter Tryd.func25, Tryd.ntmps25
  go_wp2_with fail
  go_ret
  exact ⟨rfl, rfl⟩
def sepB (bs : List UInt8) (m word : ByteArray) : List UInt8 := bs ++ (if bs = [] then [] else m.data.toList) ++ word.data.toList
set_option maxRecDepth 100000 in
set_option maxHeartbeats 2000000 in
theorem text1_any (B b g : Nat) (bs : List UInt8) (t s x y : Int) (m word : ByteArray) (w : World) (h : Lib.IsBuilderF 54 5 B b (Lib.byteCells bs) w) (hg : Whole w g 44 #[.int .u16 t, .int .i64 s, .int .i64 x, .int .i64 y, .string m])
    (hl : bs.length + m.size + word.size ≤ 1000000) (hBw : B ≤ w.heap.size) :
    Calls Tryd.prog 24 #[.string word, .pointer (some ⟨b, 0, none⟩), .pointer (some ⟨g, 0, none⟩)] w fun e w' => e = .returned (.tuple #[]) ∧
      Lib.IsBuilderF 54 5 B b (Lib.byteCells (sepB bs m word)) w' ∧ Below B w w' ∧ Lib.OthersKept 5 (some b) w w' := by
  have hL := blen_any B b (Lib.byteCells bs) w h
  rw [Lib.byteCells_length] at hL
  have H0 := Lib.hid h
  have p4 : w.cell? ⟨g, 4, none⟩ = some (.string m) := by rw [hg.cell]; rfl
  by_cases hb : bs = []
  · subst hb
    have hW := writeS_any B b (Lib.byteCells []) word w h (by rw [Lib.byteCells_length]; simp; omega) hBw
    clear h
    go_enter Tryd.func24, Tryd.ntmps24
    go_wp2_with fail
    refine hL.mono ?_
    rintro e w1 ⟨rfl, rfl⟩
    go_wp2_with fail
    refine hW.mono ?_
    rintro e w2 ⟨rfl, h2, b2, k2⟩
    go_wp2_with fail
    go_end0
    refine ⟨rfl, .inr ?_, b2, k2⟩
    have he : Lib.byteCells (sepB [] m word) = Lib.byteCells [] ++ Lib.strCells word := by simp [sepB, Lib.byteCells, Lib.strCells]
    rw [he]
    exact h2
  · have hpos : 0 < bs.length := List.length_pos_iff.2 hb
    have q1 : (0 : Int) < (bs.length : Int) := by omega
    have hW := writeS_any B b (Lib.byteCells bs) m w h (by rw [Lib.byteCells_length]; omega) hBw
    clear h
    go_enter Tryd.func24, Tryd.ntmps24
    go_wp2_with fail
    refine hL.mono ?_
    rintro e w1 ⟨rfl, rfl⟩
    go_wp2_with fail
    refine hW.mono ?_
    rintro e w2 ⟨rfl, h2, b2, k2⟩
    have hs2 := b2.size
    have hms : (Lib.strCells m).length = m.size := Lib.strCells_length m
    have hW2 := writeS_any B b (Lib.byteCells bs ++ Lib.strCells m) word w2 (.inr h2) (by rw [List.length_append, Lib.byteCells_length, hms]; omega) (by omega)
    go_wp2_with fail
    refine hW2.mono ?_
    rintro e w3 ⟨rfl, h3, b3, k3⟩
    go_wp2_with fail
    go_end0
    refine ⟨rfl, .inr ?_, b2.trans b3, k2.trans k3⟩
    have he : Lib.byteCells (sepB bs m word) = Lib.byteCells bs ++ Lib.strCells m ++ Lib.strCells word := by simp [sepB, hb, Lib.byteCells, Lib.strCells]
    rw [he]
    exact h3
end Go.Proofs.YtemeeeiglifpaaaDoor

