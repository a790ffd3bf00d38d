/- Layer 4, package poly: sums of two, for whatever lists. -/
import Derived.Test.YtgjedidpimncaaaPolyF
import Derived.Deep.LoopGhost
import Derived.WalkMore
import Derived.BigRegion
namespace Go.Proofs.Ytgjedidpimncaaa
open Go.RowKit

theorem co_set {S : List UInt8} {k : Nat} {x : UInt8} (hk : k < S.length) (i : Nat) : co (S.set k x) i = if i = k then odd x else co S i := by
  unfold co
  rw [List.getElem?_set]
  by_cases e : k = i
  · subst e
    rw [if_pos rfl, if_pos rfl, if_pos hk]
  · rw [if_neg e, if_neg (Ne.symm e)]
theorem co_drop (l : List UInt8) (k i : Nat) : co (l.drop k) i = co l (k + i) := by
  unfold co
  rw [List.getElem?_drop]
/-- what the loop over the second list knows of the sum behind k rounds -/
structure Part (a p : List UInt8) (n k : Nat) (S : List UInt8) : Prop where
  len : S.length = n
  at_ : ∀ i, co S i = (co a i ^^ (decide (i < k) && co p i))
theorem Part.next {a p S : List UInt8} {n k : Nat} {x y : UInt8} (h : Part a p n k S) (hk : k < n) (hx : S[k]? = some x) (hy : p[k]? = some y) : Part a p n (k + 1) (S.set k (x ^^^ y)) := by
  refine ⟨by rw [List.length_set, h.len], fun i => ?_⟩
  rw [co_set (by rw [h.len]; exact hk)]
  by_cases e : i = k
  · have h1 := h.at_ k
    rw [co_some hx] at h1
    rw [if_pos e, e, odd_xor, h1, co_some hy]
    simp
  · rw [if_neg e, h.at_, show decide (i < k + 1) = decide (i < k) from decide_eq_decide.2 (by omega)]
theorem Part.long {a p S : List UInt8} {n : Nat} (h : Part a p n n S) (ha : ∀ i, n ≤ i → co a i = false) (i : Nat) : co (S ++ p.drop n) i = (co a i ^^ co p i) := by
  rw [co_append, h.len]
  by_cases hi : i < n
  · rw [if_pos hi, h.at_]; simp [hi]
  · rw [if_neg hi, co_drop, ha i (by omega), Nat.add_sub_cancel' (by omega)]; simp
theorem Part.done {a p S : List UInt8} {n k : Nat} (h : Part a p n k S) (hk : rl p ≤ k) (i : Nat) : co S i = (co a i ^^ co p i) := by
  rw [h.at_]
  by_cases hi : i < k
  · simp [hi]
  · rw [rl_above (l := p) (by omega)]; simp
theorem xor_u8 (x y : UInt8) : bits BinOp.xor IntKind.u8 (x.toNat : Int) (y.toNat : Int) = ((x ^^^ y).toNat : Int) := by
  show IntKind.u8.wrap ((BitVec.ofInt 8 (x.toNat : Int) ^^^ BitVec.ofInt 8 (y.toNat : Int)).toNat : Int) = _
  have h1 := x.toNat_lt
  have h2 := y.toNat_lt
  have h3 := (x ^^^ y).toNat_lt
  have h4 : (x ^^^ y).toNat = x.toNat ^^^ y.toNat := UInt8.toNat_xor x y
  have e1 : ((x.toNat : Int) % ((2 ^ 8 : Nat) : Int)).toNat = x.toNat := by omega
  have e2 : ((y.toNat : Int) % ((2 ^ 8 : Nat) : Int)).toNat = y.toNat := by omega
  rw [BitVec.toNat_xor, BitVec.toNat_ofInt, BitVec.toNat_ofInt, e1, e2, ← h4, IntKind.wrap_u8]
  omega

theorem add_any (A Ap : Option Addr) (c cp cl : Nat) (ad : Addr) (a p : List UInt8) (w : World) (ha : Lies w w.heap.size A (a.map bv)) (hp : Lies w w.heap.size Ap (p.map bv))
    (had : ad.block < w.heap.size) (hl : w.cell? ad = some (.slice Ap p.length cp)) (hla : a.length ≤ 10000) (hlp : p.length ≤ 10000) (hpc : p.length ≤ cp) :
    Calls Try.prog 32 #[.slice A a.length c, .slice (some ad) 1 cl] w fun e w' => ∃ A n c L, e = .returned (.slice A n c) ∧
      Holds w' (fun i => co a i ^^ co p i) A n c L ∧ Below w.heap.size w w' := by
  have hr := rl_le a
  have hrp := rl_le p
  have HO : Hid (∀ i, rl a ≤ i → co a i = false) := fun i hi => rl_above hi
  have HD : Hid (∀ (S : List UInt8) (k : Nat), Part a p (rl a) k S → rl p ≤ k → ∀ i, co S i = (co a i ^^ co p i)) := fun S k h hk => h.done hk
  have hDp := fun w' h' => degree_any Ap cp w.heap.size p w' h' (by omega)
  have HL := Lib.hid (red_len a)
  have H0 : Hid (Part a p (rl a) 0 (red a)) := ⟨red_len a, fun i => by rw [red_co]; simp⟩
  go_enter Try.func32, Try.ntmps32
  go_wp2
  go_step3
  go_wp2_with fail
  refine (reduce_any A c a w ha (by omega)).mono ?_
  rintro e w1 ⟨rfl, hrow1, hb1⟩
  generalize red a = S0 at *
  generalize rl a = n at *
  go_wp2_with fail
  go_step3
  go_wp2_with fail
  go_loopg [13, 5] 1 (fun g i v wr => Below w.heap.size w wr ∧ ((g = 1 ∧ i = .int .i64 0 ∧ v = .slice (some ⟨w.heap.size, 0, none⟩) n n ∧ Row wr w.heap.size S0) ∨
      (g = 0 ∧ i = .int .i64 1 ∧ ∃ (A' : Option Addr) (c' : Nat) (S : List UInt8), v = .slice A' S.length c' ∧ S.length ≤ 20000 ∧ Lies wr wr.heap.size A' (S.map bv) ∧ Hid (∀ i, co S i = (co a i ^^ co p i)))))
  case atStart => exact ⟨hb1, .inl ⟨rfl, rfl, rfl, hrow1⟩⟩
  case round =>
    obtain ⟨hbr, ⟨rfl, rfl, rfl, hrow⟩ | ⟨rfl, rfl, A', c', S, rfl, hSl, hSL, hS⟩⟩ := hrel
    · have hcl : wr.cell? ad = some (.slice Ap p.length cp) := (hbr.cell had).trans hl
      have hpr := hp.below hbr
      have hdi : ((rl p : Nat) : Int) - 1 + 1 = (rl p : Int) := by omega
      generalize rl p = d at *
      go_wp2_with fail
      refine (hDp _ (by assumption)).mono ?_
      rintro e w' ⟨rfl, rfl⟩
      go_wp2_with fail
      go_loopg [20, 5] d (fun g i v wr => ∃ (k : Nat) (S : List UInt8), k + g = d ∧ k ≤ n ∧ i = .int .i64 k ∧ v = .slice (some ⟨w.heap.size, 0, none⟩) n n ∧ Below w.heap.size w wr ∧ Part a p n k S ∧ Row wr w.heap.size S)
      case atStart => exact ⟨0, S0, by omega, Nat.zero_le _, rfl, rfl, hbr, H0.out, hrow⟩
      case round =>
        obtain ⟨k, S, hkd, hkn, rfl, rfl, hbk, hP, hrk⟩ := hrel
        cases gk with
        | zero =>
          have HS : Hid (∀ i, co S i = (co a i ^^ co p i)) := HD.out S k hP (by omega)
          have HK := Lib.hid hrk
          have hSn : S.length = n := hP.len
          have HP := Lib.hid hSn
          have hd0 : (d : Int) ≤ (k : Int) := by omega
          clear hP hrk hSn hDp hcl
          go_wp2_with fail
          go_roundg 0
          case measure => omega
          case rel => exact ⟨hbk, .inr ⟨rfl, by go_num, _, n, S, by rw [HP.out], by rw [HP.out]; omega, HK.out.lies HK.out.lt, HS.out⟩⟩
        | succ g =>
          have hdk : (k : Int) < (d : Int) := by omega
          have hpk := hpr
          obtain ⟨adp, y, rfl, hbp, hy, hcp⟩ := (hp.below hbk).byte (k := k) (by omega)
          by_cases hkn2 : k = n
          · subst hkn2
            have hown := whole_own (e := 5) (base := w.heap.size) hrk (Nat.le_refl _) (by rw [List.length_map]; exact hP.len) (show k ≤ maxLen by unfold maxLen; omega)
            have HS := Lib.hid (hP.long HO.out)
            have HLn : Hid ((S ++ p.drop k).length = k + (p.length - k)) := by rw [Hid, List.length_append, hP.len, List.length_drop]
            have hld := ((hp.below hbk).more hbk.size).drop (k := k) (c := cp) (by simpa using hpc)
            rw [← List.map_drop, if_neg (by omega : ¬ cp = k)] at hld
            have hd1 : ((p.drop k).map bv).length = p.length - k := by simp
            have ho1 := one_bytes (p.drop k)
            have hsz := Lib.hid hbk.size
            have HB := Lib.hid hbk
            clear hP hrk hDp hcl hpr hpk hbk
            generalize p.drop k = pk at *
            generalize hus : pk.map bv = us at *
            have HU := Lib.hid hus
            clear hus
            go_wp2_with (at_builtin; refine wpList_append_lies _ rfl (.tmp 27) (.tmp 30) 50 rfl w.heap.size 5 _ 1 Try.underlying50 u8info rfl _ _ _ rfl hown wr.heap.size (some (adp.add k)) (p.length - k) (cp - k) us rfl hd1 hld ho1 (by omega) (by unfold maxLen; omega) hsz.out ?_; intro A4 c4 w4 hown4 hgrow4 _)
            have hg4 : wr.grownBy w4 (some w.heap.size) := hgrow4
            have HB4 := Lib.hid (HB.out.grown hg4 hsz.out (fun j e => by cases e; exact Nat.le_refl _))
            have HO4 := Lib.hid hown4
            clear hgrow4 hg4 hown4 hown
            go_roundg 0
            case measure => omega
            case rel =>
              refine ⟨HB4.out, .inr ⟨rfl, by go_num, A4, c4, S ++ pk, by rw [HLn.out], by rw [HLn.out]; omega, ?_, HS.out⟩⟩
              rw [List.map_append, HU.out]
              exact Lies.own HO4.out
          · have hkn3 : k < n := by omega
            obtain ⟨x, hx⟩ : ∃ x, S[k]? = some x := ⟨_, List.getElem?_eq_getElem (by rw [hP.len]; exact hkn3)⟩
            have hcx := hrk.byte hx
            have hfx := Whole.frozen hrk k
            have HP := Lib.hid (hP.next hkn3 hx hy.out)
            have HK := Lib.hid (hrk.store k (x ^^^ y))
            rw [← xor_u8] at HK
            have HB := Lib.hid (hbk.setCell (p := ⟨w.heap.size, k, none⟩) (Nat.le_refl _) (.int .u8 (bits BinOp.xor IntKind.u8 (x.toNat : Int) (y.toNat : Int))))
            have hne : ((k : Int) == (n : Int)) = false := by rw [beq_eq_false_iff_ne]; omega
            have hkp : (k : Int) < (p.length : Int) := by omega
            have hkn4 : (k : Int) < (n : Int) := by omega
            clear hP hrk hDp hcl hpr hpk hx
            go_wp2_with fail
            go_region
            go_wp2_with fail
            go_roundg g
            case measure => omega
            case rel => exact ⟨k + 1, _, by omega, by omega, by go_num, rfl, HB.out.drew, HP.out, HK.out.drew⟩
    · go_wp2_with fail
      refine (reduce_any A' c' S wr hSL (by omega)).mono ?_
      rintro e w4 ⟨rfl, h4, b4⟩
      go_wp2_with fail
      try rw [Exit.noGoto_ret]
      go_ret
      exact ⟨_, _, _, red S, rfl, ⟨red_len _, Nat.le_refl _, (red_can S).congr hS.out, h4.lies h4.lt⟩, hbr.trans (b4.mono hbr.size)⟩
end Go.Proofs.Ytgjedidpimncaaa
