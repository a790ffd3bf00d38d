/- Layer 2: Few and build, for whatever description of an error; what such a description reads as. No condition of its own. -/
import Derived.Test.YtkcgmheljdkacaaDoorFaultL
import Derived.Test.YtkcgmheljdkacaaDoorOpen
import Derived.Lib.SmallJoins
import Derived.Deep.Fields
import Derived.ChangeSame
import Derived.SliceStrings
namespace Go.Proofs.YtkcgmheljdkacaaDoor
open Go.RowKit Go.Extern.Stop Go.Stop Go.Extern Go.Joins Go.ChangeShapes Go.WideShapes Go.Deep Go.ChangeAt

abbrev sv (s : ByteArray) : Value := .string s
theorem Lies.str {w : World} {B : Nat} {A : Option Addr} {l : List ByteArray} (h : Lies w B A (l.map sv)) {k : Nat} (hk : k < l.length) :
    ∃ ad x, A = some ad ∧ ad.block < B ∧ Hid (l[k]? = some x) ∧ w.cell? (ad.add k) = some (.string x) := h.of_map hk

section
variable {H : Type} {enc : TypeId × Value → H} {P : Program} {w : World} {held : Bool} {t e : TypeId} {fuel : Nat} {x : DataW H × List MemPlace} {A : Option Addr} {len cap : Nat}
theorem open_strs (ht : P.underlying t = some (.slice e)) (he : P.underlying e = some .string) (hc : P.cellsOf e = 1)
    (h : DataW.trod enc P w 0 (fun _ => true) held fuel t [.slice A len cap] = some x) :
    ∃ l : List ByteArray, len = l.length ∧ Lies w w.heap.size A (l.map sv) ∧ len ≤ cap ∧ cap ≤ maxLen := by
  rcases open_strings ht he hc h with ⟨hcs, _⟩ | ⟨ad, l, c, ss, hcs, _, hl, hm, hz, _, hcell, _⟩
  · simp only [List.cons.injEq, Value.slice.injEq, and_true] at hcs
    obtain ⟨rfl, rfl, rfl⟩ := hcs
    exact ⟨[], rfl, Lies.nil, Nat.le_refl _, Nat.zero_le _⟩
  · simp only [List.cons.injEq, Value.slice.injEq, and_true] at hcs
    obtain ⟨rfl, rfl, rfl⟩ := hcs
    simp only [if_true] at hz
    refine ⟨ss.take len, by rw [List.length_take]; omega, fun hne => ?_, hl, hm⟩
    have h0 : 0 < ss.length := by
      rcases Nat.eq_zero_or_pos ss.length with h0 | h0
      · exact absurd (by rw [List.eq_nil_of_length_eq_zero h0]; simp) hne
      · exact h0
    have hb := World.block_lt_of_cell? w _ (hcell 0 h0)
    rw [blk_add] at hb
    refine ⟨ad, rfl, hb, fun j u hu => ?_⟩
    rw [List.getElem?_map, List.getElem?_take] at hu
    split at hu
    · obtain ⟨s, hs, rfl⟩ := Option.map_eq_some_iff.1 hu
      have hj := (List.getElem?_eq_some_iff.1 hs).1
      rw [hcell j hj]
      simp [hs]
    · simp at hu
end

/-- a description of an error -/
abbrev descV (nl : Bool) (A : Option Addr) (n c : Nat) (code at_ : Int) (fl : Bool) : Value := .agg #[.bool nl, .slice A n c, .int .i64 code, .int .i64 at_, .bool fl]
set_option maxRecDepth 100000 in
theorem open_desc {H : Type} {enc : TypeId × Value → H} {W : World} {base : Nat} {v : Value} {d : DataW H} {p : List MemPlace}
    (o : Value.okWide Tryd.prog W .any base 24 v) (h : DataW.Trod enc Tryd.prog W 0 (fun _ => true) true 24 v d p) :
    ∃ nl A c code at_ fl, ∃ ps : List ByteArray, v = descV nl A ps.length c code at_ fl ∧ Lies W W.heap.size A (ps.map sv) ∧ ps.length ≤ maxLen ∧ (Lit.int .i64 code).wf = true ∧ (Lit.int .i64 at_).wf = true := by
  obtain ⟨cs, rfl, hsz⟩ := okWide_struct Tryd.underlying24 o
  have h5 : Tryd.prog.cellsOf 24 = 5 := by kernel_rfl
  have k1 : Tryd.prog.cellsOf 4 = 1 := by kernel_rfl
  have k2 : Tryd.prog.cellsOf 22 = 1 := by kernel_rfl
  have k3 : Tryd.prog.cellsOf 3 = 1 := by kernel_rfl
  obtain ⟨l⟩ := cs
  have hl : l.length = 5 := hsz.trans h5
  obtain ⟨fuel, hf⟩ := h
  obtain ⟨xs, n, _, _, _, _, hg⟩ := DataW.trod_struct Tryd.underlying24 hf
  match l, hl with
  | [c0, c1, c2, c3, c4], _ =>
    have g0 := hg 0 _ rfl
    have g1 := hg 1 _ rfl
    have g2 := hg 2 _ rfl
    have g3 := hg 3 _ rfl
    have g4 := hg 4 _ rfl
    have hx : xs.length = 5 := by assumption
    simp [Value.cells, k1, k2, k3, hx] at g0 g1 g2 g3 g4
    obtain ⟨nl, e0, _⟩ := DataW.trod_bool Tryd.underlying4 g0
    obtain ⟨fl, e4, _⟩ := DataW.trod_bool Tryd.underlying4 g4
    obtain ⟨code, e2, _, w2⟩ := DataW.trod_int Tryd.underlying3 g2
    obtain ⟨at_, e3, _, w3⟩ := DataW.trod_int Tryd.underlying3 g3
    obtain ⟨A, n', c, e1⟩ := slice_of_trod Tryd.underlying22 g1
    simp only [List.cons.injEq, and_true] at e0 e1 e2 e3 e4
    subst e0 e1 e2 e3 e4
    obtain ⟨ps, rfl, l1, l2, l3⟩ := open_strs Tryd.underlying22 Tryd.underlying9 (by kernel_rfl) g1
    exact ⟨nl, A, c, code, at_, fl, ps, rfl, l1, by omega, w2, w3⟩
def lowA : Int := -1152921504606846976
def highA : Int := 1152921504606846976
def fewB (ps : List ByteArray) (a : Int) : Bool := decide ((∀ s ∈ ps, s.size ≤ 50) ∧ ps.length ≤ 20 ∧ lowA < a ∧ a < highA)
theorem few_of {ps : List ByteArray} {a : Int} (h : fewB ps a = true) : (∀ s ∈ ps, s.size ≤ 50) ∧ ps.length ≤ 20 ∧ lowA < a ∧ a < highA := of_decide_eq_true h
theorem few_no1 {ps : List ByteArray} {a : Int} {k : Nat} {s : ByteArray} (hs : ps[k]? = some s) (h : 50 < s.size) : fewB ps a = false := by
  refine decide_eq_false fun ⟨h1, _⟩ => ?_
  have := h1 s (List.mem_of_getElem? hs)
  omega
theorem ret_few {b c : Bool} (h : b = c) : Ending.returned (.bool b) = .returned (.bool c) := by rw [h]

set_option maxHeartbeats 1000000 in
theorem Few_any (nl : Bool) (A : Option Addr) (c : Nat) (ps : List ByteArray) (code a : Int) (fl : Bool) (B : Nat) (w : World) (hl : Lies w B A (ps.map sv)) (hB : B ≤ w.heap.size) (hm : ps.length ≤ maxLen) :
    Calls Tryd.prog 8 #[descV nl A ps.length c code a fl] w fun e w' => e = .returned (.bool (fewB ps a)) ∧ Below w.heap.size w w' := by
  unfold maxLen at hm
  have hw := Whole.new w 24 #[.bool nl, .slice A ps.length c, .int .i64 code, .int .i64 a, .bool fl]
  have hl2 := hl.alloc hB (.cells #[.bool nl, .slice A ps.length c, .int .i64 code, .int .i64 a, .bool fl] 24)
  have hb := (Below.refl _ w).alloc (Nat.le_refl _) (.cells #[.bool nl, .slice A ps.length c, .int .i64 code, .int .i64 a, .bool fl] 24)
  go_enter Tryd.func8, Tryd.ntmps8
  go_wp2_with fail
  go_loop [3] (fun i => ∃ k : Nat, k ≤ ps.length ∧ i = .int .i64 k ∧ ∀ s ∈ ps.take k, s.size ≤ 50) (fun i => ps.length - (intOf i).toNat)
  case atStart => exact ⟨0, Nat.zero_le _, rfl, by simp⟩
  case round =>
    obtain ⟨k, hk, rfl, hsm⟩ := hrel
    have HS := Lib.hid hsm
    clear hsm
    by_cases hlt : k < ps.length
    · obtain ⟨ad, s, hA, hbl, hs, hcell⟩ := hl2.str hlt
      subst hA
      by_cases h50 : 50 < s.size
      · have h50' : (50 : Int) < s.size := by omega
        go_wp2_with fail
        go_ret
        exact ⟨ret_few (few_no1 hs.out h50).symm, hb⟩
      · have h50' : ¬ (50 : Int) < s.size := by omega
        go_wp2_with fail
        go_round
        case rel =>
          refine ⟨k + 1, by omega, by go_num, fun t ht => ?_⟩
          rw [take_some hs.out] at ht
          rcases List.mem_append.1 ht with h | h
          · exact HS.out t h
          · simp at h
            subst h
            omega
        case measure => simp [intOf]; omega
    · have e : k = ps.length := by omega
      subst e
      have hall : ∀ s ∈ ps, s.size ≤ 50 := by
        have := HS.out
        rwa [List.take_length] at this
      have HA := Lib.hid hall
      clear hall HS hlt
      by_cases h20 : ps.length ≤ 20
      · by_cases h1 : lowA < a
        · by_cases h2 : a < highA
          · have hf : fewB ps a = true := decide_eq_true ⟨HA.out, h20, h1, h2⟩
            have HF := Lib.hid hf
            unfold lowA at h1
            unfold highA at h2
            have h20' : (ps.length : Int) ≤ 20 := by omega
            clear hf
            go_wp2_with fail
            go_ret
            exact ⟨ret_few HF.out.symm, hb⟩
          · have hf : fewB ps a = false := decide_eq_false fun ⟨_, _, _, g⟩ => h2 g
            have HF := Lib.hid hf
            unfold lowA at h1
            unfold highA at h2
            have h20' : (ps.length : Int) ≤ 20 := by omega
            clear hf
            go_wp2_with fail
            go_ret
            exact ⟨ret_few HF.out.symm, hb⟩
        · have hf : fewB ps a = false := decide_eq_false fun ⟨_, _, g, _⟩ => h1 g
          have HF := Lib.hid hf
          unfold lowA at h1
          have h20' : (ps.length : Int) ≤ 20 := by omega
          clear hf
          go_wp2_with fail
          go_ret
          exact ⟨ret_few HF.out.symm, hb⟩
      · have hf : fewB ps a = false := decide_eq_false fun ⟨_, g, _, _⟩ => h20 g
        have HF := Lib.hid hf
        have h20' : ¬ (ps.length : Int) ≤ 20 := by omega
        clear hf
        go_wp2_with fail
        go_ret
        exact ⟨ret_few HF.out.symm, hb⟩

theorem build_nil (A : Option Addr) (n c : Nat) (code a : Int) (fl : Bool) (w : World) :
    Calls Tryd.prog 9 #[descV true A n c code a fl] w fun e w' => e = .returned .nilIface ∧ Below w.heap.size w w' := by
  go_enter Tryd.func9, Tryd.ntmps9
  go_wp2_with fail
  go_ret
  exact ⟨rfl, (Below.refl _ _).alloc (Nat.le_refl _) _⟩
theorem wraps_snoc (ps : List ByteArray) (k : Nat) (s : ByteArray) (hs : ps[k]? = some s) (v : Value) : wraps (ps.take (k + 1)).reverse v = wrapV s (wraps (ps.take k).reverse v) := by
  rw [take_some hs]
  simp [wraps]

set_option maxHeartbeats 1000000 in
theorem build_any (A : Option Addr) (c : Nat) (ps : List ByteArray) (code a : Int) (fl : Bool) (B : Nat) (w : World) (hl : Lies w B A (ps.map sv)) (hB : B ≤ w.heap.size) (hm : ps.length ≤ maxLen) :
    Calls Tryd.prog 9 #[descV false A ps.length c code a fl] w fun e w' => e = .returned (wraps ps.reverse (baseV fl code a)) ∧ Below w.heap.size w w' := by
  unfold maxLen at hm
  have hw := Whole.new w 24 #[.bool false, .slice A ps.length c, .int .i64 code, .int .i64 a, .bool fl]
  have hl2 := hl.alloc hB (.cells #[.bool false, .slice A ps.length c, .int .i64 code, .int .i64 a, .bool fl] 24)
  have hb := (Below.refl _ w).alloc (Nat.le_refl _) (.cells #[.bool false, .slice A ps.length c, .int .i64 code, .int .i64 a, .bool fl] 24)
  cases fl
  all_goals
    go_enter Tryd.func9, Tryd.ntmps9
    go_wp2_with fail
  · go_loop [3, 4] (fun v i => ∃ k : Nat, k ≤ ps.length ∧ i = .int .i64 k ∧ v = wraps (ps.take k).reverse (baseV false code a)) (fun _ i => ps.length - (intOf i).toNat)
    case atStart => exact ⟨0, Nat.zero_le _, rfl, rfl⟩
    case round =>
      obtain ⟨k, hk, rfl, rfl⟩ := hrel
      obtain ⟨T, x, hx⟩ := wraps_iface (ps.take k).reverse false code a
      have X := Lib.hid hx
      rw [hx]
      clear hx
      by_cases hlt : k < ps.length
      · obtain ⟨ad, s, hA, hbl, hs, hcell⟩ := hl2.str hlt
        subst hA
        go_wp2_with fail
        refine (In_any _ _ _ _).mono ?_
        rintro e w1 ⟨rfl, rfl⟩
        go_wp2_with fail
        go_round
        case rel => exact ⟨k + 1, by omega, by go_num, by rw [wraps_snoc ps k s hs.out, X.out]⟩
        case measure => simp [intOf]; omega
      · have e : k = ps.length := by omega
        subst e
        go_wp2_with fail
        go_ret
        refine ⟨?_, hb⟩
        rw [← X.out, List.take_length]
        rfl
  · go_loop [3, 4] (fun v i => ∃ k : Nat, k ≤ ps.length ∧ i = .int .i64 k ∧ v = wraps (ps.take k).reverse (baseV true code a)) (fun _ i => ps.length - (intOf i).toNat)
    case atStart => exact ⟨0, Nat.zero_le _, rfl, rfl⟩
    case round =>
      obtain ⟨k, hk, rfl, rfl⟩ := hrel
      obtain ⟨T, x, hx⟩ := wraps_iface (ps.take k).reverse true code a
      have X := Lib.hid hx
      rw [hx]
      clear hx
      by_cases hlt : k < ps.length
      · obtain ⟨ad, s, hA, hbl, hs, hcell⟩ := hl2.str hlt
        subst hA
        go_wp2_with fail
        refine (In_any _ _ _ _).mono ?_
        rintro e w1 ⟨rfl, rfl⟩
        go_wp2_with fail
        go_round
        case rel => exact ⟨k + 1, by omega, by go_num, by rw [wraps_snoc ps k s hs.out, X.out]⟩
        case measure => simp [intOf]; omega
      · have e : k = ps.length := by omega
        subst e
        go_wp2_with fail
        go_ret
        refine ⟨?_, hb⟩
        rw [← X.out, List.take_length]
        rfl
end Go.Proofs.YtkcgmheljdkacaaDoor
