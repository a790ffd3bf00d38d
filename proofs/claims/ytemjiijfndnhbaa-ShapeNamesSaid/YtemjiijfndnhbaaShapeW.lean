/- Layer 7: the law ShapeNames. -/
import Derived.Test.YtemjiijfndnhbaaShapeE
import Derived.Test.YtemjiijfndnhbaaShapeR
import Derived.Test.YtemjiijfndnhbaaShapeY
import Derived.Test.YtemjiijfndnhbaaOpen
import Derived.Laws.StructEq
namespace Go.Proofs.Ytemjiijfndnhbaa
open Go.ChangeShapes Go.WideShapes Go.ChangeAt Go.RowKit

theorem rtab_new (w : World) : Calls Try.prog 13 #[] w fun e w' => ∃ ad : Addr, e = .returned (.slice (some ad) 46 46) ∧ w.heap.size ≤ ad.block ∧ Lies w' w'.heap.size (some ad) (flat whole) ∧ Below w.heap.size w w' :=
  (rtable_any w).mono fun e w' ⟨h1, h2⟩ => by
    subst h2
    exact ⟨_, h1, Nat.le_refl _, (Lies.newN w (flat whole) 28).more (by simp), (Below.refl _ _).alloc (Nat.le_refl _) _⟩
theorem tab_mem {c : Int} {f : Form} : f ∈ tab c ↔ f ∈ whole ∧ f.cl = c := by
  have hp : ∀ f ∈ pT, f.cl = 1 := by
    have : pT.all (fun f => f.cl == 1) = true := rfl
    intro f hf
    simpa using List.all_eq_true.1 this f hf
  have hc : ∀ f ∈ cT, f.cl = 2 := by
    have : cT.all (fun f => f.cl == 2) = true := rfl
    intro f hf
    simpa using List.all_eq_true.1 this f hf
  unfold tab whole
  rw [List.mem_append]
  by_cases h1 : c = 1
  · subst h1
    rw [if_pos rfl]
    refine ⟨fun h => ⟨.inl h, hp f h⟩, fun ⟨h, e⟩ => ?_⟩
    rcases h with h | h
    · exact h
    · have := hc f h; omega
  · rw [if_neg h1]
    by_cases h2 : c = 2
    · subst h2
      rw [if_pos rfl]
      refine ⟨fun h => ⟨.inr h, hc f h⟩, fun ⟨h, e⟩ => ?_⟩
      rcases h with h | h
      · have := hp f h; omega
      · exact h
    · rw [if_neg h2]
      refine ⟨fun h => (by cases h), fun ⟨h, e⟩ => ?_⟩
      rcases h with h | h
      · have := hp f h; omega
      · have := hc f h; omega
/-- what the statement's loop has found so far -/
structure Found (L : List Form) (c : Int) (nm : ByteArray) (k : Nat) (acc : Option Form) : Prop where
  yes : ∀ f, acc = some f → f ∈ L ∧ f.cl = c ∧ f.nm = nm
  no : acc = none → ∀ (j : Nat) (f : Form), j < k → L[j]? = some f → ¬ (f.cl = c ∧ f.nm = nm)
theorem Found.zero (L : List Form) (c : Int) (nm : ByteArray) : Found L c nm 0 none := ⟨fun f h => (by cases h), fun _ j f h => absurd h (by omega)⟩
theorem Found.hit {L : List Form} {k : Nat} {f : Form} (hf : L[k]? = some f) : Found L f.cl f.nm (k + 1) (some f) :=
  ⟨fun g h => (by cases h; exact ⟨List.mem_of_getElem? hf, rfl, rfl⟩), fun h => (by cases h)⟩
theorem Found.miss {L : List Form} {c : Int} {nm : ByteArray} {k : Nat} {acc : Option Form} {f : Form} (h : Found L c nm k acc) (hf : L[k]? = some f) (hn : ¬ (f.cl = c ∧ f.nm = nm)) : Found L c nm (k + 1) acc :=
  ⟨h.yes, fun e j g hj hg => by
    by_cases hk : j = k
    · subst hk; rw [hf] at hg; cases hg; exact hn
    · exact h.no e j g (by omega) hg⟩
theorem Found.fin {c : Int} {nm : ByteArray} {acc : Option Form} (h : Found whole c nm 46 acc) : acc = byN (tab c) nm := by
  cases acc with
  | some f =>
    obtain ⟨h1, h2, h3⟩ := h.yes f rfl
    rw [← h3]
    exact (byN_mem (apart_tab c) (tab_mem.2 ⟨h1, h2⟩)).symm
  | none =>
    refine (byN_none fun f hf => ?_).symm
    obtain ⟨h1, h2⟩ := tab_mem.1 hf
    obtain ⟨j, hj, rfl⟩ := List.getElem_of_mem h1
    exact fun e => h.no rfl j _ (by rw [← whole_len]; exact hj) (List.getElem?_eq_getElem hj) ⟨h2, e⟩
/-- a form's cells, or zeros -/
def wv : Option Form → Array Value
  | some f => #[.int .i64 f.cl, hv f.ty, .string f.nm, .int .i64 f.lo, .int .i64 f.hi, .int .i64 f.un, .int .i64 f.ki]
  | none => zform
theorem byN_cl {c : Int} {nm : ByteArray} {f : Form} (h : byN (tab c) nm = some f) : 0 < f.cl := by
  obtain ⟨h1, _⟩ := tab_mem.1 (List.mem_of_find?_eq_some h)
  have hp : whole.all (fun f => decide (0 < f.cl)) = true := rfl
  simpa using List.all_eq_true.1 hp f h1
theorem Whole.setRow_far {w : World} {g k : Nat} {t : TypeId} {cs : Array Value} (h : Whole w g t cs) (hk : g ≠ k) (cs' : Array Value) : Whole (w.setRow k cs') g t cs := (setRow_other w k g cs' hk).trans h

set_option maxRecDepth 100000 in
set_option maxHeartbeats 8000000 in
theorem snames_big (c : Int) (nm : ByteArray) (w : World) (h : (100 : Int) < (nm.size : Int)) (_hm : nm.size ≤ maxLen) :
    Calls Try.prog 4 #[.int .i64 c, .string nm] w fun e w' => e = .returned (.bool true) ∧ Below w.heap.size w w' := by
  go_enter Try.func4, Try.ntmps4
  go_wp2_with fail
  refine (awake_any w).mono ?_
  rintro e w1 ⟨rfl, b1⟩
  go_wp2_with fail
  refine (awake_any w1).mono ?_
  rintro e w2 ⟨rfl, b2⟩
  go_wp2_with fail
  go_ret
  exact ⟨rfl, b1.trans (b2.mono b1.size)⟩

set_option maxRecDepth 100000 in
set_option maxHeartbeats 8000000 in
theorem snames_any (c : Int) (nm : ByteArray) (w : World) (hs : (nm.size : Int) ≤ 100) :
    Calls Try.prog 4 #[.int .i64 c, .string nm] w fun e w' => e = .returned (.bool true) ∧ Below w.heap.size w w' := by
  have hB := byname_any c nm
  have hT := rtab_new
  have hwl := whole_len
  have hfin : Hid (∀ acc, Found whole c nm 46 acc → acc = byN (tab c) nm) := fun acc h => h.fin
  have hcl : ∀ f, byN (tab c) nm = some f → 0 < f.cl := fun f => byN_cl
  generalize byN (tab c) nm = r at *
  generalize whole = L at *
  have hV : Hid (∀ v, ofV r = v → v = .tuple #[.agg (wv r), .bool r.isSome]) := fun v h => by subst h; cases r <;> rfl
  obtain ⟨cl, ty, nm', lo, hi, un, ki, hr⟩ : ∃ cl ty nm' lo hi un ki, wv r = #[.int .i64 cl, .int .u16 ty, .string nm', .int .i64 lo, .int .i64 hi, .int .i64 un, .int .i64 ki] := by
    cases r with
    | none => exact ⟨_, _, _, _, _, _, _, rfl⟩
    | some f => exact ⟨_, _, _, _, _, _, _, rfl⟩
  have hpos : (decide (0 < cl)) = r.isSome := by
    cases r with
    | none => simp only [wv, zform, Array.mk.injEq, List.cons.injEq, Value.int.injEq, true_and] at hr; obtain ⟨rfl, _⟩ := hr; rfl
    | some f => simp only [wv, Array.mk.injEq, List.cons.injEq, Value.int.injEq, true_and] at hr; obtain ⟨rfl, _⟩ := hr; simpa using hcl f rfl
  rw [hV.out _ rfl, hr] at hB
  generalize hok : r.isSome = ok at *
  have HR := Lib.hid hr
  clear hV hcl hr hok
  go_enter Try.func4, Try.ntmps4
  go_wp2_with fail
  refine (awake_any w).mono ?_
  rintro e w1 ⟨rfl, b1⟩
  go_wp2_with fail
  refine (hB _).mono ?_
  rintro e w2 ⟨rfl, b2⟩
  have hb2 := b1.trans (b2.mono b1.size)
  have hW3 := (Whole.new w2 25 #[.int .i64 cl, .int .u16 ty, .string nm', .int .i64 lo, .int .i64 hi, .int .i64 un, .int .i64 ki]).alloc (.cells zform 28)
  have hX3 := Whole.new (w2.alloc (.cells #[.int .i64 cl, .int .u16 ty, .string nm', .int .i64 lo, .int .i64 hi, .int .i64 un, .int .i64 ki] 25)) 28 zform
  have hb3 := (hb2.alloc hb2.size (.cells #[.int .i64 cl, .int .u16 ty, .string nm', .int .i64 lo, .int .i64 hi, .int .i64 un, .int .i64 ki] 25)).alloc (by simp; have := hb2.size; omega) (.cells zform 28)
  have hs3 : w2.heap.size + 2 = ((w2.alloc (.cells #[.int .i64 cl, .int .u16 ty, .string nm', .int .i64 lo, .int .i64 hi, .int .i64 un, .int .i64 ki] 25)).alloc (.cells zform 28)).heap.size := by simp
  simp only [World.size_alloc] at hX3
  clear b1 b2
  go_wp2_with (first
    | (refine wpList_new_form rfl 25 _ _ rfl w2 _ _ rfl rfl rfl (by kernel_rfl) rfl ?_)
    | (refine wpList_store_form rfl 28 _ _ rfl (w2.heap.size + 1) rfl rfl _ _ (by have := Whole.new (w2.alloc (.cells #[.int .i64 cl, .int .u16 ty, .string nm', .int .i64 lo, .int .i64 hi, .int .i64 un, .int .i64 ki] 25)) 28 zform; rw [World.size_alloc] at this; exact this) (by kernel_rfl) rfl ?_))
  have hWT := hW3.setRow_far (by omega : w2.heap.size ≠ w2.heap.size + 1) zform
  have hXT := hX3.setRow zform
  have hbT := below_setRow hb3 (by have := hb2.size; omega : w.heap.size ≤ w2.heap.size + 1) zform
  have hsT : ∀ cs, w2.heap.size + 2 = (((w2.alloc (.cells #[.int .i64 cl, .int .u16 ty, .string nm', .int .i64 lo, .int .i64 hi, .int .i64 un, .int .i64 ki] 25)).alloc (.cells zform 28)).setRow (w2.heap.size + 1) cs).heap.size := fun cs => by rw [setRow_size]; exact hs3
  refine (hT _).mono ?_
  rintro e w4 ⟨ad, rfl, had, hl, b4⟩
  have had' : w2.heap.size + 2 ≤ ad.block := by rw [hsT]; exact had
  have hW4 := hWT.below b4 hWT.lt
  have hX4 := hXT.below b4 hXT.lt
  have hb4 := hbT.trans (b4.mono hbT.size)
  clear hW3 hX3 hb3 hs3 hWT hXT hbT hsT had b4
  have h20 := hb2.size
  clear hb2
  go_wp2_with fail
  go_loopw [9] (fun i wr => ∃ (k : Nat) (acc : Option Form), k ≤ 46 ∧ i = .int .i64 k ∧ Hid (Found L c nm k acc) ∧ Below w.heap.size w wr ∧ Hid (Whole wr w2.heap.size 25 #[.int .i64 cl, .int .u16 ty, .string nm', .int .i64 lo, .int .i64 hi, .int .i64 un, .int .i64 ki]) ∧ Hid (Whole wr (w2.heap.size + 1) 28 (wv acc)) ∧ Hid (Lies wr wr.heap.size (some ad) (flat L))) (fun i _ => 46 - (intOf i).toNat)
  case atStart => exact ⟨0, none, by omega, rfl, Found.zero _ _ _, hb4, hW4, hX4, hl⟩
  case round =>
    obtain ⟨k, acc, hk, rfl, hfo, hbel, hWr, hXr, hlr⟩ := hrel
    by_cases hlt : k < 46
    · obtain ⟨ad', f, e', hb, hf, hcs, hc0, hc1, hc2⟩ := hlr.out.form (by omega : k < L.length)
      cases e'
      by_cases hcl : f.cl = c
      · by_cases hnm : f.nm = nm
        · have HF := Lib.hid (Found.hit hf.out)
          subst hcl hnm
          go_wp2_with (first
            | (refine wpList_load_form rfl 28 _ rfl (ad.add (k * 7)) rfl f hcs _ Try.underlying28 rfl (by kernel_rfl) ?_)
            | (refine wpList_store_form rfl 28 _ _ rfl (w2.heap.size + 1) rfl rfl _ _ hXr.out (by kernel_rfl) (by cases acc <;> rfl) ?_))
          have G1 := Lib.hid (hWr.out.setRow_far (by omega : w2.heap.size ≠ w2.heap.size + 1) #[.int .i64 f.cl, hv f.ty, .string f.nm, .int .i64 f.lo, .int .i64 f.hi, .int .i64 f.un, .int .i64 f.ki])
          have G2 := Lib.hid (hXr.out.setRow #[.int .i64 f.cl, hv f.ty, .string f.nm, .int .i64 f.lo, .int .i64 f.hi, .int .i64 f.un, .int .i64 f.ki])
          have G3 := below_setRow hbel (by omega : w.heap.size ≤ w2.heap.size + 1) #[.int .i64 f.cl, hv f.ty, .string f.nm, .int .i64 f.lo, .int .i64 f.hi, .int .i64 f.un, .int .i64 f.ki]
          have G4 : Hid (Lies (wr.setRow (w2.heap.size + 1) #[.int .i64 f.cl, hv f.ty, .string f.nm, .int .i64 f.lo, .int .i64 f.hi, .int .i64 f.un, .int .i64 f.ki]) wr.heap.size (some ad) (flat L)) :=
            hlr.out.keepA fun ad' e => by cases e; exact setRow_other _ _ _ _ (by omega)
          go_roundw
          case rel => exact ⟨k + 1, some f, by omega, by go_num, HF, G3, G1, G2, by rw [Hid, setRow_size]; exact G4.out⟩
          case measure => simp [intOf]; omega
        · have HF := Lib.hid (hfo.out.miss hf.out fun h => hnm h.2)
          have hne1 : ¬ f.nm.toList = nm.toList := fun e => hnm (ByteArray.ext (Array.ext' (by rw [← ByteArray.toList_eq, ← ByteArray.toList_eq]; exact e)))
          have hne2 : (f.nm.toList == nm.toList) = false := beq_eq_false_iff_ne.2 hne1
          subst hcl
          go_wp2_with fail
          go_roundw
          case rel => exact ⟨k + 1, acc, by omega, by go_num, HF, hbel, hWr, hXr, hlr⟩
          case measure => simp [intOf]; omega
      · have HF := Lib.hid (hfo.out.miss hf.out fun h => hcl h.1)
        go_wp2_with fail
        go_roundw
        case rel => exact ⟨k + 1, acc, by omega, by go_num, HF, hbel, hWr, hXr, hlr⟩
        case measure => simp [intOf]; omega
    · obtain rfl : k = 46 := by omega
      have hacc := hfin.out acc hfo.out
      subst hacc
      have hX5 : Whole wr (w2.heap.size + 1) 28 #[.int .i64 cl, .int .u16 ty, .string nm', .int .i64 lo, .int .i64 hi, .int .i64 un, .int .i64 ki] := by rw [← HR.out]; exact hXr.out
      have HW5 := hWr.out
      obtain ⟨c0, _⟩ := hX5.form7
      go_wp2_with (first
        | (refine wpList_load_row rfl 25 _ rfl w2.heap.size rfl _ _ (0, 0) _ HW5 Try.underlying25 rfl (by kernel_rfl) ?_)
        | (refine wpList_load_row rfl 28 _ rfl (w2.heap.size + 1) rfl _ _ (0, 0) _ hX5 Try.underlying28 rfl (by kernel_rfl) ?_))
      go_ret
      exact ⟨ret_bool (by simp), hbel⟩

theorem law_ShapeNames {H : Type} {enc : TypeId × Value → H} {W : World} {base : Nat} {v0 v1 : Value} {d0 d1 : DataW H} {p0 p1 : List MemPlace}
    (o0 : Value.okWide Try.prog W .any base 3 v0) (h0 : DataW.Trod enc Try.prog W 0 (fun _ => true) true 3 v0 d0 p0) (_s0 : Small Try.prog 3 d0)
    (o1 : Value.okWide Try.prog W .any base 9 v1) (h1 : DataW.Trod enc Try.prog W 0 (fun _ => true) true 9 v1 d1 p1) (_s1 : Small Try.prog 9 d1) :
    Calls Try.prog 4 #[v0, v1] W fun e w' => e = .returned (.bool true) ∧ Below W.heap.size W w' := by
  obtain ⟨c, rfl, _, _, _⟩ := open_int Try.underlying3 o0 h0
  obtain ⟨nm, rfl, _, _, hm⟩ := Go.ChangeMaps.open_string Try.underlying9 o1 h1
  by_cases h : (nm.size : Int) ≤ 100
  · exact snames_any c nm W h
  · exact snames_big c nm W (by omega) hm
end Go.Proofs.Ytemjiijfndnhbaa
