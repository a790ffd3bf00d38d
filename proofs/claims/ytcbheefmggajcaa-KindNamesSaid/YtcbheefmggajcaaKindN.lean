/- Layer 11: the law KindNames. -/
import Derived.Test.YtcbheefmggajcaaKindE
import Derived.Test.YtcbheefmggajcaaKindR
import Derived.Test.YtcbheefmggajcaaOpen
import Derived.Laws.StructEq




namespace Go.Proofs.Ytcbheefmggajcaa
open Go.ChangeShapes Go.WideShapes Go.ChangeAt Go.RowKit


theorem Whole.setRow_far {w : World} {g k : Nat} {t : TypeId} {cs : Array Value} (h : Whole w g t cs) (hk : g ≠ k) (cs' : Array Value) : Whole (w.setRow k cs') g t cs := (setRow_other w k g cs' hk).trans h
theorem Lies.keepB {w w' : World} {B : Nat} {A : Option Addr} {xs : List Value} (h : Lies w B A xs) (hk : ∀ ad, A = some ad → w'.heap[ad.block]? = w.heap[ad.block]?) : Lies w' B A xs := fun hne => by
  obtain ⟨ad, h1, h2, h3⟩ := h hne
  refine ⟨ad, h1, h2, fun j u hu => ?_⟩
  rw [World.cell?_of_block (w := w) (by rw [blk_add]; exact hk ad h1)]
  exact h3 j u hu
/-- what the statement's loop has found so far -/
structure KFound (L : List Kd) (nm : ByteArray) (k : Nat) (acc : Option Kd) : Prop where
  yes : ∀ f, acc = some f → f ∈ L ∧ f.nm = nm
  no : acc = none → ∀ (j : Nat) (f : Kd), j < k → L[j]? = some f → ¬ f.nm = nm
theorem KFound.zero (L : List Kd) (nm : ByteArray) : KFound L nm 0 none := ⟨fun f h => (by cases h), fun _ j f h => absurd h (by omega)⟩
theorem KFound.hit {L : List Kd} {k : Nat} {f : Kd} (hf : L[k]? = some f) : KFound L f.nm (k + 1) (some f) :=
  ⟨fun g h => (by cases h; exact ⟨List.mem_of_getElem? hf, rfl⟩), fun h => (by cases h)⟩
theorem KFound.miss {L : List Kd} {nm : ByteArray} {k : Nat} {acc : Option Kd} {f : Kd} (h : KFound L nm k acc) (hf : L[k]? = some f) (hn : ¬ f.nm = nm) : KFound L nm (k + 1) acc :=
  ⟨h.yes, fun e j g hj hg => by
    by_cases hk : j = k
    · subst hk; rw [hf] at hg; cases hg; exact hn
    · exact h.no e j g (by omega) hg⟩
theorem kinj {α β : Type} {L : List α} {g : α → β} (h : L.Pairwise fun x y => g x ≠ g y) {x y : α} (hx : x ∈ L) (hy : y ∈ L) (e : g x = g y) : x = y := by
  induction L with
  | nil => cases hx
  | cons z L ih =>
    rw [List.pairwise_cons] at h
    rcases List.mem_cons.1 hx with hx1 | hx1
    · rcases List.mem_cons.1 hy with hy1 | hy1
      · rw [hx1, hy1]
      · rw [hx1] at e; exact absurd e (h.1 y hy1)
    · rcases List.mem_cons.1 hy with hy1 | hy1
      · rw [hy1] at e; exact absurd e.symm (h.1 x hx1)
      · exact ih h.2 hx1 hy1
theorem kT_names : kT.Pairwise fun f g => f.nm ≠ g.nm := by decide +kernel
theorem KFound.fin {nm : ByteArray} {acc : Option Kd} (h : KFound kT nm 23 acc) : acc = kT.find? (fun f => decide (f.nm = nm)) := by
  cases acc with
  | some f =>
    obtain ⟨h1, h2⟩ := h.yes f rfl
    cases hl : kT.find? (fun f => decide (f.nm = nm)) with
    | none =>
      rw [List.find?_eq_none] at hl
      exact absurd (hl f h1) (by simpa using h2)
    | some g =>
      have h3 := List.mem_of_find?_eq_some hl
      have h4 := List.find?_some hl
      simp only [decide_eq_true_eq] at h4
      rw [kinj kT_names h1 h3 (h2.trans h4.symm)]
  | none =>
    refine (List.find?_eq_none.2 fun f hf => ?_).symm
    obtain ⟨j, hj, rfl⟩ := List.getElem_of_mem hf
    simpa using h.no rfl j _ hj (List.getElem?_eq_getElem hj)
/-- a form's cells, or zeros -/
def kwv : Option Kd → Array Value
  | some f => #[bv f.ty, .string f.nm, bv f.ms, .int .i64 f.lo, .int .i64 f.hi, .int .i64 f.un, .int .i64 f.ki]
  | none => zkd

set_option maxRecDepth 100000 in
set_option maxHeartbeats 8000000 in
theorem klnames_big (nm : ByteArray) (w : World) (h : (100 : Int) < (nm.size : Int)) (_hm : nm.size ≤ maxLen) :
    Calls Try.prog 4 #[.string nm] w fun e w' => e = .returned (.bool true) ∧ Below w.heap.size w w' := by
  go_enter Try.func4, Try.ntmps4
  go_wp2_with fail
  refine (kawake_any w).mono ?_
  rintro e w1 ⟨rfl, b1⟩
  go_wp2_with fail
  refine (kawake_any w1).mono ?_
  rintro e w2 ⟨rfl, b2⟩
  go_wp2_with fail
  go_ret
  exact ⟨rfl, b1.trans (b2.mono b1.size)⟩

set_option maxRecDepth 100000 in
set_option maxHeartbeats 8000000 in
theorem klnames_any (nm : ByteArray) (w : World) (hs : (nm.size : Int) ≤ 100) :
    Calls Try.prog 4 #[.string nm] w fun e w' => e = .returned (.bool true) ∧ Below w.heap.size w w' := by
  have hB := kbyname_any nm
  have hT := rktab_any
  have hlen : kT.length = 23 := rfl
  have hfin : Hid (∀ acc, KFound kT nm 23 acc → acc = kT.find? (fun f => decide (f.nm = nm))) := fun acc h => h.fin
  generalize kT.find? (fun f => decide (f.nm = nm)) = r at *
  generalize kT = L at *
  have hV : Hid (∀ v, kV r = v → v = .tuple #[.agg (kwv r), .bool r.isSome]) := fun v h => by subst h; cases r <;> rfl
  obtain ⟨ty, nm', mk, lo, hi, un, ki, hr⟩ : ∃ ty nm' mk lo hi un ki, kwv r = #[.int .u8 ty, .string nm', .int .u8 mk, .int .i64 lo, .int .i64 hi, .int .i64 un, .int .i64 ki] := by
    cases r with
    | none => exact ⟨_, _, _, _, _, _, _, rfl⟩
    | some f => exact ⟨_, _, _, _, _, _, _, rfl⟩
  rw [hV.out _ rfl, hr] at hB
  generalize hok : r.isSome = ok at *
  have HR := Lib.hid hr
  have HOK := Lib.hid hok
  clear hV hr hok
  go_enter Try.func4, Try.ntmps4
  go_wp2_with fail
  refine (kawake_any w).mono ?_
  rintro e w1 ⟨rfl, b1⟩
  go_wp2_with fail
  refine (hB _).mono ?_
  rintro e w2 ⟨rfl, b2⟩
  have hb2 := b1.trans (b2.mono b1.size)
  have hW3 := (Whole.new w2 24 #[.int .u8 ty, .string nm', .int .u8 mk, .int .i64 lo, .int .i64 hi, .int .i64 un, .int .i64 ki]).alloc (.cells zkd 27)
  have hX3 := Whole.new (w2.alloc (.cells #[.int .u8 ty, .string nm', .int .u8 mk, .int .i64 lo, .int .i64 hi, .int .i64 un, .int .i64 ki] 24)) 27 zkd
  have hb3 := (hb2.alloc hb2.size (.cells #[.int .u8 ty, .string nm', .int .u8 mk, .int .i64 lo, .int .i64 hi, .int .i64 un, .int .i64 ki] 24)).alloc (by simp; have := hb2.size; omega) (.cells zkd 27)
  have hs3 : w2.heap.size + 2 = ((w2.alloc (.cells #[.int .u8 ty, .string nm', .int .u8 mk, .int .i64 lo, .int .i64 hi, .int .i64 un, .int .i64 ki] 24)).alloc (.cells zkd 27)).heap.size := by simp
  simp only [World.size_alloc] at hX3
  clear b1 b2
  go_wp2_with (first
    | (refine wpList_new_kd rfl 24 _ _ rfl w2 _ _ rfl rfl rfl (by kernel_rfl) rfl ?_)
    | (refine wpList_store_kd rfl 27 _ _ rfl (w2.heap.size + 1) rfl rfl _ _ (by have := Whole.new (w2.alloc (.cells #[.int .u8 ty, .string nm', .int .u8 mk, .int .i64 lo, .int .i64 hi, .int .i64 un, .int .i64 ki] 24)) 27 zkd; rw [World.size_alloc] at this; exact this) (by kernel_rfl) rfl ?_))
  have hWT := hW3.setRow_far (by omega : w2.heap.size ≠ w2.heap.size + 1) zkd
  have hXT := hX3.setRow zkd
  have hbT := below_setRow hb3 (by have := hb2.size; omega : w.heap.size ≤ w2.heap.size + 1) zkd
  have hsT : ∀ cs, w2.heap.size + 2 = (((w2.alloc (.cells #[.int .u8 ty, .string nm', .int .u8 mk, .int .i64 lo, .int .i64 hi, .int .i64 un, .int .i64 ki] 24)).alloc (.cells zkd 27)).setRow (w2.heap.size + 1) cs).heap.size := fun cs => by rw [setRow_size]; exact hs3
  refine (hT _).mono ?_
  rintro e w4 ⟨ad, rfl, had, hl, b4⟩
  have had' : w2.heap.size + 2 ≤ ad.block := by rw [hsT]; exact had
  have hW4 := hWT.below b4 hWT.lt
  have hX4 := hXT.below b4 hXT.lt
  have hb4 := hbT.trans (b4.mono hbT.size)
  clear hW3 hX3 hb3 hs3 hWT hXT hbT hsT had b4
  have h20 := hb2.size
  clear hb2
  go_wp2_with fail
  go_loopw [6, 8] (fun hb i wr => ∃ (k : Nat) (acc : Option Kd), k ≤ 23 ∧ i = .int .i64 k ∧ hb = .bool acc.isSome ∧ Hid (KFound L nm k acc) ∧ Below w.heap.size w wr ∧ Hid (Whole wr w2.heap.size 24 #[.int .u8 ty, .string nm', .int .u8 mk, .int .i64 lo, .int .i64 hi, .int .i64 un, .int .i64 ki]) ∧ Hid (Whole wr (w2.heap.size + 1) 27 (kwv acc)) ∧ Hid (Lies wr wr.heap.size (some ad) (kflat L))) (fun _ i _ => 23 - (intOf i).toNat)
  case atStart => exact ⟨0, none, by omega, rfl, rfl, KFound.zero _ _, hb4, hW4, hX4, hl⟩
  case round =>
    obtain ⟨k, acc, hk, rfl, rfl, hfo, hbel, hWr, hXr, hlr⟩ := hrel
    by_cases hlt : k < 23
    · obtain ⟨ad', f, e', hb, hf, hcs, hc0, hc1⟩ := hlr.out.kd (by omega : k < L.length)
      cases e'
      by_cases hnm : f.nm = nm
      · have HF := Lib.hid (KFound.hit hf.out)
        subst hnm
        go_wp2_with (first
          | (refine wpList_load_kd rfl 27 _ rfl (ad.add (k * 7)) rfl f hcs _ Try.underlying27 rfl (by kernel_rfl) ?_)
          | (refine wpList_store_kd rfl 27 _ _ rfl (w2.heap.size + 1) rfl rfl _ _ hXr.out (by kernel_rfl) (by cases acc <;> rfl) ?_))
        have G1 := Lib.hid (hWr.out.setRow_far (by omega : w2.heap.size ≠ w2.heap.size + 1) #[bv f.ty, .string f.nm, bv f.ms, .int .i64 f.lo, .int .i64 f.hi, .int .i64 f.un, .int .i64 f.ki])
        have G2 := Lib.hid (hXr.out.setRow #[bv f.ty, .string f.nm, bv f.ms, .int .i64 f.lo, .int .i64 f.hi, .int .i64 f.un, .int .i64 f.ki])
        have G3 := below_setRow hbel (by omega : w.heap.size ≤ w2.heap.size + 1) #[bv f.ty, .string f.nm, bv f.ms, .int .i64 f.lo, .int .i64 f.hi, .int .i64 f.un, .int .i64 f.ki]
        have G4 : Hid (Lies (wr.setRow (w2.heap.size + 1) #[bv f.ty, .string f.nm, bv f.ms, .int .i64 f.lo, .int .i64 f.hi, .int .i64 f.un, .int .i64 f.ki]) wr.heap.size (some ad) (kflat L)) :=
          hlr.out.keepB fun ad' e => by cases e; exact setRow_other _ _ _ _ (by omega)
        go_roundw
        case rel => exact ⟨k + 1, some f, by omega, by go_num, rfl, HF, G3, G1, G2, by rw [Hid, setRow_size]; exact G4.out⟩
        case measure => simp [intOf]; omega
      · have HF := Lib.hid (hfo.out.miss hf.out hnm)
        have hne1 : ¬ f.nm.toList = nm.toList := fun e => hnm (ByteArray.ext (Array.ext' (by rw [← ByteArray.toList_eq, ← ByteArray.toList_eq]; exact e)))
        have hne2 : (f.nm.toList == nm.toList) = false := beq_eq_false_iff_ne.2 hne1
        go_wp2_with fail
        go_roundw
        case rel => exact ⟨k + 1, acc, by omega, by go_num, rfl, HF, hbel, hWr, hXr, hlr⟩
        case measure => simp [intOf]; omega
    · obtain rfl : k = 23 := by omega
      have hacc := hfin.out acc hfo.out
      subst hacc
      have hX5 : Whole wr (w2.heap.size + 1) 27 #[.int .u8 ty, .string nm', .int .u8 mk, .int .i64 lo, .int .i64 hi, .int .i64 un, .int .i64 ki] := by rw [← HR.out]; exact hXr.out
      have HW5 := hWr.out
      rw [HOK.out]
      go_wp2_with (first
        | (refine wpList_load_row rfl 24 _ rfl w2.heap.size rfl _ _ (0, 0) _ HW5 Try.underlying24 rfl (by kernel_rfl) ?_)
        | (refine wpList_load_row rfl 27 _ rfl (w2.heap.size + 1) rfl _ _ (0, 0) _ hX5 Try.underlying27 rfl (by kernel_rfl) ?_))
      go_ret
      exact ⟨ret_bool (by simp), hbel⟩

theorem law_KindNames {H : Type} {enc : TypeId × Value → H} {W : World} {base : Nat} {v0 : Value} {d0 : DataW H} {p0 : List MemPlace}
    (o0 : Value.okWide Try.prog W .any base 9 v0) (h0 : DataW.Trod enc Try.prog W 0 (fun _ => true) true 9 v0 d0 p0) (_s0 : Small Try.prog 9 d0) :
    Calls Try.prog 4 #[v0] W fun e w' => e = .returned (.bool true) ∧ Below W.heap.size W w' := by
  obtain ⟨nm, rfl, _, _, hm⟩ := Go.ChangeMaps.open_string Try.underlying9 o0 h0
  by_cases h : (nm.size : Int) ≤ 100
  · exact klnames_any nm W h
  · exact klnames_big nm W (by omega) hm
end Go.Proofs.Ytcbheefmggajcaa

