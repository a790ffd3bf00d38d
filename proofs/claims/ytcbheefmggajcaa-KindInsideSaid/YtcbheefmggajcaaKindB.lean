/- Layer 11, package kind: the search, Of, ByName, Known, IsData. They write nothing that was there. -/
import Derived.Test.YtcbheefmggajcaaKindA
import Derived.Laws.ResultCell
import Derived.Laws.CopyOwn



namespace Go.Proofs.Ytcbheefmggajcaa
open Go.RowKit

abbrev zkd : Array Value := #[.int .u8 0, .string ByteArray.empty, .int .u8 0, .int .i64 0, .int .i64 0, .int .i64 0, .int .i64 0]
/-- what a search returns -/
def kV : Option Kd → Value
  | some f => .tuple #[f.val, .bool true]
  | none => .tuple #[.agg zkd, .bool false]
def KNo (p : Kd → Bool) (L : List Kd) (k : Nat) : Prop := ∀ (j : Nat) (f : Kd), j < k → L[j]? = some f → p f = false
theorem KNo.zero (p : Kd → Bool) (L : List Kd) : KNo p L 0 := fun j _ h => absurd h (by omega)
theorem KNo.next {p : Kd → Bool} {L : List Kd} {k : Nat} {f : Kd} (h : KNo p L k) (hf : L[k]? = some f) (hn : p f = false) : KNo p L (k + 1) := fun j g hj hg => by
  by_cases hk : j = k
  · subst hk; rw [hf] at hg; cases hg; exact hn
  · exact h j g (by omega) hg
theorem kfind_none {p : Kd → Bool} {L : List Kd} (h : KNo p L L.length) : L.find? p = none := by
  rw [List.find?_eq_none]
  intro f hf
  obtain ⟨j, hj, rfl⟩ := List.getElem_of_mem hf
  simpa using h j _ hj (List.getElem?_eq_getElem hj)
theorem kfind_some {p : Kd → Bool} {L : List Kd} {k : Nat} {f : Kd} (h : KNo p L k) (hf : L[k]? = some f) (ht : p f = true) : L.find? p = some f := by
  rw [List.find?_eq_some_iff_getElem]
  obtain ⟨hk, rfl⟩ := List.getElem?_eq_some_iff.1 hf
  refine ⟨by simpa using ht, k, hk, rfl, fun j hj => ?_⟩
  simpa using h j _ hj (List.getElem?_eq_getElem (by omega))
/-- the form of a type, or none; the form of a name, or none -/
def klook (t : UInt8) : Option Kd := kT.find? fun f => decide (f.ty = t)
def kbyN (nm : ByteArray) : Option Kd := kT.find? fun f => decide (f.nm = nm)

theorem kof1_any (f : Kd) (t : UInt8) (g : Nat) (w : World) (hg : Whole w g 5 #[bv t]) :
    Calls Try.prog 23 #[f.val, .pointer (some ⟨g, 0, none⟩)] w fun e w' => e = .returned (.bool (decide (f.ty = t))) ∧ Below w.heap.size w w' := by
  have hW := hg.alloc (.cells #[bv f.ty, .string f.nm, bv f.ms, .int .i64 f.lo, .int .i64 f.hi, .int .i64 f.un, .int .i64 f.ki] 24)
  have hc := hW.cell 0
  simp only [List.getElem?_toArray, List.getElem?_cons_zero] at hc
  have hX := Whole.new w 24 #[bv f.ty, .string f.nm, bv f.ms, .int .i64 f.lo, .int .i64 f.hi, .int .i64 f.un, .int .i64 f.ki]
  have hx0 := hX.cell 0
  have hx1 := hX.cell 1
  simp only [List.getElem?_toArray, List.getElem?_cons_zero, List.getElem?_cons_succ] at hx0 hx1
  unfold Kd.val
  have hb : ((f.ty.toNat : Int) == (t.toNat : Int)) = decide (f.ty = t) := by
    by_cases h : f.ty = t
    · simp [h]
    · have h2 : ¬ (f.ty.toNat : Int) = (t.toNat : Int) := fun e => h (UInt8.toNat_inj.1 (by omega))
      simp only [h, decide_false, beq_eq_false_iff_ne, ne_eq, h2, not_false_eq_true]
  rw [← hb]
  clear hb hg hW hX
  go_enter Try.func23, Try.ntmps23
  go_wp2_with fail
  go_ret
  exact ⟨rfl, (Below.refl _ _).alloc (Nat.le_refl _) _⟩

set_option maxHeartbeats 1000000 in
theorem find_kof1 (t : UInt8) (g : Nat) (w : World) (hg : Whole w g 5 #[bv t]) :
    Calls Try.prog 22 #[.func (.func 23) #[] #[.pointer (some ⟨g, 0, none⟩)]] w fun e w' => e = .returned (kV ((kT.find? (fun f => decide (f.ty = t))))) ∧ Below w.heap.size w w' := by
  have hT := ktable_any
  have hlen : kT.length = 23 := rfl
  have HS : Hid (∀ (k : Nat) (f : Kd), KNo (fun f => decide (f.ty = t)) kT k → kT[k]? = some f → decide (f.ty = t) = true → (kT.find? (fun f => decide (f.ty = t))) = some f) := fun k f => kfind_some
  have HE : Hid (KNo (fun f => decide (f.ty = t)) kT 23 → (kT.find? (fun f => decide (f.ty = t))) = none) := kfind_none (L := kT)
  have hgw := hg.lt
  generalize (kT.find? (fun f => decide (f.ty = t))) = r at *
  generalize kT = L at *
  go_enter Try.func22, Try.ntmps22
  go_wp2_with fail
  refine (hT _).mono ?_
  rintro e w1 ⟨rfl, b1⟩
  have hW1 := (Whole.new w 24 zkd).below b1 (by simp)
  have hg1 := (hg.alloc (.cells zkd 24)).below b1 (by simp; omega)
  have hb1 : Below w.heap.size w w1 := ((Below.refl _ w).alloc (Nat.le_refl _) _).trans (b1.mono (by simp))
  clear b1 hT
  go_wp2_with fail
  go_loopw [7] (fun i wr => ∃ k : Nat, k ≤ 23 ∧ i = .int .i64 k ∧ Hid (KNo (fun f => decide (f.ty = t)) L k) ∧ Below w.heap.size w wr ∧ Hid (Whole wr w.heap.size 24 zkd) ∧ Hid (Whole wr g 5 #[bv t])) (fun i _ => 23 - (intOf i).toNat)
  case atStart => exact ⟨0, by omega, rfl, KNo.zero _ _, hb1, hW1, hg1⟩
  case round =>
    obtain ⟨k, hk, rfl, hno, hbel, hWr, hgr⟩ := hrel
    by_cases hlt : k < 23
    · obtain ⟨f, hf⟩ : ∃ f, Hid (L[k]? = some f) := ⟨_, List.getElem?_eq_getElem (by omega)⟩
      have hC := kof1_any f t g (wr.alloc (.cells #[bv f.ty, .string f.nm, bv f.ms, .int .i64 f.lo, .int .i64 f.hi, .int .i64 f.un, .int .i64 f.ki] 24)) (hgr.out.alloc _)
      unfold Kd.val at hC
      have hsz := hbel.size
      by_cases hft : f.ty = t
      · have hd : decide (f.ty = t) = true := by simpa using hft
        have HL := Lib.hid (HS.out k f hno.out hf.out hd)
        rw [hd] at hC
        clear hd hft
        go_wp2_with (first
          | (refine wpList_index_kd rfl 49 24 _ _ rfl L k f rfl rfl hf.out (by rw [hlen]; exact Try.underlying49) _ Try.underlying24 rfl (by kernel_rfl) ?_)
          | (refine wpList_new_kd rfl 24 _ _ rfl wr _ _ rfl rfl rfl (by kernel_rfl) rfl ?_)
          | (refine wpList_load_row rfl 24 _ rfl wr.heap.size rfl _ _ (0, 0) _ (heap_alloc_new wr _) Try.underlying24 rfl (by kernel_rfl) ?_))
        refine hC.mono ?_
        rintro e w2 ⟨rfl, b2⟩
        have hK2 := (Whole.new wr 24 #[bv f.ty, .string f.nm, bv f.ms, .int .i64 f.lo, .int .i64 f.hi, .int .i64 f.un, .int .i64 f.ki]).below b2 (by simp)
        have hW2 := (hWr.out.alloc (.cells #[bv f.ty, .string f.nm, bv f.ms, .int .i64 f.lo, .int .i64 f.hi, .int .i64 f.un, .int .i64 f.ki] 24)).below b2 (by simp; have := hWr.out.lt; omega)
        have hb2 := (hbel.alloc hsz (.cells #[bv f.ty, .string f.nm, bv f.ms, .int .i64 f.lo, .int .i64 f.hi, .int .i64 f.un, .int .i64 f.ki] 24)).trans (b2.mono (by simp; omega))
        clear b2 hC
        go_wp2_with (first
          | (refine wpList_load_row rfl 24 _ rfl wr.heap.size rfl _ _ (0, 0) _ hK2 Try.underlying24 rfl (by kernel_rfl) ?_)
          | (refine wpList_store_kd rfl 24 _ _ rfl w.heap.size rfl rfl _ _ hW2 (by kernel_rfl) rfl ?_))
        (try simp only [Exit.inBlock, Exit.then])
        refine bodyPost_ret (results_row_tmp rfl _ _ w.heap.size 24 _ _ rfl (hW2.setRow _) Try.underlying24 rfl (by kernel_rfl)) rfl ?_
        exact ⟨by rw [HL.out]; rfl, below_setRow hb2 (Nat.le_refl _) _⟩
      · have hd : decide (f.ty = t) = false := by simpa using hft
        have HN := Lib.hid (hno.out.next hf.out hd)
        rw [hd] at hC
        clear hd hft
        go_wp2_with (first
          | (refine wpList_index_kd rfl 49 24 _ _ rfl L k f rfl rfl hf.out (by rw [hlen]; exact Try.underlying49) _ Try.underlying24 rfl (by kernel_rfl) ?_)
          | (refine wpList_new_kd rfl 24 _ _ rfl wr _ _ rfl rfl rfl (by kernel_rfl) rfl ?_)
          | (refine wpList_load_row rfl 24 _ rfl wr.heap.size rfl _ _ (0, 0) _ (heap_alloc_new wr _) Try.underlying24 rfl (by kernel_rfl) ?_))
        refine hC.mono ?_
        rintro e w2 ⟨rfl, b2⟩
        have hW2 := Lib.hid ((hWr.out.alloc (.cells #[bv f.ty, .string f.nm, bv f.ms, .int .i64 f.lo, .int .i64 f.hi, .int .i64 f.un, .int .i64 f.ki] 24)).below b2 (by simp; have := hWr.out.lt; omega))
        have hg2 := Lib.hid ((hgr.out.alloc (.cells #[bv f.ty, .string f.nm, bv f.ms, .int .i64 f.lo, .int .i64 f.hi, .int .i64 f.un, .int .i64 f.ki] 24)).below b2 (by simp; have := hgr.out.lt; omega))
        have hb2 := (hbel.alloc hsz (.cells #[bv f.ty, .string f.nm, bv f.ms, .int .i64 f.lo, .int .i64 f.hi, .int .i64 f.un, .int .i64 f.ki] 24)).trans (b2.mono (by simp; omega))
        clear b2 hC
        go_wp2_with fail
        go_roundw
        case rel => exact ⟨k + 1, by omega, by go_num, HN, hb2, hW2, hg2⟩
        case measure => simp [intOf]; omega
    · obtain rfl : k = 23 := by omega
      have HL := Lib.hid (HE.out hno.out)
      go_wp2_with (first | (refine wpList_store_kd rfl 24 _ _ rfl w.heap.size rfl rfl _ _ hWr.out (by kernel_rfl) rfl ?_))
      (try simp only [Exit.inBlock, Exit.then])
      refine bodyPost_ret (results_row_tmp rfl _ _ w.heap.size 24 _ _ rfl (hWr.out.setRow _) Try.underlying24 rfl (by kernel_rfl)) rfl ?_
      exact ⟨by rw [HL.out]; rfl, below_setRow hbel (Nat.le_refl _) _⟩

set_option maxHeartbeats 1000000 in
theorem kof_any (t : UInt8) (w : World) : Calls Try.prog 9 #[bv t] w fun e w' => e = .returned (kV ((kT.find? (fun f => decide (f.ty = t))))) ∧ Below w.heap.size w w' := by
  have hF := find_kof1 t w.heap.size ((w.alloc (.cells #[bv t] 5)).alloc (.cells zkd 24)) ((Whole.new w _ _).alloc _)
  have hW := (Whole.new (w.alloc (.cells #[bv t] 5)) 24 zkd)
  simp only [World.size_alloc] at hF hW
  have hb : Below w.heap.size w ((w.alloc (.cells #[bv t] 5)).alloc (.cells zkd 24)) := ((Below.refl _ _).alloc (Nat.le_refl _) _).alloc (by simp) _
  generalize (kT.find? (fun f => decide (f.ty = t))) = r at *
  rcases r with _ | f
  all_goals
    unfold kV at hF ⊢
    (try unfold Kd.val at hF ⊢)
    go_enter Try.func9, Try.ntmps9
    go_wp2_with fail
    refine hF.mono ?_
    rintro e w1 ⟨rfl, b1⟩
    have hW1 := hW.below b1 (by omega)
    have hb1 := hb.trans (b1.mono (by omega))
    clear b1 hW hb hF
    go_wp2_with (first | (refine wpList_store_kd rfl 24 _ _ rfl (w.heap.size + 1) rfl rfl _ _ hW1 (by kernel_rfl) rfl ?_))
    (try simp only [Exit.inBlock, Exit.then])
    refine bodyPost_ret (results_row_tmp rfl _ _ (w.heap.size + 1) 24 _ _ rfl (hW1.setRow _) Try.underlying24 rfl (by kernel_rfl)) rfl ?_
    exact ⟨rfl, below_setRow hb1 (Nat.le_add_right _ _) _⟩

theorem kbn1_any (f : Kd) (nm : ByteArray) (g : Nat) (w : World) (hg : Whole w g 9 #[.string nm]) :
    Calls Try.prog 24 #[f.val, .pointer (some ⟨g, 0, none⟩)] w fun e w' => e = .returned (.bool (decide (f.nm = nm))) ∧ Below w.heap.size w w' := by
  have hW := hg.alloc (.cells #[bv f.ty, .string f.nm, bv f.ms, .int .i64 f.lo, .int .i64 f.hi, .int .i64 f.un, .int .i64 f.ki] 24)
  have hc := hW.cell 0
  simp only [List.getElem?_toArray, List.getElem?_cons_zero] at hc
  have hX := Whole.new w 24 #[bv f.ty, .string f.nm, bv f.ms, .int .i64 f.lo, .int .i64 f.hi, .int .i64 f.un, .int .i64 f.ki]
  have hx0 := hX.cell 0
  have hx1 := hX.cell 1
  simp only [List.getElem?_toArray, List.getElem?_cons_zero, List.getElem?_cons_succ] at hx0 hx1
  unfold Kd.val
  have hb : (f.nm.toList == nm.toList) = decide (f.nm = nm) := by
    by_cases h : f.nm = nm
    · simp [h]
    · have h2 : ¬ f.nm.toList = nm.toList := fun e => h (ByteArray.ext (Array.ext' (by rw [← ByteArray.toList_eq, ← ByteArray.toList_eq]; exact e)))
      simp only [h, decide_false, beq_eq_false_iff_ne, ne_eq, h2, not_false_eq_true]
  rw [← hb]
  clear hb hg hW hX
  go_enter Try.func24, Try.ntmps24
  go_wp2_with fail
  go_ret
  exact ⟨rfl, (Below.refl _ _).alloc (Nat.le_refl _) _⟩

set_option maxHeartbeats 1000000 in
theorem find_kbn1 (nm : ByteArray) (g : Nat) (w : World) (hg : Whole w g 9 #[.string nm]) :
    Calls Try.prog 22 #[.func (.func 24) #[] #[.pointer (some ⟨g, 0, none⟩)]] w fun e w' => e = .returned (kV ((kT.find? (fun f => decide (f.nm = nm))))) ∧ Below w.heap.size w w' := by
  have hT := ktable_any
  have hlen : kT.length = 23 := rfl
  have HS : Hid (∀ (k : Nat) (f : Kd), KNo (fun f => decide (f.nm = nm)) kT k → kT[k]? = some f → decide (f.nm = nm) = true → (kT.find? (fun f => decide (f.nm = nm))) = some f) := fun k f => kfind_some
  have HE : Hid (KNo (fun f => decide (f.nm = nm)) kT 23 → (kT.find? (fun f => decide (f.nm = nm))) = none) := kfind_none (L := kT)
  have hgw := hg.lt
  generalize (kT.find? (fun f => decide (f.nm = nm))) = r at *
  generalize kT = L at *
  go_enter Try.func22, Try.ntmps22
  go_wp2_with fail
  refine (hT _).mono ?_
  rintro e w1 ⟨rfl, b1⟩
  have hW1 := (Whole.new w 24 zkd).below b1 (by simp)
  have hg1 := (hg.alloc (.cells zkd 24)).below b1 (by simp; omega)
  have hb1 : Below w.heap.size w w1 := ((Below.refl _ w).alloc (Nat.le_refl _) _).trans (b1.mono (by simp))
  clear b1 hT
  go_wp2_with fail
  go_loopw [7] (fun i wr => ∃ k : Nat, k ≤ 23 ∧ i = .int .i64 k ∧ Hid (KNo (fun f => decide (f.nm = nm)) L k) ∧ Below w.heap.size w wr ∧ Hid (Whole wr w.heap.size 24 zkd) ∧ Hid (Whole wr g 9 #[.string nm])) (fun i _ => 23 - (intOf i).toNat)
  case atStart => exact ⟨0, by omega, rfl, KNo.zero _ _, hb1, hW1, hg1⟩
  case round =>
    obtain ⟨k, hk, rfl, hno, hbel, hWr, hgr⟩ := hrel
    by_cases hlt : k < 23
    · obtain ⟨f, hf⟩ : ∃ f, Hid (L[k]? = some f) := ⟨_, List.getElem?_eq_getElem (by omega)⟩
      have hC := kbn1_any f nm g (wr.alloc (.cells #[bv f.ty, .string f.nm, bv f.ms, .int .i64 f.lo, .int .i64 f.hi, .int .i64 f.un, .int .i64 f.ki] 24)) (hgr.out.alloc _)
      unfold Kd.val at hC
      have hsz := hbel.size
      by_cases hft : f.nm = nm
      · have hd : decide (f.nm = nm) = true := by simpa using hft
        have HL := Lib.hid (HS.out k f hno.out hf.out hd)
        rw [hd] at hC
        clear hd hft
        go_wp2_with (first
          | (refine wpList_index_kd rfl 49 24 _ _ rfl L k f rfl rfl hf.out (by rw [hlen]; exact Try.underlying49) _ Try.underlying24 rfl (by kernel_rfl) ?_)
          | (refine wpList_new_kd rfl 24 _ _ rfl wr _ _ rfl rfl rfl (by kernel_rfl) rfl ?_)
          | (refine wpList_load_row rfl 24 _ rfl wr.heap.size rfl _ _ (0, 0) _ (heap_alloc_new wr _) Try.underlying24 rfl (by kernel_rfl) ?_))
        refine hC.mono ?_
        rintro e w2 ⟨rfl, b2⟩
        have hK2 := (Whole.new wr 24 #[bv f.ty, .string f.nm, bv f.ms, .int .i64 f.lo, .int .i64 f.hi, .int .i64 f.un, .int .i64 f.ki]).below b2 (by simp)
        have hW2 := (hWr.out.alloc (.cells #[bv f.ty, .string f.nm, bv f.ms, .int .i64 f.lo, .int .i64 f.hi, .int .i64 f.un, .int .i64 f.ki] 24)).below b2 (by simp; have := hWr.out.lt; omega)
        have hb2 := (hbel.alloc hsz (.cells #[bv f.ty, .string f.nm, bv f.ms, .int .i64 f.lo, .int .i64 f.hi, .int .i64 f.un, .int .i64 f.ki] 24)).trans (b2.mono (by simp; omega))
        clear b2 hC
        go_wp2_with (first
          | (refine wpList_load_row rfl 24 _ rfl wr.heap.size rfl _ _ (0, 0) _ hK2 Try.underlying24 rfl (by kernel_rfl) ?_)
          | (refine wpList_store_kd rfl 24 _ _ rfl w.heap.size rfl rfl _ _ hW2 (by kernel_rfl) rfl ?_))
        (try simp only [Exit.inBlock, Exit.then])
        refine bodyPost_ret (results_row_tmp rfl _ _ w.heap.size 24 _ _ rfl (hW2.setRow _) Try.underlying24 rfl (by kernel_rfl)) rfl ?_
        exact ⟨by rw [HL.out]; rfl, below_setRow hb2 (Nat.le_refl _) _⟩
      · have hd : decide (f.nm = nm) = false := by simpa using hft
        have HN := Lib.hid (hno.out.next hf.out hd)
        rw [hd] at hC
        clear hd hft
        go_wp2_with (first
          | (refine wpList_index_kd rfl 49 24 _ _ rfl L k f rfl rfl hf.out (by rw [hlen]; exact Try.underlying49) _ Try.underlying24 rfl (by kernel_rfl) ?_)
          | (refine wpList_new_kd rfl 24 _ _ rfl wr _ _ rfl rfl rfl (by kernel_rfl) rfl ?_)
          | (refine wpList_load_row rfl 24 _ rfl wr.heap.size rfl _ _ (0, 0) _ (heap_alloc_new wr _) Try.underlying24 rfl (by kernel_rfl) ?_))
        refine hC.mono ?_
        rintro e w2 ⟨rfl, b2⟩
        have hW2 := Lib.hid ((hWr.out.alloc (.cells #[bv f.ty, .string f.nm, bv f.ms, .int .i64 f.lo, .int .i64 f.hi, .int .i64 f.un, .int .i64 f.ki] 24)).below b2 (by simp; have := hWr.out.lt; omega))
        have hg2 := Lib.hid ((hgr.out.alloc (.cells #[bv f.ty, .string f.nm, bv f.ms, .int .i64 f.lo, .int .i64 f.hi, .int .i64 f.un, .int .i64 f.ki] 24)).below b2 (by simp; have := hgr.out.lt; omega))
        have hb2 := (hbel.alloc hsz (.cells #[bv f.ty, .string f.nm, bv f.ms, .int .i64 f.lo, .int .i64 f.hi, .int .i64 f.un, .int .i64 f.ki] 24)).trans (b2.mono (by simp; omega))
        clear b2 hC
        go_wp2_with fail
        go_roundw
        case rel => exact ⟨k + 1, by omega, by go_num, HN, hb2, hW2, hg2⟩
        case measure => simp [intOf]; omega
    · obtain rfl : k = 23 := by omega
      have HL := Lib.hid (HE.out hno.out)
      go_wp2_with (first | (refine wpList_store_kd rfl 24 _ _ rfl w.heap.size rfl rfl _ _ hWr.out (by kernel_rfl) rfl ?_))
      (try simp only [Exit.inBlock, Exit.then])
      refine bodyPost_ret (results_row_tmp rfl _ _ w.heap.size 24 _ _ rfl (hWr.out.setRow _) Try.underlying24 rfl (by kernel_rfl)) rfl ?_
      exact ⟨by rw [HL.out]; rfl, below_setRow hbel (Nat.le_refl _) _⟩

set_option maxHeartbeats 1000000 in
theorem kbyname_any (nm : ByteArray) (w : World) : Calls Try.prog 13 #[.string nm] w fun e w' => e = .returned (kV ((kT.find? (fun f => decide (f.nm = nm))))) ∧ Below w.heap.size w w' := by
  have hF := find_kbn1 nm w.heap.size ((w.alloc (.cells #[.string nm] 9)).alloc (.cells zkd 24)) ((Whole.new w _ _).alloc _)
  have hW := (Whole.new (w.alloc (.cells #[.string nm] 9)) 24 zkd)
  simp only [World.size_alloc] at hF hW
  have hb : Below w.heap.size w ((w.alloc (.cells #[.string nm] 9)).alloc (.cells zkd 24)) := ((Below.refl _ _).alloc (Nat.le_refl _) _).alloc (by simp) _
  generalize (kT.find? (fun f => decide (f.nm = nm))) = r at *
  rcases r with _ | f
  all_goals
    unfold kV at hF ⊢
    (try unfold Kd.val at hF ⊢)
    go_enter Try.func13, Try.ntmps13
    go_wp2_with fail
    refine hF.mono ?_
    rintro e w1 ⟨rfl, b1⟩
    have hW1 := hW.below b1 (by omega)
    have hb1 := hb.trans (b1.mono (by omega))
    clear b1 hW hb hF
    go_wp2_with (first | (refine wpList_store_kd rfl 24 _ _ rfl (w.heap.size + 1) rfl rfl _ _ hW1 (by kernel_rfl) rfl ?_))
    (try simp only [Exit.inBlock, Exit.then])
    refine bodyPost_ret (results_row_tmp rfl _ _ (w.heap.size + 1) 24 _ _ rfl (hW1.setRow _) Try.underlying24 rfl (by kernel_rfl)) rfl ?_
    exact ⟨rfl, below_setRow hb1 (Nat.le_add_right _ _) _⟩

theorem kknown_any (t : UInt8) (w : World) : Calls Try.prog 11 #[bv t] w fun e w' => e = .returned (.bool (klook t).isSome) ∧ Below w.heap.size w w' := by
  have hO := kof_any t w
  unfold klook
  generalize kT.find? (fun f => decide (f.ty = t)) = r at hO ⊢
  rcases r with _ | f
  all_goals
    unfold kV at hO
    (try unfold Kd.val at hO)
    go_enter Try.func11, Try.ntmps11
    go_wp2_with fail
    refine hO.mono ?_
    rintro e w1 ⟨rfl, b1⟩
    go_wp2_with (refine wpList_new_kd rfl 24 _ _ rfl w1 _ _ rfl rfl rfl (by kernel_rfl) rfl ?_)
    go_ret
    exact ⟨rfl, b1.alloc b1.size _⟩
/-- one of the two of data -/
def isDataB (t : UInt8) : Bool := decide (t = 0) || decide (t = 64)
theorem isdata_any (t : UInt8) (w : World) : Calls Try.prog 12 #[bv t] w fun e w' => e = .returned (.bool (isDataB t)) ∧ w' = w := by
  unfold isDataB
  by_cases h0 : t = 0
  · subst h0
    go_enter Try.func12, Try.ntmps12
    go_wp2_with fail
    go_ret
    exact ⟨rfl, rfl⟩
  · have e0 : ¬ (t.toNat : Int) = 0 := fun e => h0 (UInt8.toNat_inj.1 (by simpa using e))
    by_cases h1 : t = 64
    · subst h1
      go_enter Try.func12, Try.ntmps12
      go_wp2_with fail
      go_ret
      exact ⟨rfl, rfl⟩
    · have e1 : ¬ (t.toNat : Int) = 64 := fun e => h1 (UInt8.toNat_inj.1 (by have : (64 : UInt8).toNat = 64 := rfl; omega))
      have e2 : ((t.toNat : Int) == 64) = false := beq_eq_false_iff_ne.2 e1
      have HX := Lib.hid h0
      have HY := Lib.hid h1
      clear h0 h1 e1
      go_enter Try.func12, Try.ntmps12
      go_wp2_with fail
      go_ret
      exact ⟨ret_bool (by simp [HX.out, HY.out]; omega), rfl⟩
end Go.Proofs.Ytcbheefmggajcaa

