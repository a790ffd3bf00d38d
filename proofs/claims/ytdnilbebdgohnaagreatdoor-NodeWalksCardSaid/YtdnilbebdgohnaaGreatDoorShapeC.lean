/- Layer 7, package shape: the table of a class, the place of a type in it, Of. They write nothing that was there. -/
import Derived.Test.YtdnilbebdgohnaaGreatDoorShapeB
import Derived.Laws.ResultCell
import Derived.Laws.CopyOwn



namespace Go.Proofs.YtdnilbebdgohnaaGreatDoor
open Go.RowKit

/-- the forms of a class -/
def tab (c : Int) : List Form := if c = 1 then pT else if c = 2 then cT else []
theorem tab_len (c : Int) : (tab c).length ≤ 27 := by
  unfold tab
  split
  · exact Nat.le_refl _
  · split
    · decide
    · exact Nat.zero_le _

theorem table_any (c : Int) (w : World) : Calls Tryz.prog 56 #[.int .i64 c] w fun e w' => ∃ A, e = .returned (.slice A (tab c).length (tab c).length) ∧ Lies w' w'.heap.size A (flat (tab c)) ∧ Below w.heap.size w w' := by
  by_cases h1 : c = 1
  · subst h1
    have hP := params_any w
    have hl := Lies.newN w (flat pT) 87
    have ht : tab 1 = pT := rfl
    have hn : pT.length = 27 := rfl
    rw [ht, hn]
    generalize pT = L at *
    go_enter Tryz.func56, Tryz.ntmps56
    go_wp2_with fail
    refine hP.mono ?_
    rintro e w1 ⟨rfl, rfl⟩
    go_wp2_with fail
    go_ret
    exact ⟨_, rfl, hl.more (by simp), (Below.refl _ _).alloc (Nat.le_refl _) _⟩
  · by_cases h2 : c = 2
    · subst h2
      have hP := causes_any w
      have hl := Lies.newN w (flat cT) 87
      have ht : tab 2 = cT := rfl
      have hn : cT.length = 19 := rfl
      rw [ht, hn]
      generalize cT = L at *
      go_enter Tryz.func56, Tryz.ntmps56
      go_wp2_with fail
      refine hP.mono ?_
      rintro e w1 ⟨rfl, rfl⟩
      go_wp2_with fail
      go_ret
      exact ⟨_, rfl, hl.more (by simp), (Below.refl _ _).alloc (Nat.le_refl _) _⟩
    · have ht : tab c = [] := by unfold tab; rw [if_neg h1, if_neg h2]
      rw [ht]
      go_enter Tryz.func56, Tryz.ntmps56
      go_wp2_with fail
      go_ret
      exact ⟨none, rfl, Lies.nil, Below.refl _ _⟩

/-! ### the place of a type -/
theorem of1_any (f : Form) (t : UInt16) (g : Nat) (w : World) (hg : Whole w g 31 #[hv t]) :
    Calls Tryz.prog 58 #[f.val, .pointer (some ⟨g, 0, none⟩)] w fun e w' => e = .returned (.bool (decide (f.ty = t))) ∧ Below w.heap.size w w' := by
  have hW := hg.alloc (.cells #[.int .i64 f.cl, hv f.ty, .string f.nm, .int .i64 f.lo, .int .i64 f.hi, .int .i64 f.un, .int .i64 f.ki] 87)
  have hc := hW.cell 0
  simp only [List.getElem?_toArray, List.getElem?_cons_zero] at hc
  unfold Form.val
  have hb : ((f.ty.toNat : Int) == (t.toNat : Int)) = decide (f.ty = t) := by
    by_cases h : f.ty = t
    · simp [h]
    · have h2 : ¬ (f.ty.toNat : Int) = (t.toNat : Int) := fun e => h (UInt16.toNat_inj.1 (by omega))
      simp only [h, decide_false, beq_eq_false_iff_ne, ne_eq, h2, not_false_eq_true]
  rw [← hb]
  clear hb hg
  go_enter Tryz.func58, Tryz.ntmps58
  go_wp2_with fail
  go_ret
  exact ⟨rfl, (Below.refl _ _).alloc (Nat.le_refl _) _⟩

/-- the first form of a type, or none -/
def look (L : List Form) (t : UInt16) : Option Form := L.find? fun f => decide (f.ty = t)
def No (L : List Form) (k : Nat) (t : UInt16) : Prop := ∀ (j : Nat) (f : Form), j < k → L[j]? = some f → f.ty ≠ t
theorem No.zero (L : List Form) (t : UInt16) : No L 0 t := fun j _ h => absurd h (by omega)
theorem No.next {L : List Form} {k : Nat} {t : UInt16} {f : Form} (h : No L k t) (hf : L[k]? = some f) (hn : ¬ f.ty = t) : No L (k + 1) t := fun j g hj hg => by
  by_cases hk : j = k
  · subst hk; rw [hf] at hg; cases hg; exact hn
  · exact h j g (by omega) hg
theorem look_none {L : List Form} {t : UInt16} (h : No L L.length t) : look L t = none := by
  unfold look
  rw [List.find?_eq_none]
  intro f hf
  obtain ⟨j, hj, rfl⟩ := List.getElem_of_mem hf
  simpa using h j _ hj (List.getElem?_eq_getElem hj)
theorem look_some {L : List Form} {t : UInt16} {k : Nat} {f : Form} (h : No L k t) (hf : L[k]? = some f) (ht : f.ty = t) : look L t = some f := by
  unfold look
  rw [List.find?_eq_some_iff_getElem]
  obtain ⟨hk, rfl⟩ := List.getElem?_eq_some_iff.1 hf
  refine ⟨by simpa using ht, k, hk, rfl, fun j hj => ?_⟩
  simpa using h j _ hj (List.getElem?_eq_getElem (by omega))

/-- what the place of a type says -/
def AtPlace (L : List Form) (t : UInt16) (i : Int) : Prop := (∃ (k : Nat) (f : Form), i = k ∧ L[k]? = some f ∧ look L t = some f) ∨ (i = -1 ∧ look L t = none)

set_option maxHeartbeats 1000000 in
theorem idx_any (A : Option Addr) (L : List Form) (t : UInt16) (g : Nat) (w : World) (h : Lies w w.heap.size A (flat L)) (hg : Whole w g 31 #[hv t]) (hn : L.length ≤ 100) :
    Calls Tryz.prog 57 #[.slice A L.length L.length, .func (.func 58) #[] #[.pointer (some ⟨g, 0, none⟩)]] w fun e w' => ∃ i, e = .returned (.int .i64 i) ∧ AtPlace L t i ∧ Below w.heap.size w w' := by
  have hgw := hg.lt
  go_enter Tryz.func57, Tryz.ntmps57
  go_wp2_with fail
  go_loopw [8] (fun i wr => ∃ k : Nat, k ≤ L.length ∧ i = .int .i64 k ∧ Hid (No L k t) ∧ Below w.heap.size w wr) (fun i _ => L.length - (intOf i).toNat)
  case atStart => exact ⟨0, Nat.zero_le _, rfl, No.zero _ _, Below.refl _ _⟩
  case round =>
    obtain ⟨k, hk, rfl, hno, hbel⟩ := hrel
    by_cases hlt : k < L.length
    · obtain ⟨ad, f, rfl, hb, hf, hcs, hc0, hc1, hc2⟩ := (h.below hbel).form hlt
      have hgr := hg.below hbel hgw
      have hC := of1_any f t g wr hgr
      by_cases hft : f.ty = t
      · have hd : decide (f.ty = t) = true := by simpa using hft
        have HL := Lib.hid (look_some hno.out hf.out hft)
        rw [hd] at hC
        unfold Form.val at hC
        clear hd hft
        go_wp2_with (refine wpList_load_form rfl 87 _ rfl (ad.add (k * 7)) rfl f hcs _ Tryz.underlying87 rfl (by kernel_rfl) ?_)
        refine hC.mono ?_
        rintro e w2 ⟨rfl, b2⟩
        go_wp2_with fail
        go_ret
        exact ⟨_, rfl, .inl ⟨k, f, rfl, hf.out, HL.out⟩, hbel.trans (b2.mono hbel.size)⟩
      · have hd : decide (f.ty = t) = false := by simpa using hft
        have HN := Lib.hid (hno.out.next hf.out hft)
        rw [hd] at hC
        unfold Form.val at hC
        clear hd hft
        go_wp2_with (refine wpList_load_form rfl 87 _ rfl (ad.add (k * 7)) rfl f hcs _ Tryz.underlying87 rfl (by kernel_rfl) ?_)
        refine hC.mono ?_
        rintro e w2 ⟨rfl, b2⟩
        go_wp2_with fail
        go_roundw
        case rel => exact ⟨k + 1, by omega, by go_num, HN, hbel.trans (b2.mono hbel.size)⟩
        case measure => simp [intOf]; omega
    · obtain rfl : k = L.length := by omega
      have HL := Lib.hid (look_none hno.out)
      go_wp2_with fail
      go_ret
      exact ⟨_, rfl, .inr ⟨rfl, HL.out⟩, hbel⟩

/-! ### Of -/
theorem Whole.setRow {w : World} {g : Nat} {t : TypeId} {cs : Array Value} (h : Whole w g t cs) (cs' : Array Value) : Whole (w.setRow g cs') g t cs' := setRow_heap w g cs cs' t (0, 0) h
theorem results_row_tmp {P : Program} {fn : Func} {p u : Tmp} {ty : TypeId} (h : fn.results = #[.cell p ty, .tmp u]) (tmps : Array Value) (w : World) (g : Nat) (t : TypeId) (cs : Array Value) (d : TypeDesc)
    (hp : tmps.getD p undef = .pointer (some ⟨g, 0, none⟩)) (hg : Whole w g t cs)
    (hu : P.underlying ty = some d) (hd : (match d with | .struct _ | .array _ _ => true | _ => false) = true) (hi : (P.info? ty).map (·.size) = some cs.size) :
    (results fn tmps).run P w = .ok (.tuple #[.agg cs, tmps.getD u undef]) w := by
  have hp' : tmps[p]?.getD undef = .pointer (some ⟨g, 0, none⟩) := by simpa using hp
  simp only [results, h]
  simp [Result.andThen, hp', asAddr, run_loadVar_row w g t ty cs (0, 0) d hg hu hd hi]
abbrev zform : Array Value := #[.int .i64 0, .int .u16 0, .string ByteArray.empty, .int .i64 0, .int .i64 0, .int .i64 0, .int .i64 0]
/-- what Of and ByName return -/
def ofV : Option Form → Value
  | some f => .tuple #[f.val, .bool true]
  | none => .tuple #[.agg zform, .bool false]

set_option maxHeartbeats 1000000 in
theorem of_any (c : Int) (t : UInt16) (w : World) : Calls Tryz.prog 42 #[.int .i64 c, hv t] w fun e w' => e = .returned (ofV (look (tab c) t)) ∧ Below w.heap.size w w' := by
  have hT := table_any c
  have hn := tab_len c
  generalize tab c = L at *
  go_enter Tryz.func42, Tryz.ntmps42
  go_wp2_with fail
  refine (hT _).mono ?_
  rintro e w1 ⟨A, rfl, hl, b1⟩
  have hW1 := ((Whole.new w 31 #[hv t]).alloc (.cells zform 87)).below b1 (by simp; omega)
  have hW2 := (Whole.new (w.alloc (.cells #[hv t] 31)) 87 zform).below b1 (by simp)
  simp only [World.size_alloc] at hW2
  have hb1 : Below w.heap.size w w1 := (((Below.refl _ w).alloc (Nat.le_refl _) _).alloc (by simp) _).trans (b1.mono (by simp; omega))
  go_wp2_with fail
  refine (idx_any A L t w.heap.size w1 hl hW1 (by omega)).mono ?_
  rintro e w2 ⟨i, rfl, hi, b2⟩
  have hW3 := hW2.below b2 hW2.lt
  have hb2 : Below w.heap.size w w2 := hb1.trans (b2.mono hb1.size)
  have hl2 := (hl.below b2).more b2.size
  rcases hi with ⟨k, f, rfl, hk, hf⟩ | ⟨rfl, hf⟩
  · have hlt := (List.getElem?_eq_some_iff.1 hk).1
    obtain ⟨ad, f', rfl, hb, hf', hcs, _, _, _⟩ := hl2.form hlt
    obtain rfl : f' = f := by have := hf'.out; rw [hk] at this; cases this; rfl
    have hlt2 : (k : Int) < (L.length : Int) := by omega
    go_wp2_with (first | (refine wpList_load_form rfl 87 _ rfl (ad.add (k * 7)) rfl f' hcs _ Tryz.underlying87 rfl (by kernel_rfl) ?_) | (refine wpList_store_form rfl 87 _ _ rfl (w.heap.size + 1) rfl rfl _ _ hW3 (by kernel_rfl) rfl ?_))
    (try simp only [Exit.inBlock, Exit.then])
    refine bodyPost_ret (results_row_tmp rfl _ _ (w.heap.size + 1) 87 _ _ rfl (hW3.setRow _) Tryz.underlying87 rfl (by kernel_rfl)) rfl ?_
    exact ⟨by rw [hf]; rfl, below_setRow hb2 (Nat.le_add_right _ _) _⟩
  · go_wp2_with (first | (refine wpList_store_form rfl 87 _ _ rfl (w.heap.size + 1) rfl rfl _ _ hW3 (by kernel_rfl) rfl ?_))
    (try simp only [Exit.inBlock, Exit.then])
    refine bodyPost_ret (results_row_tmp rfl _ _ (w.heap.size + 1) 87 _ _ rfl (hW3.setRow _) Tryz.underlying87 rfl (by kernel_rfl)) rfl ?_
    exact ⟨by rw [hf]; rfl, below_setRow hb2 (Nat.le_add_right _ _) _⟩

end Go.Proofs.YtdnilbebdgohnaaGreatDoor

