/- Layer 7, package shape: ByName. It writes nothing that was there. -/
import Derived.Test.YtemjiijfndnhbaaShapeN
namespace Go.Proofs.Ytemjiijfndnhbaa
open Go.RowKit Go.Maps

/-! ### what the map of names holds -/
theorem kt_ne {t u : UInt16} (h : ¬ t = u) : kt t ≠ kt u := by
  intro e
  simp only [Lit.int.injEq, true_and] at e
  exact h (UInt16.toNat_inj.1 (by omega))
theorem key_lit (t : UInt16) : WideAt.IsKeyLit (kt t) := trivial
abbrev pf (D : DataW Unit) (f : Form) : DataW Unit := D.put (kt f.ty) (sd f.nm)
theorem fold_other (L : List Form) : ∀ (D : DataW Unit) (t : UInt16), (∀ g ∈ L, ¬ g.ty = t) → (∀ z, (L.foldl pf D).atKey (kt t) z = D.atKey (kt t) z) ∧ has (L.foldl pf D) (kt t) = has D (kt t) := by
  induction L with
  | nil => intro D t _; exact ⟨fun _ => rfl, rfl⟩
  | cons g L ih =>
    intro D t h
    have h1 := ih (pf D g) t fun x hx => h x (List.mem_cons_of_mem _ hx)
    have h2 := kt_ne (h g List.mem_cons_self)
    refine ⟨fun z => ?_, ?_⟩
    · rw [List.foldl_cons, h1.1 z]
      exact atKey_put_other (Ne.symm h2) _ _
    · rw [List.foldl_cons, h1.2]
      exact has_put_other (Ne.symm h2) _
theorem fold_at (L : List Form) : ∀ (D : DataW Unit), IsMap D → L.Pairwise (fun f g => f.ty ≠ g.ty) → ∀ f ∈ L, (∀ z, (L.foldl pf D).atKey (kt f.ty) z = sd f.nm) ∧ has (L.foldl pf D) (kt f.ty) = true := by
  induction L with
  | nil => intro D _ _ f hf; cases hf
  | cons g L ih =>
    intro D hD hp f hf
    rw [List.pairwise_cons] at hp
    rw [List.foldl_cons]
    rcases List.mem_cons.1 hf with rfl | hf
    · have h1 := fold_other L (pf D f) f.ty fun x hx => fun e => hp.1 x hx e.symm
      refine ⟨fun z => (h1.1 z).trans (atKey_put_same hD (key_lit f.ty) _ _), h1.2.trans (has_put_same hD (key_lit f.ty) _)⟩
    · exact ih (pf D g) (hD.put _ _) hp.2 f hf
theorem fold_has (L : List Form) : ∀ (D : DataW Unit) (k : Lit), has (L.foldl pf D) k = true → has D k = true ∨ ∃ f ∈ L, kt f.ty = k := by
  induction L with
  | nil => intro D k h; exact .inl h
  | cons g L ih =>
    intro D k h
    rw [List.foldl_cons] at h
    rcases ih (pf D g) k h with h1 | ⟨f, hf, h1⟩
    · by_cases hk : k = kt g.ty
      · exact .inr ⟨g, List.mem_cons_self, hk.symm⟩
      · exact .inl ((has_put_other hk _).symm.trans h1)
    · exact .inr ⟨f, List.mem_cons_of_mem _ hf, h1⟩
theorem mp_at {L : List Form} (h : L.Pairwise fun f g => f.ty ≠ g.ty) {f : Form} (hf : f ∈ L) : (∀ z, (mp L).atKey (kt f.ty) z = sd f.nm) ∧ has (mp L) (kt f.ty) = true := fold_at L _ isMap_empty h f hf
theorem mp_has {L : List Form} {k : Lit} (h : has (mp L) k = true) : ∃ f ∈ L, kt f.ty = k := by
  rcases fold_has L _ k h with h1 | h1
  · cases h1
  · exact h1

/-- the first form of a name, or none -/
def byN (L : List Form) (nm : ByteArray) : Option Form := L.find? fun f => decide (f.nm = nm)
structure Apart (L : List Form) : Prop where
  ty : L.Pairwise fun f g => f.ty ≠ g.ty
  nm : L.Pairwise fun f g => f.nm ≠ g.nm
theorem inj_of {α β : Type} {L : List α} {g : α → β} (h : L.Pairwise fun x y => g x ≠ g y) {x y : α} (hx : x ∈ L) (hy : y ∈ L) (e : g x = g y) : x = y := by
  induction L with
  | nil => cases hx
  | cons z L ih =>
    rw [List.pairwise_cons] at h
    rcases List.mem_cons.1 hx with hx1 | hx1
    · rcases List.mem_cons.1 hy with hy1 | hy1
      · rw [hx1, hy1]
      · rw [hx1] at e; exact absurd e (h.1 y hy1)
    · rcases List.mem_cons.1 hy with hy1 | hy1
      · rw [hy1] at e; exact absurd e.symm (h.1 x hx1)
      · exact ih h.2 hx1 hy1
theorem look_mem {L : List Form} (h : Apart L) {f : Form} (hf : f ∈ L) : look L f.ty = some f := by
  cases hl : look L f.ty with
  | none =>
    unfold look at hl
    rw [List.find?_eq_none] at hl
    exact absurd (hl f hf) (by simp)
  | some g =>
    have h1 := List.mem_of_find?_eq_some hl
    have h2 := List.find?_some hl
    simp only [decide_eq_true_eq] at h2
    rw [inj_of h.ty h1 hf h2]
theorem byN_mem {L : List Form} (h : Apart L) {f : Form} (hf : f ∈ L) : byN L f.nm = some f := by
  cases hl : byN L f.nm with
  | none =>
    unfold byN at hl
    rw [List.find?_eq_none] at hl
    exact absurd (hl f hf) (by simp)
  | some g =>
    have h1 := List.mem_of_find?_eq_some hl
    have h2 := List.find?_some hl
    simp only [decide_eq_true_eq] at h2
    rw [inj_of h.nm h1 hf h2]
theorem byN_none {L : List Form} {nm : ByteArray} (h : ∀ f ∈ L, ¬ f.nm = nm) : byN L nm = none := by
  unfold byN
  rw [List.find?_eq_none]
  intro f hf
  simpa using h f hf
theorem apart_tab (c : Int) : Apart (tab c) := by
  unfold tab
  split
  · exact ⟨by decide +kernel, by decide +kernel⟩
  · split
    · exact ⟨by decide +kernel, by decide +kernel⟩
    · exact ⟨List.Pairwise.nil, List.Pairwise.nil⟩

set_option maxRecDepth 100000 in
set_option maxHeartbeats 4000000 in
theorem byname_any (c : Int) (nm : ByteArray) (w : World) : Calls Try.prog 12 #[.int .i64 c, .string nm] w fun e w' => e = .returned (ofV (byN (tab c) nm)) ∧ Below w.heap.size w w' := by
  have hN := names_any c
  have hO := fun t w => of_any c t w
  have hap := apart_tab c
  generalize tab c = L at *
  have HO : Hid (∀ f ∈ L, ∀ w, Calls Try.prog 9 #[.int .i64 c, .int .u16 (f.ty.toNat : Int)] w fun e w' => e = .returned (.tuple #[.agg #[.int .i64 f.cl, hv f.ty, .string f.nm, .int .i64 f.lo, .int .i64 f.hi, .int .i64 f.un, .int .i64 f.ki], .bool true]) ∧ Below w.heap.size w w') := fun f hf w => by
    have := hO f.ty w
    rw [look_mem hap hf] at this
    exact this
  clear hO
  have HA : Hid (∀ f ∈ L, (∀ z, (mp L).atKey (kt f.ty) z = sd f.nm) ∧ has (mp L) (kt f.ty) = true) := fun f hf => mp_at hap.ty hf
  have HH : Hid (∀ k, has (mp L) k = true → ∃ f ∈ L, kt f.ty = k) := fun k h => mp_has h
  have HP := Lib.hid hap
  clear hap
  generalize mp L = D at *
  have law : Keyed Try.prog 22 := int_keyed Try.underlying22
  go_enter Try.func12, Try.ntmps12
  go_wp2_with fail
  refine (hN _).mono ?_
  rintro e w1 ⟨b, n, rfl, hown, hn, hb, b1⟩
  have hW1 := (Whole.new w 25 zform).below b1 (by simp)
  have hb1 : Below w.heap.size w w1 := ((Below.refl _ w).alloc (Nat.le_refl _) _).trans (b1.mono (by simp))
  have hz1 := hb1.size
  simp only [World.size_alloc] at hb
  clear b1 hN
  go_wp2_with (at_range; refine wpList_range_own _ rfl _ 50 rfl 22 9 law Try.underlying50 _ b n _ rfl hown ?_; intro w0 hrg0 hg0 hs0)
  go_frame
  have hlt1 := hW1.lt
  go_loopw [6, 7] (fun _ _ wr => ∃ (left : Lit → Bool) (cnt : Nat), wr.ranges Try.prog 22 (plainElem (H := Unit) Try.prog 9) b w1.heap.size n D left cnt ∧ Hid (∀ kl, left kl = true → has D kl = true) ∧ Hid (∀ g ∈ L, left (kt g.ty) = true ∨ ¬ g.nm = nm) ∧
      Below w.heap.size w wr ∧ Whole wr w.heap.size 25 zform) (fun _ _ wr => wr.rangeLeft b w1.heap.size)
  case atStart =>
    exact ⟨_, _, hrg0, fun _ h => h, fun g hg => .inl (HA.out g hg).2, hb1.grown hg0 hz1 (fun k hk => by cases hk), hW1.grown hg0 (by intro e; cases e)⟩
  case round =>
    obtain ⟨left, cnt, hrg, hsub, hinv, hbel, hW⟩ := hrel
    have HWr := Lib.hid hW
    clear hW
    go_wp2_with (at_next; refine wpList_next_ranges_is _ rfl _ rfl 22 9 .u16 law Try.underlying22 Try.underlying9 b w1.heap.size n _ _ _ rfl hrg ?_ ?_)
    · intro _ hl0
      have hB := Lib.hid (byN_none (L := L) (nm := nm) fun f hf => by
        rcases hinv.out f hf with h | h
        · rw [hl0] at h; cases h
        · exact h)
      go_wp2_with (refine wpList_store_form rfl 25 _ _ rfl w.heap.size rfl rfl _ _ HWr.out (by kernel_rfl) rfl ?_)
      (try simp only [Exit.inBlock, Exit.then])
      refine bodyPost_ret (results_row_tmp rfl _ _ w.heap.size 25 _ _ rfl (HWr.out.setRow _) Try.underlying25 rfl (by kernel_rfl)) rfl ?_
      exact ⟨by rw [hB.out]; rfl, below_setRow hbel (Nat.le_refl _) _⟩
    · intro x s w2 cnt2 hwx hws hlx hat hrg2 hlt hg2 hs2 hen
      obtain ⟨f, hf, hfx⟩ := HH.out _ (hsub.out _ hlx)
      simp only [Lit.int.injEq, true_and] at hfx
      subst hfx
      have hsn : s = f.nm := by
        have h1 := (hat (sd f.nm)).symm.trans ((HA.out f hf).1 (sd f.nm))
        simp only [DataW.lit.injEq, Lit.string.injEq] at h1
        exact ByteArray.ext (Array.ext' h1)
      subst hsn
      have hb2 := hbel.grown hg2 hbel.size (fun k hk => by cases hk; exact hz1)
      have hW2 := HWr.out.grown hg2 (fun e => by have := Option.some.inj e; omega)
      by_cases hnm : f.nm = nm
      · subst hnm
        have hB := Lib.hid (byN_mem HP.out hf)
        go_wp2_with fail
        refine (HO.out f hf _).mono ?_
        rintro e w3 ⟨rfl, b3⟩
        have hW3 := hW2.below b3 hW2.lt
        have hb3 := hb2.trans (b3.mono hb2.size)
        go_wp2_with (refine wpList_store_form rfl 25 _ _ rfl w.heap.size rfl rfl _ _ hW3 (by kernel_rfl) rfl ?_)
        (try simp only [Exit.inBlock, Exit.then])
        refine bodyPost_ret (results_row_tmp rfl _ _ w.heap.size 25 _ _ rfl (hW3.setRow _) Try.underlying25 rfl (by kernel_rfl)) rfl ?_
        exact ⟨by rw [hB.out]; rfl, below_setRow hb3 (Nat.le_refl _) _⟩
      · have hne1 : ¬ f.nm.toList = nm.toList := fun e => hnm (ByteArray.ext (Array.ext' (by rw [← ByteArray.toList_eq, ← ByteArray.toList_eq]; exact e)))
        have hne2 : (f.nm.toList == nm.toList) = false := beq_eq_false_iff_ne.2 hne1
        have H1 : Hid (∀ kl, (left kl && !kl.sameKey (kt f.ty)) = true → has D kl = true) := fun kl h => hsub.out kl (by
          simp only [Bool.and_eq_true] at h
          exact h.1)
        have H2 : Hid (∀ g ∈ L, (left (kt g.ty) && !(kt g.ty).sameKey (kt f.ty)) = true ∨ ¬ g.nm = nm) := fun g hg => by
          by_cases hgf : g.ty = f.ty
          · right
            rw [inj_of HP.out.ty hg hf hgf]
            exact hnm
          · rcases hinv.out g hg with h | h
            · left
              rw [h, sameKey_ne (kt_ne hgf)]
              rfl
            · exact .inr h
        go_wp2_with fail
        go_roundw
        case rel => exact ⟨_, cnt2, hrg2, H1.out, H2.out, hb2, hW2⟩
        case measure => rw [hrg2.left_eq, hrg.left_eq]; omega
end Go.Proofs.Ytemjiijfndnhbaa
