/- Layer 7, package shape: names: a map of its own from the types of a class to their names. -/
import Derived.Test.YtemjiijfndnhbaaShapeD
import Derived.Maps.StringElems
namespace Go.Proofs.Ytemjiijfndnhbaa
open Go.RowKit Go.Maps

/-- how a map from types to names reads -/
abbrev kt (t : UInt16) : Lit := .int .u16 (t.toNat : Int)
abbrev sd (s : ByteArray) : DataW Unit := .lit (.string s.data.toList)
def mp (L : List Form) : DataW Unit := L.foldl (fun D f => D.put (kt f.ty) (sd f.nm)) (.map [])
theorem mp_take {L : List Form} {k : Nat} {f : Form} (h : L[k]? = some f) : mp (L.take (k + 1)) = (mp (L.take k)).put (kt f.ty) (sd f.nm) := by
  unfold mp
  rw [take_some h, List.foldl_append]
  rfl
theorem grown_of_below {w w' : World} (h : Below w.heap.size w w') : w.grownBy w' none := ⟨h.os, h.tape, h.output, h.size, fun k hk _ => h.block k hk⟩
theorem Lies.not_map {w : World} {B b : Nat} {A : Option Addr} {xs : List Value} {es : Array MapEntry} {cl : Nat} (h : Lies w B A xs) (hb : w.heap[b]? = some (.map es cl)) (ad : Addr) (ha : A = some ad) (hne : xs ≠ []) : ad.block ≠ b := by
  intro e
  obtain ⟨ad', h1, _, h3⟩ := h hne
  rw [ha] at h1
  cases h1
  cases xs with
  | nil => exact hne rfl
  | cons x xs =>
    have := h3 0 x rfl
    have h4 : (ad.add 0).block = b := by rw [blk_add]; exact e
    simp [World.cell?, h4, hb] at this
theorem Lies.keepA {w w' : World} {B : Nat} {A : Option Addr} {xs : List Value} (h : Lies w B A xs) (hk : ∀ ad, A = some ad → w'.heap[ad.block]? = w.heap[ad.block]?) : Lies w' B A xs := fun hne => by
  obtain ⟨ad, h1, h2, h3⟩ := h hne
  refine ⟨ad, h1, h2, fun j u hu => ?_⟩
  rw [World.cell?_of_block (w := w) (by rw [blk_add]; exact hk ad h1)]
  exact h3 j u hu
theorem key_u16 (t : UInt16) : keyOf Try.prog 22 (hv t) = some (kt t) := keyOf_int_mk Try.underlying22 (WalkArith.wf_u16 (by
  have := t.toNat_lt
  omega))

set_option maxHeartbeats 2000000 in
theorem names_any (c : Int) (w : World) : Calls Try.prog 24 #[.int .i64 c] w fun e w' => ∃ b n, e = .returned (.map (some b)) ∧
    w'.ownsMap Try.prog 22 (plainElem (H := Unit) Try.prog 9) b n (mp (tab c)) ∧ n ≤ 27 ∧ w.heap.size ≤ b ∧ Below w.heap.size w w' := by
  have hT := table_any c
  have hn := tab_len c
  have hsz : ∀ f ∈ tab c, f.nm.size ≤ maxLen := by
    have hp : pT.all (fun f => decide (f.nm.size ≤ maxLen)) = true := by decide +kernel
    have hc : cT.all (fun f => decide (f.nm.size ≤ maxLen)) = true := by decide +kernel
    intro f hf
    unfold tab at hf
    split at hf
    · simpa using List.all_eq_true.1 hp f hf
    · split at hf
      · simpa using List.all_eq_true.1 hc f hf
      · cases hf
  generalize tab c = L at *
  have law : Keyed Try.prog 22 := int_keyed Try.underlying22
  have hmm := @run_makeMap Try.prog
  go_enter Try.func24, Try.ntmps24
  go_wp2_with fail
  refine (hT _).mono ?_
  rintro e w1 ⟨A, rfl, hl, b1⟩
  have hm1 := (World.ownsMap_made w Try.prog 22 (plainElem (H := Unit) Try.prog 9)).kept (grown_of_below b1) (by simp)
  have hb1 : Below w.heap.size w w1 := ((Below.refl _ w).alloc (Nat.le_refl _) _).trans (b1.mono (by simp))
  go_wp2_with fail
  go_loopw [10] (fun i wr => ∃ k : Nat, k ≤ L.length ∧ i = .int .i64 k ∧ Hid (wr.ownsMap Try.prog 22 (plainElem (H := Unit) Try.prog 9) w.heap.size k (mp (L.take k))) ∧ Below w.heap.size w wr ∧ Hid (Lies wr wr.heap.size A (flat L))) (fun i _ => L.length - (intOf i).toNat)
  case atStart => exact ⟨0, Nat.zero_le _, rfl, hm1, hb1, hl⟩
  case round =>
    obtain ⟨k, hk, rfl, hown, hbel, hlr⟩ := hrel
    have hsz1 := hbel.size
    by_cases hlt : k < L.length
    · obtain ⟨es, cl, hbm, _⟩ := hown.out
      have hnm := fun ad ha hne => hlr.out.not_map hbm ad ha hne
      have HM := Lib.hid hnm
      clear hnm hbm
      obtain ⟨ad, f, rfl, hb, hf, hcs, hc0, hc1, hc2⟩ := hlr.out.form hlt
      have hadb := HM.out ad rfl (fun e => by have := flat_at L k f hf.out 0 _ rfl; rw [e] at this; simp at this)
      have hs := hsz f (List.mem_of_getElem? hf.out)
      have HV : Hid ((plainElem (H := Unit) Try.prog 9) (.string f.nm) = some (sd f.nm, [])) := plainElem_string Try.underlying9 hs
      go_wp2_with (first
        | (refine wpList_load_form rfl 25 _ rfl (ad.add (k * 7)) rfl f hcs _ Try.underlying25 rfl (by kernel_rfl) ?_)
        | (refine wpList_new_form rfl 25 _ _ rfl wr _ _ rfl rfl rfl (by kernel_rfl) rfl ?_)
        | (at_mapUpdate; refine wpList_mapUpdate_own _ rfl _ _ _ 50 rfl 22 9 law Try.underlying50 _ w.heap.size k _ rfl (hown.out.alloc _) (by unfold maxLen; omega) _ _ (kt f.ty) rfl rfl (key_u16 f.ty) (sd f.nm) [] HV.out ?_; intro w4 hown4 hgrow4))
      have H2 : Hid (w4.ownsMap Try.prog 22 (plainElem (H := Unit) Try.prog 9) w.heap.size (k + 1) (mp (L.take (k + 1)))) := by
        unfold Hid
        rw [mp_take hf.out]
        exact hown4
      have hb4 : Below w.heap.size w w4 := (hbel.alloc hsz1 _).grown hgrow4 (by simp; omega) (fun q e => by cases e; exact Nat.le_refl _)
      have H3 : Hid (Lies w4 w4.heap.size (some ad) (flat L)) := by
        have h1 := hlr.out.alloc (Nat.le_refl _) (.cells #[.int .i64 f.cl, hv f.ty, .string f.nm, .int .i64 f.lo, .int .i64 f.hi, .int .i64 f.un, .int .i64 f.ki] 25)
        have h2 := hgrow4.size
        rw [World.size_alloc] at h2
        refine Lies.more (h1.keepA fun ad' e => ?_) (by omega)
        cases e
        exact hgrow4.block _ (by rw [World.size_alloc]; omega) (fun e => hadb (Option.some.inj e))
      clear hown4 hgrow4
      go_wp2_with fail
      go_roundw
      case rel => exact ⟨k + 1, by omega, by go_num, H2, hb4, H3⟩
      case measure => simp [intOf]; omega
    · obtain rfl : k = L.length := by omega
      have HE : Hid (wr.ownsMap Try.prog 22 (plainElem (H := Unit) Try.prog 9) w.heap.size L.length (mp L)) := by
        have := hown.out
        rwa [List.take_of_length_le (Nat.le_refl _)] at this
      clear hown
      go_wp2_with fail
      go_ret
      exact ⟨_, _, rfl, HE.out, hn, Nat.le_refl _, hbel⟩
end Go.Proofs.Ytemjiijfndnhbaa
