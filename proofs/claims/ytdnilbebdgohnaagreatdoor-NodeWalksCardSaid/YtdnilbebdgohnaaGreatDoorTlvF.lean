/- Layer 6, package tlv: Join, for whatever frames. It writes nothing that was there. -/
import Derived.Test.YtdnilbebdgohnaaGreatDoorTlvB

namespace Go.Proofs.YtdnilbebdgohnaaGreatDoor
open Go.RowKit

/-! ### the bytes of a list -/
def jn (fs : List Fr) : List UInt8 := fs.foldl (fun out f => padB out ++ frB f) []
theorem jn_snoc (fs : List Fr) (f : Fr) : jn (fs ++ [f]) = padB (jn fs) ++ frB f := by simp [jn]
theorem jn_take {fs : List Fr} {k : Nat} {f : Fr} (h : fs[k]? = some f) : jn (fs.take (k + 1)) = padB (jn (fs.take k)) ++ frB f := by rw [take_some h, jn_snoc]
theorem padB_app (a b : List UInt8) : padB (padB a ++ b) = padB a ++ padB b := by
  have h : gap ((padB a).length + b.length) = gap b.length := by
    rw [padB_len]
    unfold up gap
    omega
  conv => lhs; unfold padB
  rw [List.length_append, show (a ++ List.replicate (gap a.length) (0 : UInt8)) = padB a from rfl, h, List.append_assoc]
  rfl
def piece (n i : Nat) (f : Fr) : List UInt8 := if i + 1 < n then padB (frB f) else frB f
def pcs (fs : List Fr) : List (List UInt8) := fs.mapIdx fun i f => piece fs.length i f
theorem pcs_len (fs : List Fr) : (pcs fs).length = fs.length := by simp [pcs]
theorem pcs_at {fs : List Fr} {i : Nat} {f : Fr} (h : fs[i]? = some f) : (pcs fs)[i]? = some (piece fs.length i f) := by
  unfold pcs
  rw [List.getElem?_mapIdx, h]
  rfl
theorem pcs_flat (fs : List Fr) : ∀ k, k ≤ fs.length → ((pcs fs).take k).flatten = if k < fs.length then padB (jn (fs.take k)) else jn (fs.take k) := by
  intro k
  induction k with
  | zero => intro _; simp [jn, padB, gap]
  | succ k ih =>
    intro hk
    have hf : fs[k]? = some fs[k] := List.getElem?_eq_getElem (by omega)
    rw [take_some (pcs_at hf), List.flatten_append, ih (by omega), if_pos (by omega), jn_take hf]
    simp only [List.flatten_cons, List.flatten_nil, List.append_nil, piece]
    split
    · rw [padB_app]
    · rfl
theorem pcs_all (fs : List Fr) : (pcs fs).flatten = jn fs := by
  have h := pcs_flat fs fs.length (Nat.le_refl _)
  rw [if_neg (by omega), List.take_length, List.take_of_length_le (by rw [pcs_len]; omega)] at h
  exact h
def Fit (f : Fr) : Prop := f.v.length ≤ 65531
instance (f : Fr) : Decidable (Fit f) := by unfold Fit; infer_instance
theorem piece_len {n i : Nat} {f : Fr} (h : Fit f) : (piece n i f).length ≤ 65540 := by
  unfold Fit at h
  have h1 := frB_len f
  have h2 := gap_lt (frB f).length
  unfold frL at h1
  unfold piece
  split
  · rw [padB_len]
    unfold up
    omega
  · omega
theorem tot_bound {m : Nat} (ps : List (List UInt8)) (h : ∀ p ∈ ps, p.length ≤ m) : tot ps ≤ ps.length * m := by
  induction ps with
  | nil => simp [tot]
  | cons p ps ih =>
    have h1 := ih fun q hq => h q (List.mem_cons_of_mem _ hq)
    have h2 := h p List.mem_cons_self
    simp only [tot, List.flatten_cons, List.length_append, List.length_cons] at h1 ⊢
    rw [Nat.add_mul]
    omega
theorem pcs_bound {fs : List Fr} (h : ∀ f ∈ fs, Fit f) : tot (pcs fs) ≤ fs.length * 65540 := by
  have := tot_bound (m := 65540) (pcs fs) fun p hp => by
    obtain ⟨i, hi, rfl⟩ := List.mem_iff_getElem.1 hp
    rw [pcs_len] at hi
    have h1 := pcs_at (List.getElem?_eq_getElem hi)
    rw [List.getElem?_eq_getElem (by rw [pcs_len]; exact hi)] at h1
    rw [Option.some.inj h1]
    exact piece_len (h _ (List.getElem_mem hi))
  rwa [pcs_len] at this

theorem bsinfo : (Tryz.prog.info? 32).map (fun i => (i.zero, i.size, i.bytes)) = some (some (.slice none 0 0), 1, 24) := by kernel_rfl
/-- what lies in the row of the parts behind k rounds -/
structure Row67 (W : World) (g n k : Nat) (fs : List Fr) (vs : List Value) : Prop where
  whole : Whole W g 32 (vs ++ List.replicate (n - k) (Value.slice none 0 0)).toArray
  len : vs.length = k
  each : ∀ (i : Nat) (f : Fr), i < k → fs[i]? = some f → ∃ v, vs[i]? = some v ∧ IsB W W.heap.size v (piece n i f)
theorem IsB.on {W W' : World} {v : Value} {l : List UInt8} (h : IsB W W.heap.size v l) (hb : Below W.heap.size W W') : IsB W' W'.heap.size v l := (h.below hb).more hb.size

/-- a store into a cell that holds no byte leaves what reads as bytes -/
theorem IsB.far {W : World} {B : Nat} {v : Value} {l : List UInt8} (h : IsB W B v l) {p : Addr} {A0 : Option Addr} {n0 c0 : Nat} (hp : W.cell? p = some (.slice A0 n0 c0)) (u : Value) : IsB (W.setCell p u) B v l := by
  obtain ⟨A, c, h1, h2, h3, h4⟩ := h
  refine ⟨A, c, h1, fun hne => ?_, h3, h4⟩
  obtain ⟨ad, h5, h6, h7⟩ := h2 hne
  refine ⟨ad, h5, h6, fun j x hx => ?_⟩
  have h8 := h7 j x hx
  rw [World.cell?_setCell_other W p _ u (fun e => ?_)]
  · exact h8
  · rw [← e, hp] at h8
    rw [List.getElem?_map] at hx
    obtain ⟨y, _, rfl⟩ := Option.map_eq_some_iff.1 hx
    cases h8
/-- how Join ends -/
def JoinR (w : World) (fs : List Fr) (e : Ending) (w' : World) : Prop := Below w.heap.size w w' ∧
  (((∀ f ∈ fs, Fit f) ∧ ∃ A' c', e = .returned (.tuple #[.slice A' (jn fs).length c', .bool true]) ∧ w'.ownsRow w.heap.size 5 1 (.slice A' (jn fs).length c') (jn fs).length ((jn fs).map bv)) ∨
   ((∃ f ∈ fs, ¬ Fit f) ∧ e = .returned (.tuple #[.slice none 0 0, .bool false])))
theorem Row67.cell {W : World} {g n k : Nat} {fs : List Fr} {vs : List Value} (h : Row67 W g n k fs vs) (hk : k < n) : W.cell? ⟨g, k, none⟩ = some (.slice none 0 0) := by
  rw [h.whole.cell]
  have := h.len
  simp only [List.getElem?_toArray]
  rw [List.getElem?_append_right (by omega), List.getElem?_replicate, if_pos (by omega)]
theorem Row67.step {W W3 : World} {g n k : Nat} {fs : List Fr} {vs : List Value} (h : Row67 W g n k fs vs) (hb : Below W.heap.size W W3) {v : Value} {f : Fr} (hf : fs[k]? = some f) (hk : k < n) (hv : IsB W3 W3.heap.size v (piece n k f)) :
    Row67 (W3.setCell ⟨g, k, none⟩ v) g n (k + 1) fs (vs ++ [v]) := by
  have hl := h.len
  have h3 : Row67 W3 g n k fs vs := ⟨h.whole.below hb h.whole.lt, hl, fun i f hi hf => by obtain ⟨u, h1, h2⟩ := h.each i f hi hf; exact ⟨u, h1, h2.on hb⟩⟩
  have hc := h3.cell hk
  have hsz : (W3.setCell ⟨g, k, none⟩ v).heap.size = W3.heap.size := by simp [World.setCell]
  refine ⟨?_, by simp [hl], fun i f' hi hf' => ?_⟩
  · have h4 := h3.whole.set_ k v
    rw [List.setIfInBounds_toArray, List.set_append_right _ _ (by omega), hl, Nat.sub_self] at h4
    obtain ⟨m, hm⟩ : ∃ m, n - k = m + 1 := ⟨n - k - 1, by omega⟩
    rw [hm, List.replicate_succ, List.set_cons_zero] at h4
    rw [show n - (k + 1) = m by omega, List.append_assoc]
    exact h4
  · rcases Nat.lt_or_ge i k with hlt | hge
    · obtain ⟨u, h1, h2⟩ := h3.each i f' hlt hf'
      exact ⟨u, by rw [List.getElem?_append_left (by omega)]; exact h1, by rw [hsz]; exact h2.far hc v⟩
    · obtain rfl : i = k := by omega
      rw [hf] at hf'
      cases hf'
      exact ⟨v, by rw [List.getElem?_append_right (by omega), hl, Nat.sub_self]; rfl, by rw [hsz]; exact hv.far hc v⟩
theorem Row67.parts {W : World} {g n : Nat} {fs : List Fr} {vs : List Value} (h : Row67 W g n n fs vs) (hn : fs.length = n) : Parts W W.heap.size (some ⟨g, 0, none⟩) vs (pcs fs) := by
  have hw := h.whole
  rw [Nat.sub_self, List.replicate_zero, List.append_nil] at hw
  refine ⟨hw.lies hw.lt, by rw [h.len, pcs_len, hn], fun i p hp => ?_⟩
  have hi : i < fs.length := by have := (List.getElem?_eq_some_iff.1 hp).1; rwa [pcs_len] at this
  have hf := List.getElem?_eq_getElem hi
  rw [pcs_at hf] at hp
  cases hp
  obtain ⟨v, h1, h2⟩ := h.each i _ (by omega) hf
  rw [hn]
  exact ⟨v, h1, h2⟩

set_option maxRecDepth 100000 in
set_option maxHeartbeats 2000000 in
theorem tjoin_any (A : Option Addr) (c : Nat) (vs : List Value) (fs : List Fr) (w : World) (h : Frames w w.heap.size A vs fs) (hn : fs.length ≤ 1000) :
    Calls Tryz.prog 36 #[.slice A fs.length c] w (JoinR w fs) := by
  obtain ⟨i0, hi, hz0, hz1, hz2⟩ := info_parts bsinfo
  go_enter Tryz.func36, Tryz.ntmps36
  go_wp2_with (at_make; refine wpList_make_full _ rfl (.tmp 10) (.tmp 10) 97 rfl w.heap.size 32 i0 _ 1 Tryz.underlying97 hi hz0 hz1 .i64 .i64 _ _ fs.length rfl rfl rfl rfl (by rw [hz2]; omega) (by unfold maxLen; omega) (Nat.le_refl _) ?_; intro w1 hown hgrow)
  have hb1 : Below w.heap.size w w1 := (Below.refl _ w).grown hgrow (Nat.le_refl _) (by simp)
  have hR : Row67 w1 w.heap.size fs.length 0 fs [] := ⟨by
    have := (own_whole hown).1
    simpa [Whole, toList_madeCells_one, Value.cells] using this, rfl, fun i f hi => by omega⟩
  clear hown hgrow
  go_loopw [14] (fun i wr => ∃ (k : Nat) (us : List Value), k ≤ fs.length ∧ i = .int .i64 k ∧ Row67 wr w.heap.size fs.length k fs us ∧ Below w.heap.size w wr ∧ Hid (∀ f ∈ fs.take k, Fit f)) (fun i _ => fs.length - (intOf i).toNat)
  case atStart => exact ⟨0, [], Nat.zero_le _, rfl, hR, hb1, by simp [Hid]⟩
  case round =>
    obtain ⟨k, us, hk, rfl, hrw, hbel, hfit⟩ := hrel
    by_cases hlt : k < fs.length
    · obtain ⟨ad, A', c', f, rfl, hb, hf, hc0, hc1, hl, hlc, hcm⟩ := (h.below hbel).at_ hlt
      by_cases hft : Fit f
      · have hfit2 : Hid (∀ f ∈ fs.take (k + 1), Fit f) := fun q hq => by
          rw [take_some hf.out] at hq
          rcases List.mem_append.1 hq with h1 | h1
          · exact hfit.out q h1
          · rw [List.mem_singleton.1 h1]; exact hft
        unfold Fit at hft
        have hW1 : Below wr.heap.size wr (wr.alloc (.cells #[hv f.t, .slice A' f.v.length c'] 67)) := (Below.refl _ _).alloc (Nat.le_refl _) _
        have hlW : Lies (wr.alloc (.cells #[hv f.t, .slice A' f.v.length c'] 67)) (wr.alloc (.cells #[hv f.t, .slice A' f.v.length c'] 67)).heap.size A' (f.v.map bv) :=
          ((hl.more hbel.size).below hW1).more hW1.size
        have hcell0 := hrw.cell hlt
        have hfr0 := hrw.whole.frozen k
        have hgl := hrw.whole.lt
        have hflen := frB_len f
        unfold frL at hflen
        by_cases hlast : k + 1 < fs.length
        · have ht : (k : Int) < (fs.length : Int) - 1 := by omega
          have hp : piece fs.length k f = padB (frB f) := by unfold piece; rw [if_pos hlast]
          go_wp2_with fail
          refine (tput_any f.t A' c' f.v _ hlW hlc hcm hft).mono ?_
          rintro e w2 ⟨A2, c2, rfl, hown, b2⟩
          have hcap := own_cap hown
          have hbB := bytes_any A2 c2 (frB f) w2 (Lies.own hown) (by rw [hflen]; omega)
          rw [hflen] at hbB
          go_wp2_with fail
          refine hbB.mono ?_
          rintro e w3 ⟨A3, c3, rfl, hown3, b3⟩
          have hb3 : Below wr.heap.size wr w3 := (hW1.trans (b2.mono hW1.size)).trans (b3.mono (by have := b2.size; simp at this; omega))
          have hcap3 := own_cap hown3
          have hIs : IsB w3 w3.heap.size (.slice A3 (up (4 + f.v.length)) c3) (piece fs.length k f) := by
            rw [hp]
            exact ⟨A3, c3, by rw [padB_len, hflen], Lies.own hown3, by rw [padB_len, hflen]; exact hcap3.2.1, hcap3.2.2⟩
          have hst := Lib.hid (hrw.step hb3 hf.out hlt hIs)
          have d0 := (hb3.cell (p := ⟨w.heap.size, k, none⟩) hgl).trans hcell0
          have d1 := (hb3.frozen (p := ⟨w.heap.size, k, none⟩) hgl).trans hfr0
          have hbw := Lib.hid ((hbel.trans (hb3.mono hbel.size)).setCell (p := ⟨w.heap.size, k, none⟩) (Nat.le_refl _) (.slice A3 (up (4 + f.v.length)) c3))
          clear hrw hIs
          go_wp2_with fail
          go_roundw
          case rel => exact ⟨k + 1, _, by omega, by go_num, hst.out, hbw.out, hfit2⟩
          case measure => simp [intOf]; omega
        · have ht : (fs.length : Int) - 1 ≤ (k : Int) := by omega
          have hp : piece fs.length k f = frB f := by unfold piece; rw [if_neg hlast]
          go_wp2_with fail
          refine (tput_any f.t A' c' f.v _ hlW hlc hcm hft).mono ?_
          rintro e w2 ⟨A2, c2, rfl, hown, b2⟩
          have hcap := own_cap hown
          have hb3 : Below wr.heap.size wr w2 := hW1.trans (b2.mono hW1.size)
          have hIs : IsB w2 w2.heap.size (.slice A2 (4 + f.v.length) c2) (piece fs.length k f) := by
            rw [hp]
            exact ⟨A2, c2, by rw [hflen], Lies.own hown, by rw [hflen]; exact hcap.2.1, hcap.2.2⟩
          have hst := Lib.hid (hrw.step hb3 hf.out hlt hIs)
          have d0 := (hb3.cell (p := ⟨w.heap.size, k, none⟩) hgl).trans hcell0
          have d1 := (hb3.frozen (p := ⟨w.heap.size, k, none⟩) hgl).trans hfr0
          have hbw := Lib.hid ((hbel.trans (hb3.mono hbel.size)).setCell (p := ⟨w.heap.size, k, none⟩) (Nat.le_refl _) (.slice A2 (4 + f.v.length) c2))
          clear hrw hIs
          go_wp2_with fail
          go_roundw
          case rel => exact ⟨k + 1, _, by omega, by go_num, hst.out, hbw.out, hfit2⟩
          case measure => simp [intOf]; omega
      · have hbad : Hid (∃ f ∈ fs, ¬ Fit f) := ⟨f, List.mem_of_getElem? hf.out, hft⟩
        unfold Fit at hft
        go_wp2_with fail
        refine (tput_no _ A' f.v.length c' _ (by omega) (by omega)).mono ?_
        rintro e w2 ⟨rfl, b2⟩
        have hb2 : Below w.heap.size w w2 := (hbel.alloc hbel.size _).trans (b2.mono (by have := hbel.size; simp; omega))
        go_wp2_with fail
        go_ret2
        exact ⟨hb2, .inr ⟨hbad.out, rfl⟩⟩
    · obtain rfl : k = fs.length := by omega
      have HFit : Hid (∀ f ∈ fs, Fit f) := by have := hfit.out; rwa [List.take_length] at this
      have HT := Lib.hid (pcs_bound HFit.out)
      have hP := hrw.parts rfl
      have hJ := join_any (some ⟨w.heap.size, 0, none⟩) fs.length us (pcs fs) wr hP (by rw [pcs_len]; unfold maxLen; omega) (by have := HT.out; omega)
      have e1 : tot (pcs fs) = (jn fs).length := by unfold tot; rw [pcs_all]
      rw [pcs_len, pcs_all, e1] at hJ
      have HJ := Lib.hid hJ
      clear hJ hP hrw e1
      go_wp2_with fail
      refine HJ.out.mono ?_
      rintro e w2 ⟨A2, c2, rfl, hown, b2⟩
      go_wp2_with fail
      go_ret2
      exact ⟨hbel.trans (b2.mono hbel.size), .inl ⟨HFit.out, A2, c2, rfl, own_base hown hbel.size⟩⟩
end Go.Proofs.YtdnilbebdgohnaaGreatDoor

