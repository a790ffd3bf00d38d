/- Layer 6, package tlv: length, Same, Put, for whatever frames. They write nothing that was there. -/
/- Layer 6, package tlv: Put of what doesn't fit, Same; lists of frames in memory; Size. -/
/- Layer 6, package tlv: Join, for whatever frames. It writes nothing that was there. -/
import Derived.Deep.RegionHeld3
import Derived.Test.YteknmgmdmjmnmaaGreatDoorUW
import Derived.Test.YteknmgmdmjmnmaaGreatDoorUP
import Derived.Test.YteknmgmdmjmnmaaGreatDoorUA
import Derived.Laws.BytesArg



namespace Go.Proofs.YteknmgmdmjmnmaaGreatDoor
open Go.RowKit

/-- a frame: its type and its value -/
structure Fr where
  t : UInt16
  v : List UInt8
def frL (f : Fr) : Nat := 4 + f.v.length
def u32of (n : Nat) : UInt32 := UInt32.ofNat n
def headB (t : UInt16) (n : Nat) : List UInt8 := puts 2 [u32of t.toNat, u32of (4 + n)]
def frB (f : Fr) : List UInt8 := headB f.t f.v.length ++ f.v
theorem length_any (T : Value) (A : Option Addr) (n c : Nat) (w : World) (hn : n ≤ 140737488355328) :
    Calls Tryz.prog 216 #[.agg #[T, .slice A n c]] w fun e w' => e = .returned (.int .i64 ((4 + n : Nat) : Int)) ∧ Below w.heap.size w w' := by
  go_enter Tryz.func216, Tryz.ntmps216
  go_wp2_with fail
  go_ret
  exact ⟨ret_int (by go_num), (Below.refl _ _).alloc (Nat.le_refl _) _⟩

theorem below_drew {B : Nat} {a w : World} (h : Below B a w) : Below B a w.drew := ⟨h.os, h.tape, h.output, h.size, h.block⟩
end Go.Proofs.YteknmgmdmjmnmaaGreatDoor




namespace Go.Proofs.YteknmgmdmjmnmaaGreatDoor
open Go.RowKit

/-! ### lists of frames in memory -/
structure Frames (w : World) (B : Nat) (A : Option Addr) (vs : List Value) (fs : List Fr) : Prop where
  lies : Lies w B A vs
  len : vs.length = fs.length * 2
  each : ∀ (i : Nat) (f : Fr), fs[i]? = some f → ∃ v, vs[i * 2]? = some (hv f.t) ∧ vs[i * 2 + 1]? = some v ∧ IsB w B v f.v
section
variable {w w' : World} {B B' : Nat} {A : Option Addr} {vs : List Value} {fs : List Fr}
theorem Frames.at_ (h : Frames w B A vs fs) {k : Nat} (hk : k < fs.length) :
    ∃ ad A' c' f, A = some ad ∧ ad.block < B ∧ Hid (fs[k]? = some f) ∧ w.cell? (ad.add (k * 2)) = some (hv f.t) ∧ w.cell? ⟨(ad.add (k * 2)).block, (ad.add (k * 2)).off + 1, none⟩ = some (.slice A' f.v.length c') ∧ Lies w B A' (f.v.map bv) ∧ f.v.length ≤ c' ∧ c' ≤ maxLen := by
  obtain ⟨v, hv0, hv1, A', c', rfl, h2, h3, h4⟩ := h.each k _ (List.getElem?_eq_getElem hk)
  have hl := h.len
  obtain ⟨ad, ha, hb, hc⟩ := h.lies (fun e => by rw [e] at hl; simp at hl; omega)
  exact ⟨ad, A', c', fs[k], ha, hb, List.getElem?_eq_getElem hk, hc _ _ hv0, by have h5 := hc _ _ hv1; rw [← add_add'] at h5; exact h5, h2, h3, h4⟩
theorem Frames.below (h : Frames w B A vs fs) (hb : Below B w w') : Frames w' B A vs fs :=
  ⟨h.lies.below hb, h.len, fun i f hf => by obtain ⟨v, h1, h2, h3⟩ := h.each i f hf; exact ⟨v, h1, h2, h3.below hb⟩⟩
theorem IsB.more {v : Value} {l : List UInt8} (h : IsB w B v l) (hB : B ≤ B') : IsB w B' v l := by
  obtain ⟨A', c', h2, h3, h4⟩ := h
  exact ⟨A', c', h2, h3.more hB, h4⟩
theorem Frames.more (h : Frames w B A vs fs) (hB : B ≤ B') : Frames w B' A vs fs :=
  ⟨h.lies.more hB, h.len, fun i f hf => by obtain ⟨v, h1, h2, h3⟩ := h.each i f hf; exact ⟨v, h1, h2, h3.more hB⟩⟩
end

theorem Whole.lies {w : World} {g B : Nat} {t : TypeId} {xs : List Value} (h : Whole w g t xs.toArray) (hB : g < B) : Lies w B (some ⟨g, 0, none⟩) xs := fun _ =>
  ⟨_, rfl, hB, fun j u hu => by rw [add_row, h.cell]; simpa using hu⟩

/-! ### Size -/
def Small1 (fs : List Fr) : Prop := ∀ (i : Nat) (f : Fr), fs[i]? = some f → f.v.length ≤ 900000
def part (n k : Nat) (ls : List Nat) : List Value := (ls.take k).map iv ++ List.replicate (n - k) (iv 0)
theorem part_set {n k x : Nat} {ls : List Nat} (hk : k < n) (h : ls[k]? = some x) : (part n k ls).set k (iv x) = part n (k + 1) ls := by
  have hl : ((ls.take k).map iv).length = k := by
    have := (List.getElem?_eq_some_iff.1 h).1
    rw [List.length_map, List.length_take]
    omega
  unfold part
  rw [List.set_append_right _ _ (by omega), hl, Nat.sub_self, take_some h, List.map_append, List.append_assoc]
  congr 1
  obtain ⟨m, hm⟩ : ∃ m, n - k = m + 1 := ⟨n - k - 1, by omega⟩
  rw [hm, show n - (k + 1) = m by omega, List.replicate_succ]
  rfl
theorem part_len {n k : Nat} {ls : List Nat} (hk : k ≤ n) (hn : ls.length = n) : (part n k ls).length = n := by
  unfold part
  rw [List.length_append, List.length_map, List.length_take, List.length_replicate]
  omega
theorem intinfo : (Tryz.prog.info? 3).map (fun i => (i.zero, i.size, i.bytes)) = some (some (.int .i64 0), 1, 8) := by kernel_rfl

set_option maxRecDepth 100000 in
theorem tsize_any (A : Option Addr) (c : Nat) (vs : List Value) (fs : List Fr) (w : World) (h : Frames w w.heap.size A vs fs) (hn : fs.length ≤ 1000) (hs : Small1 fs) :
    Calls Tryz.prog 192 #[.slice A fs.length c] w fun e w' => e = .returned (.int .i64 (sizes (fs.map frL) : Nat)) ∧ Below w.heap.size w w' := by
  obtain ⟨i0, hi, hz0, hz1, hz2⟩ := info_parts intinfo
  go_enter Tryz.func192, Tryz.ntmps192
  go_wp2_with (at_make; refine wpList_make_full _ rfl (.tmp 7) (.tmp 7) 75 rfl w.heap.size 3 i0 _ 1 Tryz.underlying75 hi hz0 hz1 .i64 .i64 _ _ fs.length rfl rfl rfl rfl (by rw [hz2]; omega) (by unfold maxLen; omega) (Nat.le_refl _) ?_; intro w1 hown hgrow)
  have hb1 : Below w.heap.size w w1 := (Below.refl _ w).grown hgrow (Nat.le_refl _) (by simp)
  have hW : Whole w1 w.heap.size 3 (part fs.length 0 (fs.map frL)).toArray := by
    have := (own_whole hown).1
    unfold part
    simpa [Whole, toList_madeCells_one, Value.cells, iv] using this
  clear hown hgrow
  go_loopw [11] (fun i wr => ∃ k : Nat, k ≤ fs.length ∧ i = .int .i64 k ∧ Whole wr w.heap.size 3 (part fs.length k (fs.map frL)).toArray ∧ Below w.heap.size w wr) (fun i _ => fs.length - (intOf i).toNat)
  case atStart => exact ⟨0, Nat.zero_le _, rfl, hW, hb1⟩
  case round =>
    obtain ⟨k, hk, rfl, hwh, hbel⟩ := hrel
    by_cases hlt : k < fs.length
    · obtain ⟨ad, A', c', f, rfl, hb, hf, hc0, hc1, hl, hlc, hcm⟩ := (h.below hbel).at_ hlt
      have hfl := hs k f hf.out
      have HL : Hid ((fs.map frL)[k]? = some (4 + f.v.length)) := by rw [Hid, List.getElem?_map, hf.out]; rfl
      have hpl : (part fs.length k (fs.map frL)).length = fs.length := part_len hk (by simp)
      have HS := Lib.hid (part_set (n := fs.length) hlt HL.out)
      obtain ⟨old, hcell⟩ : ∃ old, wr.cell? ⟨w.heap.size, k, none⟩ = some old := ⟨(part fs.length k (fs.map frL))[k]'(by omega), by rw [hwh.cell]; simp⟩
      have hfr := hwh.frozen k
      have hgw := hwh.lt
      have HP := Lib.hid hpl
      clear hpl
      generalize hP : part fs.length k (fs.map frL) = ps at *
      clear hP
      go_wp2_with fail
      refine (length_any _ _ _ _ _ (by omega)).mono ?_
      rintro e w2 ⟨rfl, b2⟩
      have hwh2 : Whole w2 w.heap.size 3 ps.toArray := (hwh.alloc _).below b2 (by simp; omega)
      have hcell2 : w2.cell? ⟨w.heap.size, k, none⟩ = some old := (b2.cell (p := ⟨w.heap.size, k, none⟩) (by simp; omega)).trans ((World.cell?_alloc_lt _ _ ⟨w.heap.size, k, none⟩ (by simp; omega)).trans hcell)
      have hfr2 := hwh2.frozen k
      have hb2 : Below w.heap.size w w2 := (hbel.alloc hbel.size _).trans (b2.mono (by simp; omega))
      have HW : Hid (Whole (w2.setCell ⟨w.heap.size, k, none⟩ (.int .i64 ((4 + f.v.length : Nat) : Int))) w.heap.size 3 (part fs.length (k + 1) (fs.map frL)).toArray) := by
        have := hwh2.set_ k (.int .i64 ((4 + f.v.length : Nat) : Int))
        rw [List.setIfInBounds_toArray, HS.out] at this
        exact this
      clear hwh hwh2 hW hcell hfr b2
      go_wp2_with fail
      go_roundw
      case rel => exact ⟨k + 1, by omega, by go_num, HW.out, hb2.setCell (Nat.le_refl _) _⟩
      case measure => simp [intOf]; omega
    · obtain rfl : k = fs.length := by omega
      have hl2 : Lies wr wr.heap.size (some ⟨w.heap.size, 0, none⟩) ((fs.map frL).map iv) := by
        have := hwh.lies (B := wr.heap.size) hwh.lt
        unfold part at this
        rw [Nat.sub_self, List.replicate_zero, List.append_nil, List.take_of_length_le (by simp)] at this
        exact this
      have hS := sizes_any (some ⟨w.heap.size, 0, none⟩) fs.length (fs.map frL) wr hl2 (by simpa using hn) (fun i x hx => by
        rw [List.getElem?_map] at hx
        obtain ⟨f, hf, rfl⟩ := Option.map_eq_some_iff.1 hx
        have := hs i f hf
        unfold frL
        omega)
      rw [List.length_map] at hS
      have HS := Lib.hid hS
      clear hS hwh hl2
      go_wp2_with fail
      refine HS.out.mono ?_
      rintro e w2 ⟨rfl, b2⟩
      go_wp2_with fail
      go_ret
      exact ⟨rfl, hbel.trans (b2.mono hbel.size)⟩
end Go.Proofs.YteknmgmdmjmnmaaGreatDoor



namespace Go.Proofs.YteknmgmdmjmnmaaGreatDoor
open Go.RowKit

/-! ### the bytes of a list -/
def jn (fs : List Fr) : List UInt8 := fs.foldl (fun out f => padB out ++ frB f) []
def piece (n i : Nat) (f : Fr) : List UInt8 := if i + 1 < n then padB (frB f) else frB f
def pcs (fs : List Fr) : List (List UInt8) := fs.mapIdx fun i f => piece fs.length i f
theorem pcs_len (fs : List Fr) : (pcs fs).length = fs.length := by simp [pcs]
theorem pcs_at {fs : List Fr} {i : Nat} {f : Fr} (h : fs[i]? = some f) : (pcs fs)[i]? = some (piece fs.length i f) := by
  unfold pcs
  rw [List.getElem?_mapIdx, h]
  rfl
def Fit (f : Fr) : Prop := f.v.length ≤ 65531
instance (f : Fr) : Decidable (Fit f) := by unfold Fit; infer_instance
/-- what lies in the row of the parts behind k rounds -/
structure Row67 (W : World) (g n k : Nat) (fs : List Fr) (vs : List Value) : Prop where
  whole : Whole W g 48 (vs ++ List.replicate (n - k) (Value.slice none 0 0)).toArray
  len : vs.length = k
  each : ∀ (i : Nat) (f : Fr), i < k → fs[i]? = some f → ∃ v, vs[i]? = some v ∧ IsB W W.heap.size v (piece n i f)
theorem IsB.on {W W' : World} {v : Value} {l : List UInt8} (h : IsB W W.heap.size v l) (hb : Below W.heap.size W W') : IsB W' W'.heap.size v l := (h.below hb).more hb.size

/-- a store into a cell that holds no byte leaves what reads as bytes -/
theorem IsB.far {W : World} {B : Nat} {v : Value} {l : List UInt8} (h : IsB W B v l) {p : Addr} {A0 : Option Addr} {n0 c0 : Nat} (hp : W.cell? p = some (.slice A0 n0 c0)) (u : Value) : IsB (W.setCell p u) B v l := by
  obtain ⟨A, c, h1, h2, h3, h4⟩ := h
  refine ⟨A, c, h1, fun hne => ?_, h3, h4⟩
  obtain ⟨ad, h5, h6, h7⟩ := h2 hne
  refine ⟨ad, h5, h6, fun j x hx => ?_⟩
  have h8 := h7 j x hx
  rw [World.cell?_setCell_other W p _ u (fun e => ?_)]
  · exact h8
  · rw [← e, hp] at h8
    rw [List.getElem?_map] at hx
    obtain ⟨y, _, rfl⟩ := Option.map_eq_some_iff.1 hx
    cases h8
theorem Row67.cell {W : World} {g n k : Nat} {fs : List Fr} {vs : List Value} (h : Row67 W g n k fs vs) (hk : k < n) : W.cell? ⟨g, k, none⟩ = some (.slice none 0 0) := by
  rw [h.whole.cell]
  have := h.len
  simp only [List.getElem?_toArray]
  rw [List.getElem?_append_right (by omega), List.getElem?_replicate, if_pos (by omega)]
theorem Row67.step {W W3 : World} {g n k : Nat} {fs : List Fr} {vs : List Value} (h : Row67 W g n k fs vs) (hb : Below W.heap.size W W3) {v : Value} {f : Fr} (hf : fs[k]? = some f) (hk : k < n) (hv : IsB W3 W3.heap.size v (piece n k f)) :
    Row67 (W3.setCell ⟨g, k, none⟩ v) g n (k + 1) fs (vs ++ [v]) := by
  have hl := h.len
  have h3 : Row67 W3 g n k fs vs := ⟨h.whole.below hb h.whole.lt, hl, fun i f hi hf => by obtain ⟨u, h1, h2⟩ := h.each i f hi hf; exact ⟨u, h1, h2.on hb⟩⟩
  have hc := h3.cell hk
  have hsz : (W3.setCell ⟨g, k, none⟩ v).heap.size = W3.heap.size := by simp [World.setCell]
  refine ⟨?_, by simp [hl], fun i f' hi hf' => ?_⟩
  · have h4 := h3.whole.set_ k v
    rw [List.setIfInBounds_toArray, List.set_append_right _ _ (by omega), hl, Nat.sub_self] at h4
    obtain ⟨m, hm⟩ : ∃ m, n - k = m + 1 := ⟨n - k - 1, by omega⟩
    rw [hm, List.replicate_succ, List.set_cons_zero] at h4
    rw [show n - (k + 1) = m by omega, List.append_assoc]
    exact h4
  · rcases Nat.lt_or_ge i k with hlt | hge
    · obtain ⟨u, h1, h2⟩ := h3.each i f' hlt hf'
      exact ⟨u, by rw [List.getElem?_append_left (by omega)]; exact h1, by rw [hsz]; exact h2.far hc v⟩
    · obtain rfl : i = k := by omega
      rw [hf] at hf'
      cases hf'
      exact ⟨v, by rw [List.getElem?_append_right (by omega), hl, Nat.sub_self]; rfl, by rw [hsz]; exact hv.far hc v⟩
theorem Row67.parts {W : World} {g n : Nat} {fs : List Fr} {vs : List Value} (h : Row67 W g n n fs vs) (hn : fs.length = n) : Parts W W.heap.size (some ⟨g, 0, none⟩) vs (pcs fs) := by
  have hw := h.whole
  rw [Nat.sub_self, List.replicate_zero, List.append_nil] at hw
  refine ⟨hw.lies hw.lt, by rw [h.len, pcs_len, hn], fun i p hp => ?_⟩
  have hi : i < fs.length := by have := (List.getElem?_eq_some_iff.1 hp).1; rwa [pcs_len] at this
  have hf := List.getElem?_eq_getElem hi
  rw [pcs_at hf] at hp
  cases hp
  obtain ⟨v, h1, h2⟩ := h.each i _ (by omega) hf
  rw [hn]
  exact ⟨v, h1, h2⟩

end Go.Proofs.YteknmgmdmjmnmaaGreatDoor


