/- Layer 6, package tlv: length, Same, Put, for whatever frames. They write nothing that was there. -/
/- Layer 6, package tlv: Put of what doesn't fit, Same; lists of frames in memory; Size. -/
/- Layer 6, package tlv: Join, for whatever frames. It writes nothing that was there. -/
import Derived.Deep.RegionHeld3
import Derived.Test.YthkbcpbgoefanaaGreatDoorQW
import Derived.Test.YthkbcpbgoefanaaGreatDoorQP
import Derived.Test.YthkbcpbgoefanaaGreatDoorQA



namespace Go.Proofs.YthkbcpbgoefanaaGreatDoor
open Go.RowKit

/-- a frame: its type and its value -/
structure Fr where
  t : UInt16
  v : List UInt8
def frL (f : Fr) : Nat := 4 + f.v.length
def u32of (n : Nat) : UInt32 := UInt32.ofNat n
theorem u32of_toNat {n : Nat} (h : n < 4294967296) : (u32of n).toNat = n := by
  unfold u32of
  rw [UInt32.toNat_ofNat']
  exact Nat.mod_eq_of_lt h
def headB (t : UInt16) (n : Nat) : List UInt8 := puts 2 [u32of t.toNat, u32of (4 + n)]
def frB (f : Fr) : List UInt8 := headB f.t f.v.length ++ f.v
theorem headB_len (t : UInt16) (n : Nat) : (headB t n).length = 4 := by unfold headB; rw [puts_len]; rfl
theorem frB_len (f : Fr) : (frB f).length = frL f := by unfold frB frL; rw [List.length_append, headB_len]

theorem length_any (T : Value) (A : Option Addr) (n c : Nat) (w : World) (hn : n ≤ 140737488355328) :
    Calls Tryz.prog 107 #[.agg #[T, .slice A n c]] w fun e w' => e = .returned (.int .i64 ((4 + n : Nat) : Int)) ∧ Below w.heap.size w w' := by
  go_enter Tryz.func107, Tryz.ntmps107
  go_wp2_with fail
  go_ret
  exact ⟨ret_int (by go_num), (Below.refl _ _).alloc (Nat.le_refl _) _⟩

theorem parts2 {w : World} (v1 v2 : Value) (p1 p2 : List UInt8) (h1 : IsB w w.heap.size v1 p1) (h2 : IsB w w.heap.size v2 p2) :
    Parts (w.alloc (.cells #[v1, v2] 22)) (w.alloc (.cells #[v1, v2] 22)).heap.size (some ⟨w.heap.size, 0, none⟩) [v1, v2] [p1, p2] := by
  have hb : Below w.heap.size w (w.alloc (.cells #[v1, v2] 22)) := (Below.refl _ w).alloc (Nat.le_refl _) _
  have hmore : ∀ v p, IsB w w.heap.size v p → IsB (w.alloc (.cells #[v1, v2] 22)) (w.alloc (.cells #[v1, v2] 22)).heap.size v p := by
    rintro v p ⟨A, c, h1, h2, h3, h4⟩
    exact ⟨A, c, h1, (h2.below hb).more hb.size, h3, h4⟩
  refine ⟨(Lies.newN w [v1, v2] _).more (by simp), rfl, fun i p hp => ?_⟩
  match i, hp with
  | 0, hp => simp only [List.getElem?_cons_zero, Option.some.injEq] at hp; subst hp; exact ⟨_, rfl, hmore _ _ h1⟩
  | 1, hp => simp only [List.getElem?_cons_succ, List.getElem?_cons_zero, Option.some.injEq] at hp; subst hp; exact ⟨_, rfl, hmore _ _ h2⟩
  | i + 2, hp => simp at hp
theorem tot2 (p q : List UInt8) : tot [p, q] = p.length + q.length := by simp [tot]

/-- the head of a frame, put; then joined with its value -/
theorem head_put (t : UInt16) (n : Nat) (hn : n ≤ 65531) (w1 : World) :
    Calls Tryz.prog 106 #[.int .i64 2, .slice (some ⟨w1.heap.size, 0, none⟩) 2 2] (w1.alloc (.cells #[.int .u32 (IntKind.u32.wrap (t.toNat : Int)), .int .u32 (IntKind.u32.wrap (4 + (n : Int)))] 59)) fun e w' =>
      ∃ A' c', e = .returned (.slice A' 4 c') ∧ IsB w' w'.heap.size (.slice A' 4 c') (headB t n) ∧ Below w1.heap.size w1 w' := by
  have ht := t.toNat_lt
  have e1 : Value.int .u32 (IntKind.u32.wrap (t.toNat : Int)) = uv (u32of t.toNat) := by
    rw [uv, u32of_toNat (by omega), IntKind.wrap_u32]
    congr 1
    omega
  have e2 : Value.int .u32 (IntKind.u32.wrap (4 + (n : Int))) = uv (u32of (4 + n)) := by
    rw [uv, u32of_toNat (by omega), IntKind.wrap_u32]
    congr 1
    omega
  rw [e1, e2]
  have hl := (Lies.newN w1 [uv (u32of t.toNat), uv (u32of (4 + n))] 59).more (B' := (w1.alloc (.cells [uv (u32of t.toNat), uv (u32of (4 + n))].toArray 59)).heap.size) (by simp)
  refine (put_any 2 (.inr (.inl rfl)) (some ⟨w1.heap.size, 0, none⟩) 2 [u32of t.toNat, u32of (4 + n)] _ hl (by simp)).mono ?_
  rintro e w' ⟨A', c', rfl, hown, hb⟩
  have hcap := own_cap hown
  have hlen : (headB t n).length = 4 := headB_len t n
  refine ⟨A', c', rfl, ⟨A', c', by rw [hlen], Lies.own hown, by rw [hlen]; exact hcap.2.1, hcap.2.2⟩, ((Below.refl _ w1).alloc (Nat.le_refl _) _).trans (hb.mono (by simp))⟩
theorem head_join (t : UInt16) (A1 : Option Addr) (c1 : Nat) (A : Option Addr) (c : Nat) (b : List UInt8) (hn : b.length ≤ 65531) (w2 : World) (h1 : IsB w2 w2.heap.size (.slice A1 4 c1) (headB t b.length)) (h2 : IsB w2 w2.heap.size (.slice A b.length c) b) :
    Calls Tryz.prog 57 #[.slice (some ⟨w2.heap.size, 0, none⟩) 2 2] (w2.alloc (.cells #[.slice A1 4 c1, .slice A b.length c] 22)) fun e w' =>
      ∃ A' c', e = .returned (.slice A' (4 + b.length) c') ∧ w'.ownsRow w2.heap.size 5 1 (.slice A' (4 + b.length) c') (4 + b.length) ((frB ⟨t, b⟩).map bv) ∧ Below w2.heap.size w2 w' := by
  have hP := parts2 _ _ _ _ h1 h2
  have ht : tot [headB t b.length, b] = 4 + b.length := by rw [tot2, headB_len]
  refine (join_any _ 2 _ _ _ hP (by simp [maxLen]) (by rw [ht]; omega)).mono ?_
  rintro e w' ⟨A', c', rfl, hown, hb⟩
  rw [ht] at hown ⊢
  have e3 : [headB t b.length, b].flatten = frB ⟨t, b⟩ := by simp [frB]
  rw [e3] at hown
  exact ⟨A', c', rfl, own_base hown (by simp), ((Below.refl _ w2).alloc (Nat.le_refl _) _).trans (hb.mono (by simp))⟩

theorem below_drew {B : Nat} {a w : World} (h : Below B a w) : Below B a w.drew := ⟨h.os, h.tape, h.output, h.size, h.block⟩
set_option maxHeartbeats 1000000 in
theorem tput_any (t : UInt16) (A : Option Addr) (c : Nat) (b : List UInt8) (w : World) (h : Lies w w.heap.size A (b.map bv)) (hc : b.length ≤ c) (hm : c ≤ maxLen) (hn : b.length ≤ 65531) :
    Calls Tryz.prog 56 #[.agg #[hv t, .slice A b.length c]] w fun e w' => ∃ A' c', e = .returned (.tuple #[.slice A' (4 + b.length) c', .bool true]) ∧
      w'.ownsRow w.heap.size 5 1 (.slice A' (4 + b.length) c') (4 + b.length) ((frB ⟨t, b⟩).map bv) ∧ Below w.heap.size w w' := by
  have hb0 : Below w.heap.size w (w.alloc (.cells #[hv t, .slice A b.length c] 96)) := (Below.refl _ w).alloc (Nat.le_refl _) _
  go_enter Tryz.func56, Tryz.ntmps56
  go_wp2_with fail
  go_region_held3 (fun w' => w'.cell? ⟨w.heap.size, 0, none⟩ = some (hv t) ∧ w'.cell? ⟨w.heap.size, 1, none⟩ = some (.slice A b.length c)) (go_keep) (first | (go_at_call 107; refine (length_any _ _ _ _ _ (by omega)).mono ?_; rintro e w1 ⟨rfl, b1⟩; have g0 : w1.cell? ⟨w.heap.size, 0, none⟩ = some (hv t) := (b1.cell (p := ⟨w.heap.size, 0, none⟩) (by simp)).trans (by simp); have g1 : w1.cell? ⟨w.heap.size, 1, none⟩ = some (.slice A b.length c) := (b1.cell (p := ⟨w.heap.size, 1, none⟩) (by simp)).trans (by simp); have hsz1 : w.heap.size + 1 ≤ w1.heap.size := by (have := b1.size; simpa using this)) | (go_at_call 106; refine (head_put t b.length hn w1).mono ?_; rintro e w2 ⟨A1, c1, rfl, i1, b2⟩; have k0 : w2.cell? ⟨w.heap.size, 0, none⟩ = some (hv t) := (b2.cell (p := ⟨w.heap.size, 0, none⟩) (by show w.heap.size < w1.heap.size; omega)).trans g0; have k1 : w2.cell? ⟨w.heap.size, 1, none⟩ = some (.slice A b.length c) := (b2.cell (p := ⟨w.heap.size, 1, none⟩) (by show w.heap.size < w1.heap.size; omega)).trans g1) | (go_at_call 57; have hb2 : Below w.heap.size w w2 := ((below_drew hb0).trans (b1.mono (by simp))).trans (b2.mono (by omega)); refine (head_join t A1 c1 A c b hn w2 i1 ⟨A, c, rfl, (h.below hb2).more hb2.size, hc, hm⟩).mono ?_; rintro e w3 ⟨A3, c3, rfl, i3, b3⟩; have q0 : w3.cell? ⟨w.heap.size, 0, none⟩ = some (hv t) := (b3.cell (p := ⟨w.heap.size, 0, none⟩) (by show w.heap.size < w2.heap.size; have := b2.size; omega)).trans k0; have q1 : w3.cell? ⟨w.heap.size, 1, none⟩ = some (.slice A b.length c) := (b3.cell (p := ⟨w.heap.size, 1, none⟩) (by show w.heap.size < w2.heap.size; have := b2.size; omega)).trans k1))
  go_wp2_with fail
  go_ret2
  exact ⟨A3, c3, rfl, own_base i3 hb2.size, hb2.trans (b3.mono hb2.size)⟩
end Go.Proofs.YthkbcpbgoefanaaGreatDoor




namespace Go.Proofs.YthkbcpbgoefanaaGreatDoor
open Go.RowKit

theorem tput_no (T : Value) (A : Option Addr) (n c : Nat) (w : World) (hn : 65531 < n) (hm : n ≤ maxLen) :
    Calls Tryz.prog 56 #[.agg #[T, .slice A n c]] w fun e w' => e = .returned (.tuple #[.slice none 0 0, .bool false]) ∧ Below w.heap.size w w' := by
  unfold maxLen at hm
  go_enter Tryz.func56, Tryz.ntmps56
  go_wp2_with fail
  go_ret2
  exact ⟨rfl, (Below.refl _ _).alloc (Nat.le_refl _) _⟩

/-! ### lists of frames in memory -/
structure Frames (w : World) (B : Nat) (A : Option Addr) (vs : List Value) (fs : List Fr) : Prop where
  lies : Lies w B A vs
  len : vs.length = fs.length * 2
  each : ∀ (i : Nat) (f : Fr), fs[i]? = some f → ∃ v, vs[i * 2]? = some (hv f.t) ∧ vs[i * 2 + 1]? = some v ∧ IsB w B v f.v
section
variable {w w' : World} {B B' : Nat} {A : Option Addr} {vs : List Value} {fs : List Fr}
theorem Frames.at_ (h : Frames w B A vs fs) {k : Nat} (hk : k < fs.length) :
    ∃ ad A' c' f, A = some ad ∧ ad.block < B ∧ Hid (fs[k]? = some f) ∧ w.cell? (ad.add (k * 2)) = some (hv f.t) ∧ w.cell? ⟨(ad.add (k * 2)).block, (ad.add (k * 2)).off + 1, none⟩ = some (.slice A' f.v.length c') ∧ Lies w B A' (f.v.map bv) ∧ f.v.length ≤ c' ∧ c' ≤ maxLen := by
  obtain ⟨v, hv0, hv1, A', c', rfl, h2, h3, h4⟩ := h.each k _ (List.getElem?_eq_getElem hk)
  have hl := h.len
  obtain ⟨ad, ha, hb, hc⟩ := h.lies (fun e => by rw [e] at hl; simp at hl; omega)
  exact ⟨ad, A', c', fs[k], ha, hb, List.getElem?_eq_getElem hk, hc _ _ hv0, by have h5 := hc _ _ hv1; rw [← add_add'] at h5; exact h5, h2, h3, h4⟩
theorem Frames.below (h : Frames w B A vs fs) (hb : Below B w w') : Frames w' B A vs fs :=
  ⟨h.lies.below hb, h.len, fun i f hf => by obtain ⟨v, h1, h2, h3⟩ := h.each i f hf; exact ⟨v, h1, h2, h3.below hb⟩⟩
theorem IsB.more {v : Value} {l : List UInt8} (h : IsB w B v l) (hB : B ≤ B') : IsB w B' v l := by
  obtain ⟨A', c', h2, h3, h4⟩ := h
  exact ⟨A', c', h2, h3.more hB, h4⟩
theorem Frames.more (h : Frames w B A vs fs) (hB : B ≤ B') : Frames w B' A vs fs :=
  ⟨h.lies.more hB, h.len, fun i f hf => by obtain ⟨v, h1, h2, h3⟩ := h.each i f hf; exact ⟨v, h1, h2, h3.more hB⟩⟩
end

theorem Whole.lies {w : World} {g B : Nat} {t : TypeId} {xs : List Value} (h : Whole w g t xs.toArray) (hB : g < B) : Lies w B (some ⟨g, 0, none⟩) xs := fun _ =>
  ⟨_, rfl, hB, fun j u hu => by rw [add_row, h.cell]; simpa using hu⟩

/-! ### Size -/
def Small1 (fs : List Fr) : Prop := ∀ (i : Nat) (f : Fr), fs[i]? = some f → f.v.length ≤ 900000
def part (n k : Nat) (ls : List Nat) : List Value := (ls.take k).map iv ++ List.replicate (n - k) (iv 0)
theorem part_set {n k x : Nat} {ls : List Nat} (hk : k < n) (h : ls[k]? = some x) : (part n k ls).set k (iv x) = part n (k + 1) ls := by
  have hl : ((ls.take k).map iv).length = k := by
    have := (List.getElem?_eq_some_iff.1 h).1
    rw [List.length_map, List.length_take]
    omega
  unfold part
  rw [List.set_append_right _ _ (by omega), hl, Nat.sub_self, take_some h, List.map_append, List.append_assoc]
  congr 1
  obtain ⟨m, hm⟩ : ∃ m, n - k = m + 1 := ⟨n - k - 1, by omega⟩
  rw [hm, show n - (k + 1) = m by omega, List.replicate_succ]
  rfl
theorem part_len {n k : Nat} {ls : List Nat} (hk : k ≤ n) (hn : ls.length = n) : (part n k ls).length = n := by
  unfold part
  rw [List.length_append, List.length_map, List.length_take, List.length_replicate]
  omega
theorem intinfo : (Tryz.prog.info? 3).map (fun i => (i.zero, i.size, i.bytes)) = some (some (.int .i64 0), 1, 8) := by kernel_rfl

set_option maxRecDepth 100000 in
theorem tsize_any (A : Option Addr) (c : Nat) (vs : List Value) (fs : List Fr) (w : World) (h : Frames w w.heap.size A vs fs) (hn : fs.length ≤ 1000) (hs : Small1 fs) :
    Calls Tryz.prog 114 #[.slice A fs.length c] w fun e w' => e = .returned (.int .i64 (sizes (fs.map frL) : Nat)) ∧ Below w.heap.size w w' := by
  obtain ⟨i0, hi, hz0, hz1, hz2⟩ := info_parts intinfo
  go_enter Tryz.func114, Tryz.ntmps114
  go_wp2_with (at_make; refine wpList_make_full _ rfl (.tmp 7) (.tmp 7) 164 rfl w.heap.size 3 i0 _ 1 Tryz.underlying164 hi hz0 hz1 .i64 .i64 _ _ fs.length rfl rfl rfl rfl (by rw [hz2]; omega) (by unfold maxLen; omega) (Nat.le_refl _) ?_; intro w1 hown hgrow)
  have hb1 : Below w.heap.size w w1 := (Below.refl _ w).grown hgrow (Nat.le_refl _) (by simp)
  have hW : Whole w1 w.heap.size 3 (part fs.length 0 (fs.map frL)).toArray := by
    have := (own_whole hown).1
    unfold part
    simpa [Whole, toList_madeCells_one, Value.cells, iv] using this
  clear hown hgrow
  go_loopw [11] (fun i wr => ∃ k : Nat, k ≤ fs.length ∧ i = .int .i64 k ∧ Whole wr w.heap.size 3 (part fs.length k (fs.map frL)).toArray ∧ Below w.heap.size w wr) (fun i _ => fs.length - (intOf i).toNat)
  case atStart => exact ⟨0, Nat.zero_le _, rfl, hW, hb1⟩
  case round =>
    obtain ⟨k, hk, rfl, hwh, hbel⟩ := hrel
    by_cases hlt : k < fs.length
    · obtain ⟨ad, A', c', f, rfl, hb, hf, hc0, hc1, hl, hlc, hcm⟩ := (h.below hbel).at_ hlt
      have hfl := hs k f hf.out
      have HL : Hid ((fs.map frL)[k]? = some (4 + f.v.length)) := by rw [Hid, List.getElem?_map, hf.out]; rfl
      have hpl : (part fs.length k (fs.map frL)).length = fs.length := part_len hk (by simp)
      have HS := Lib.hid (part_set (n := fs.length) hlt HL.out)
      obtain ⟨old, hcell⟩ : ∃ old, wr.cell? ⟨w.heap.size, k, none⟩ = some old := ⟨(part fs.length k (fs.map frL))[k]'(by omega), by rw [hwh.cell]; simp⟩
      have hfr := hwh.frozen k
      have hgw := hwh.lt
      have HP := Lib.hid hpl
      clear hpl
      generalize hP : part fs.length k (fs.map frL) = ps at *
      clear hP
      go_wp2_with fail
      refine (length_any _ _ _ _ _ (by omega)).mono ?_
      rintro e w2 ⟨rfl, b2⟩
      have hwh2 : Whole w2 w.heap.size 3 ps.toArray := (hwh.alloc _).below b2 (by simp; omega)
      have hcell2 : w2.cell? ⟨w.heap.size, k, none⟩ = some old := (b2.cell (p := ⟨w.heap.size, k, none⟩) (by simp; omega)).trans ((World.cell?_alloc_lt _ _ ⟨w.heap.size, k, none⟩ (by simp; omega)).trans hcell)
      have hfr2 := hwh2.frozen k
      have hb2 : Below w.heap.size w w2 := (hbel.alloc hbel.size _).trans (b2.mono (by simp; omega))
      have HW : Hid (Whole (w2.setCell ⟨w.heap.size, k, none⟩ (.int .i64 ((4 + f.v.length : Nat) : Int))) w.heap.size 3 (part fs.length (k + 1) (fs.map frL)).toArray) := by
        have := hwh2.set_ k (.int .i64 ((4 + f.v.length : Nat) : Int))
        rw [List.setIfInBounds_toArray, HS.out] at this
        exact this
      clear hwh hwh2 hW hcell hfr b2
      go_wp2_with fail
      go_roundw
      case rel => exact ⟨k + 1, by omega, by go_num, HW.out, hb2.setCell (Nat.le_refl _) _⟩
      case measure => simp [intOf]; omega
    · obtain rfl : k = fs.length := by omega
      have hl2 : Lies wr wr.heap.size (some ⟨w.heap.size, 0, none⟩) ((fs.map frL).map iv) := by
        have := hwh.lies (B := wr.heap.size) hwh.lt
        unfold part at this
        rw [Nat.sub_self, List.replicate_zero, List.append_nil, List.take_of_length_le (by simp)] at this
        exact this
      have hS := sizes_any (some ⟨w.heap.size, 0, none⟩) fs.length (fs.map frL) wr hl2 (by simpa using hn) (fun i x hx => by
        rw [List.getElem?_map] at hx
        obtain ⟨f, hf, rfl⟩ := Option.map_eq_some_iff.1 hx
        have := hs i f hf
        unfold frL
        omega)
      rw [List.length_map] at hS
      have HS := Lib.hid hS
      clear hS hwh hl2
      go_wp2_with fail
      refine HS.out.mono ?_
      rintro e w2 ⟨rfl, b2⟩
      go_wp2_with fail
      go_ret
      exact ⟨rfl, hbel.trans (b2.mono hbel.size)⟩
end Go.Proofs.YthkbcpbgoefanaaGreatDoor



namespace Go.Proofs.YthkbcpbgoefanaaGreatDoor
open Go.RowKit

/-! ### the bytes of a list -/
def jn (fs : List Fr) : List UInt8 := fs.foldl (fun out f => padB out ++ frB f) []
theorem jn_snoc (fs : List Fr) (f : Fr) : jn (fs ++ [f]) = padB (jn fs) ++ frB f := by simp [jn]
theorem jn_take {fs : List Fr} {k : Nat} {f : Fr} (h : fs[k]? = some f) : jn (fs.take (k + 1)) = padB (jn (fs.take k)) ++ frB f := by rw [take_some h, jn_snoc]
theorem padB_app (a b : List UInt8) : padB (padB a ++ b) = padB a ++ padB b := by
  have h : gap ((padB a).length + b.length) = gap b.length := by
    rw [padB_len]
    unfold up gap
    omega
  conv => lhs; unfold padB
  rw [List.length_append, show (a ++ List.replicate (gap a.length) (0 : UInt8)) = padB a from rfl, h, List.append_assoc]
  rfl
def piece (n i : Nat) (f : Fr) : List UInt8 := if i + 1 < n then padB (frB f) else frB f
def pcs (fs : List Fr) : List (List UInt8) := fs.mapIdx fun i f => piece fs.length i f
theorem pcs_len (fs : List Fr) : (pcs fs).length = fs.length := by simp [pcs]
theorem pcs_at {fs : List Fr} {i : Nat} {f : Fr} (h : fs[i]? = some f) : (pcs fs)[i]? = some (piece fs.length i f) := by
  unfold pcs
  rw [List.getElem?_mapIdx, h]
  rfl
theorem pcs_flat (fs : List Fr) : ∀ k, k ≤ fs.length → ((pcs fs).take k).flatten = if k < fs.length then padB (jn (fs.take k)) else jn (fs.take k) := by
  intro k
  induction k with
  | zero => intro _; simp [jn, padB, gap]
  | succ k ih =>
    intro hk
    have hf : fs[k]? = some fs[k] := List.getElem?_eq_getElem (by omega)
    rw [take_some (pcs_at hf), List.flatten_append, ih (by omega), if_pos (by omega), jn_take hf]
    simp only [List.flatten_cons, List.flatten_nil, List.append_nil, piece]
    split
    · rw [padB_app]
    · rfl
theorem pcs_all (fs : List Fr) : (pcs fs).flatten = jn fs := by
  have h := pcs_flat fs fs.length (Nat.le_refl _)
  rw [if_neg (by omega), List.take_length, List.take_of_length_le (by rw [pcs_len]; omega)] at h
  exact h
def Fit (f : Fr) : Prop := f.v.length ≤ 65531
instance (f : Fr) : Decidable (Fit f) := by unfold Fit; infer_instance
theorem piece_len {n i : Nat} {f : Fr} (h : Fit f) : (piece n i f).length ≤ 65540 := by
  unfold Fit at h
  have h1 := frB_len f
  have h2 := gap_lt (frB f).length
  unfold frL at h1
  unfold piece
  split
  · rw [padB_len]
    unfold up
    omega
  · omega
theorem tot_bound {m : Nat} (ps : List (List UInt8)) (h : ∀ p ∈ ps, p.length ≤ m) : tot ps ≤ ps.length * m := by
  induction ps with
  | nil => simp [tot]
  | cons p ps ih =>
    have h1 := ih fun q hq => h q (List.mem_cons_of_mem _ hq)
    have h2 := h p List.mem_cons_self
    simp only [tot, List.flatten_cons, List.length_append, List.length_cons] at h1 ⊢
    rw [Nat.add_mul]
    omega
theorem pcs_bound {fs : List Fr} (h : ∀ f ∈ fs, Fit f) : tot (pcs fs) ≤ fs.length * 65540 := by
  have := tot_bound (m := 65540) (pcs fs) fun p hp => by
    obtain ⟨i, hi, rfl⟩ := List.mem_iff_getElem.1 hp
    rw [pcs_len] at hi
    have h1 := pcs_at (List.getElem?_eq_getElem hi)
    rw [List.getElem?_eq_getElem (by rw [pcs_len]; exact hi)] at h1
    rw [Option.some.inj h1]
    exact piece_len (h _ (List.getElem_mem hi))
  rwa [pcs_len] at this

theorem bsinfo : (Tryz.prog.info? 22).map (fun i => (i.zero, i.size, i.bytes)) = some (some (.slice none 0 0), 1, 24) := by kernel_rfl
/-- what lies in the row of the parts behind k rounds -/
structure Row67 (W : World) (g n k : Nat) (fs : List Fr) (vs : List Value) : Prop where
  whole : Whole W g 22 (vs ++ List.replicate (n - k) (Value.slice none 0 0)).toArray
  len : vs.length = k
  each : ∀ (i : Nat) (f : Fr), i < k → fs[i]? = some f → ∃ v, vs[i]? = some v ∧ IsB W W.heap.size v (piece n i f)
theorem IsB.on {W W' : World} {v : Value} {l : List UInt8} (h : IsB W W.heap.size v l) (hb : Below W.heap.size W W') : IsB W' W'.heap.size v l := (h.below hb).more hb.size

/-- a store into a cell that holds no byte leaves what reads as bytes -/
theorem IsB.far {W : World} {B : Nat} {v : Value} {l : List UInt8} (h : IsB W B v l) {p : Addr} {A0 : Option Addr} {n0 c0 : Nat} (hp : W.cell? p = some (.slice A0 n0 c0)) (u : Value) : IsB (W.setCell p u) B v l := by
  obtain ⟨A, c, h1, h2, h3, h4⟩ := h
  refine ⟨A, c, h1, fun hne => ?_, h3, h4⟩
  obtain ⟨ad, h5, h6, h7⟩ := h2 hne
  refine ⟨ad, h5, h6, fun j x hx => ?_⟩
  have h8 := h7 j x hx
  rw [World.cell?_setCell_other W p _ u (fun e => ?_)]
  · exact h8
  · rw [← e, hp] at h8
    rw [List.getElem?_map] at hx
    obtain ⟨y, _, rfl⟩ := Option.map_eq_some_iff.1 hx
    cases h8
/-- how Join ends -/
def JoinR (w : World) (fs : List Fr) (e : Ending) (w' : World) : Prop := Below w.heap.size w w' ∧
  (((∀ f ∈ fs, Fit f) ∧ ∃ A' c', e = .returned (.tuple #[.slice A' (jn fs).length c', .bool true]) ∧ w'.ownsRow w.heap.size 5 1 (.slice A' (jn fs).length c') (jn fs).length ((jn fs).map bv)) ∨
   ((∃ f ∈ fs, ¬ Fit f) ∧ e = .returned (.tuple #[.slice none 0 0, .bool false])))
theorem Row67.cell {W : World} {g n k : Nat} {fs : List Fr} {vs : List Value} (h : Row67 W g n k fs vs) (hk : k < n) : W.cell? ⟨g, k, none⟩ = some (.slice none 0 0) := by
  rw [h.whole.cell]
  have := h.len
  simp only [List.getElem?_toArray]
  rw [List.getElem?_append_right (by omega), List.getElem?_replicate, if_pos (by omega)]
theorem Row67.step {W W3 : World} {g n k : Nat} {fs : List Fr} {vs : List Value} (h : Row67 W g n k fs vs) (hb : Below W.heap.size W W3) {v : Value} {f : Fr} (hf : fs[k]? = some f) (hk : k < n) (hv : IsB W3 W3.heap.size v (piece n k f)) :
    Row67 (W3.setCell ⟨g, k, none⟩ v) g n (k + 1) fs (vs ++ [v]) := by
  have hl := h.len
  have h3 : Row67 W3 g n k fs vs := ⟨h.whole.below hb h.whole.lt, hl, fun i f hi hf => by obtain ⟨u, h1, h2⟩ := h.each i f hi hf; exact ⟨u, h1, h2.on hb⟩⟩
  have hc := h3.cell hk
  have hsz : (W3.setCell ⟨g, k, none⟩ v).heap.size = W3.heap.size := by simp [World.setCell]
  refine ⟨?_, by simp [hl], fun i f' hi hf' => ?_⟩
  · have h4 := h3.whole.set_ k v
    rw [List.setIfInBounds_toArray, List.set_append_right _ _ (by omega), hl, Nat.sub_self] at h4
    obtain ⟨m, hm⟩ : ∃ m, n - k = m + 1 := ⟨n - k - 1, by omega⟩
    rw [hm, List.replicate_succ, List.set_cons_zero] at h4
    rw [show n - (k + 1) = m by omega, List.append_assoc]
    exact h4
  · rcases Nat.lt_or_ge i k with hlt | hge
    · obtain ⟨u, h1, h2⟩ := h3.each i f' hlt hf'
      exact ⟨u, by rw [List.getElem?_append_left (by omega)]; exact h1, by rw [hsz]; exact h2.far hc v⟩
    · obtain rfl : i = k := by omega
      rw [hf] at hf'
      cases hf'
      exact ⟨v, by rw [List.getElem?_append_right (by omega), hl, Nat.sub_self]; rfl, by rw [hsz]; exact hv.far hc v⟩
theorem Row67.parts {W : World} {g n : Nat} {fs : List Fr} {vs : List Value} (h : Row67 W g n n fs vs) (hn : fs.length = n) : Parts W W.heap.size (some ⟨g, 0, none⟩) vs (pcs fs) := by
  have hw := h.whole
  rw [Nat.sub_self, List.replicate_zero, List.append_nil] at hw
  refine ⟨hw.lies hw.lt, by rw [h.len, pcs_len, hn], fun i p hp => ?_⟩
  have hi : i < fs.length := by have := (List.getElem?_eq_some_iff.1 hp).1; rwa [pcs_len] at this
  have hf := List.getElem?_eq_getElem hi
  rw [pcs_at hf] at hp
  cases hp
  obtain ⟨v, h1, h2⟩ := h.each i _ (by omega) hf
  rw [hn]
  exact ⟨v, h1, h2⟩

set_option maxRecDepth 100000 in
set_option maxHeartbeats 2000000 in
theorem tjoin_any (A : Option Addr) (c : Nat) (vs : List Value) (fs : List Fr) (w : World) (h : Frames w w.heap.size A vs fs) (hn : fs.length ≤ 1000) :
    Calls Tryz.prog 135 #[.slice A fs.length c] w (JoinR w fs) := by
  obtain ⟨i0, hi, hz0, hz1, hz2⟩ := info_parts bsinfo
  go_enter Tryz.func135, Tryz.ntmps135
  go_wp2_with (at_make; refine wpList_make_full _ rfl (.tmp 10) (.tmp 10) 137 rfl w.heap.size 22 i0 _ 1 Tryz.underlying137 hi hz0 hz1 .i64 .i64 _ _ fs.length rfl rfl rfl rfl (by rw [hz2]; omega) (by unfold maxLen; omega) (Nat.le_refl _) ?_; intro w1 hown hgrow)
  have hb1 : Below w.heap.size w w1 := (Below.refl _ w).grown hgrow (Nat.le_refl _) (by simp)
  have hR : Row67 w1 w.heap.size fs.length 0 fs [] := ⟨by
    have := (own_whole hown).1
    simpa [Whole, toList_madeCells_one, Value.cells] using this, rfl, fun i f hi => by omega⟩
  clear hown hgrow
  go_loopw [14] (fun i wr => ∃ (k : Nat) (us : List Value), k ≤ fs.length ∧ i = .int .i64 k ∧ Row67 wr w.heap.size fs.length k fs us ∧ Below w.heap.size w wr ∧ Hid (∀ f ∈ fs.take k, Fit f)) (fun i _ => fs.length - (intOf i).toNat)
  case atStart => exact ⟨0, [], Nat.zero_le _, rfl, hR, hb1, by simp [Hid]⟩
  case round =>
    obtain ⟨k, us, hk, rfl, hrw, hbel, hfit⟩ := hrel
    by_cases hlt : k < fs.length
    · obtain ⟨ad, A', c', f, rfl, hb, hf, hc0, hc1, hl, hlc, hcm⟩ := (h.below hbel).at_ hlt
      by_cases hft : Fit f
      · have hfit2 : Hid (∀ f ∈ fs.take (k + 1), Fit f) := fun q hq => by
          rw [take_some hf.out] at hq
          rcases List.mem_append.1 hq with h1 | h1
          · exact hfit.out q h1
          · rw [List.mem_singleton.1 h1]; exact hft
        unfold Fit at hft
        have hW1 : Below wr.heap.size wr (wr.alloc (.cells #[hv f.t, .slice A' f.v.length c'] 96)) := (Below.refl _ _).alloc (Nat.le_refl _) _
        have hlW : Lies (wr.alloc (.cells #[hv f.t, .slice A' f.v.length c'] 96)) (wr.alloc (.cells #[hv f.t, .slice A' f.v.length c'] 96)).heap.size A' (f.v.map bv) :=
          ((hl.more hbel.size).below hW1).more hW1.size
        have hcell0 := hrw.cell hlt
        have hfr0 := hrw.whole.frozen k
        have hgl := hrw.whole.lt
        have hflen := frB_len f
        unfold frL at hflen
        by_cases hlast : k + 1 < fs.length
        · have ht : (k : Int) < (fs.length : Int) - 1 := by omega
          have hp : piece fs.length k f = padB (frB f) := by unfold piece; rw [if_pos hlast]
          go_wp2_with fail
          refine (tput_any f.t A' c' f.v _ hlW hlc hcm hft).mono ?_
          rintro e w2 ⟨A2, c2, rfl, hown, b2⟩
          have hcap := own_cap hown
          have hbB := bytes_any A2 c2 (frB f) w2 (Lies.own hown) (by rw [hflen]; omega)
          rw [hflen] at hbB
          go_wp2_with fail
          refine hbB.mono ?_
          rintro e w3 ⟨A3, c3, rfl, hown3, b3⟩
          have hb3 : Below wr.heap.size wr w3 := (hW1.trans (b2.mono hW1.size)).trans (b3.mono (by have := b2.size; simp at this; omega))
          have hcap3 := own_cap hown3
          have hIs : IsB w3 w3.heap.size (.slice A3 (up (4 + f.v.length)) c3) (piece fs.length k f) := by
            rw [hp]
            exact ⟨A3, c3, by rw [padB_len, hflen], Lies.own hown3, by rw [padB_len, hflen]; exact hcap3.2.1, hcap3.2.2⟩
          have hst := Lib.hid (hrw.step hb3 hf.out hlt hIs)
          have d0 := (hb3.cell (p := ⟨w.heap.size, k, none⟩) hgl).trans hcell0
          have d1 := (hb3.frozen (p := ⟨w.heap.size, k, none⟩) hgl).trans hfr0
          have hbw := Lib.hid ((hbel.trans (hb3.mono hbel.size)).setCell (p := ⟨w.heap.size, k, none⟩) (Nat.le_refl _) (.slice A3 (up (4 + f.v.length)) c3))
          clear hrw hIs
          go_wp2_with fail
          go_roundw
          case rel => exact ⟨k + 1, _, by omega, by go_num, hst.out, hbw.out, hfit2⟩
          case measure => simp [intOf]; omega
        · have ht : (fs.length : Int) - 1 ≤ (k : Int) := by omega
          have hp : piece fs.length k f = frB f := by unfold piece; rw [if_neg hlast]
          go_wp2_with fail
          refine (tput_any f.t A' c' f.v _ hlW hlc hcm hft).mono ?_
          rintro e w2 ⟨A2, c2, rfl, hown, b2⟩
          have hcap := own_cap hown
          have hb3 : Below wr.heap.size wr w2 := hW1.trans (b2.mono hW1.size)
          have hIs : IsB w2 w2.heap.size (.slice A2 (4 + f.v.length) c2) (piece fs.length k f) := by
            rw [hp]
            exact ⟨A2, c2, by rw [hflen], Lies.own hown, by rw [hflen]; exact hcap.2.1, hcap.2.2⟩
          have hst := Lib.hid (hrw.step hb3 hf.out hlt hIs)
          have d0 := (hb3.cell (p := ⟨w.heap.size, k, none⟩) hgl).trans hcell0
          have d1 := (hb3.frozen (p := ⟨w.heap.size, k, none⟩) hgl).trans hfr0
          have hbw := Lib.hid ((hbel.trans (hb3.mono hbel.size)).setCell (p := ⟨w.heap.size, k, none⟩) (Nat.le_refl _) (.slice A2 (4 + f.v.length) c2))
          clear hrw hIs
          go_wp2_with fail
          go_roundw
          case rel => exact ⟨k + 1, _, by omega, by go_num, hst.out, hbw.out, hfit2⟩
          case measure => simp [intOf]; omega
      · have hbad : Hid (∃ f ∈ fs, ¬ Fit f) := ⟨f, List.mem_of_getElem? hf.out, hft⟩
        unfold Fit at hft
        go_wp2_with fail
        refine (tput_no _ A' f.v.length c' _ (by omega) (by omega)).mono ?_
        rintro e w2 ⟨rfl, b2⟩
        have hb2 : Below w.heap.size w w2 := (hbel.alloc hbel.size _).trans (b2.mono (by have := hbel.size; simp; omega))
        go_wp2_with fail
        go_ret2
        exact ⟨hb2, .inr ⟨hbad.out, rfl⟩⟩
    · obtain rfl : k = fs.length := by omega
      have HFit : Hid (∀ f ∈ fs, Fit f) := by have := hfit.out; rwa [List.take_length] at this
      have HT := Lib.hid (pcs_bound HFit.out)
      have hP := hrw.parts rfl
      have hJ := join_any (some ⟨w.heap.size, 0, none⟩) fs.length us (pcs fs) wr hP (by rw [pcs_len]; unfold maxLen; omega) (by have := HT.out; omega)
      have e1 : tot (pcs fs) = (jn fs).length := by unfold tot; rw [pcs_all]
      rw [pcs_len, pcs_all, e1] at hJ
      have HJ := Lib.hid hJ
      clear hJ hP hrw e1
      go_wp2_with fail
      refine HJ.out.mono ?_
      rintro e w2 ⟨A2, c2, rfl, hown, b2⟩
      go_wp2_with fail
      go_ret2
      exact ⟨hbel.trans (b2.mono hbel.size), .inl ⟨HFit.out, A2, c2, rfl, own_base hown hbel.size⟩⟩
end Go.Proofs.YthkbcpbgoefanaaGreatDoor


