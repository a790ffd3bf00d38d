/- Layer 8: a row of frames that is filled; Size, for whatever nodes. It writes nothing that was there. -/
import Derived.Test.YtdnilbebdgohnaaNodeA
import Derived.Deep.OwnRows
import Derived.Deep.RegionHeld3



namespace Go.Proofs.Ytdnilbebdgohnaa
open Go.RowKit

theorem tfrinfo : (Try.prog.info? 112).map (fun i => (i.zero, i.size, i.bytes)) = some (some (.agg #[.int .u16 0, .slice none 0 0]), 2, 32) := by kernel_rfl
def zfr : Nat → List Value
  | 0 => []
  | n + 1 => .int .u16 0 :: .slice none 0 0 :: zfr n
theorem madeCells_fr (n : Nat) : (madeCells #[.int .u16 0, .slice none 0 0] (n * 2)).toList = zfr n := by
  apply List.ext_getElem?
  intro i
  have h : ∀ n i, (zfr n)[i]? = if i < n * 2 then some (#[Value.int .u16 0, .slice none 0 0].getD (i % 2) undef) else none := by
    intro n
    induction n with
    | zero => intro i; simp [zfr]
    | succ n ih =>
      intro i
      match i with
      | 0 => simp [zfr]
      | 1 => simp [zfr]; omega
      | i + 2 =>
        simp only [zfr, List.getElem?_cons_succ, ih]
        rw [show (i + 2) % 2 = i % 2 by omega]
        by_cases hi : i < n * 2
        · rw [if_pos hi, if_pos (by omega)]
        · rw [if_neg hi, if_neg (by omega)]
  rw [h]
  rw [Array.getElem?_toList]
  unfold madeCells
  rw [Array.getElem?_map]
  by_cases hi : i < n * 2
  · rw [if_pos hi]
    have h2 : i % 2 = 0 ∨ i % 2 = 1 := by omega
    rcases h2 with h2 | h2 <;> simp [hi, h2]
  · rw [if_neg hi]; simp [hi]
/-- what lies in the row of the frames behind k rounds -/
structure FrRow (W : World) (g n k : Nat) (fs : List Fr) (vs : List Value) : Prop where
  whole : Whole W g 112 (vs ++ zfr (n - k)).toArray
  len : vs.length = k * 2
  each : ∀ (i : Nat) (f : Fr), i < k → fs[i]? = some f → ∃ v, vs[i * 2]? = some (hv f.t) ∧ vs[i * 2 + 1]? = some v ∧ IsB W W.heap.size v f.v

theorem zfr_set1 (n k : Nat) (hk : k < n) (vs : List Value) (hl : vs.length = k * 2) (v : Value) :
    (vs ++ zfr (n - k)).set (k * 2 + 1) v = (vs ++ [.int .u16 0, v]) ++ zfr (n - (k + 1)) := by
  obtain ⟨m, hm⟩ : ∃ m, n - k = m + 1 := ⟨n - k - 1, by omega⟩
  rw [hm, show n - (k + 1) = m by omega, List.set_append_right _ _ (by omega), hl, show k * 2 + 1 - k * 2 = 1 by omega, zfr]
  simp
section
variable {W W2 : World} {g n k : Nat} {fs : List Fr} {vs : List Value} {f : Fr}
theorem FrRow.cell1 (h : FrRow W g n k fs vs) (hk : k < n) : W.cell? ⟨g, k * 2 + 1, none⟩ = some (.slice none 0 0) := by
  rw [h.whole.cell]
  obtain ⟨m, hm⟩ : ∃ m, n - k = m + 1 := ⟨n - k - 1, by omega⟩
  have := h.len
  simp only [List.getElem?_toArray]
  rw [List.getElem?_append_right (by omega), hm, show k * 2 + 1 - vs.length = 1 by omega]
  rfl
theorem FrRow.on (h : FrRow W g n k fs vs) (hb : Below W.heap.size W W2) : FrRow W2 g n k fs vs :=
  ⟨h.whole.below hb h.whole.lt, h.len, fun i f hi hf => by obtain ⟨u, h0, h1, h2⟩ := h.each i f hi hf; exact ⟨u, h0, h1, h2.on hb⟩⟩
theorem FrRow.step1 (h0 : FrRow W g n k fs vs) (hb : Below W.heap.size W W2) (hf : fs[k]? = some f) (hk : k < n) (ht : f.t = 0) (hm : f.v.length ≤ maxLen) (t : TypeId) :
    FrRow ((W2.setCell ⟨g, k * 2 + 1, none⟩ (.slice (some ⟨W2.heap.size, 0, none⟩) f.v.length f.v.length)).alloc (.cells (f.v.map bv).toArray t)) g n (k + 1) fs (vs ++ [.int .u16 0, .slice (some ⟨W2.heap.size, 0, none⟩) f.v.length f.v.length]) := by
  have h := h0.on hb
  have hl := h.len
  have hc := h.cell1 hk
  have hsz : (W2.setCell ⟨g, k * 2 + 1, none⟩ (.slice (some ⟨W2.heap.size, 0, none⟩) f.v.length f.v.length)).heap.size = W2.heap.size := by simp [World.setCell]
  have hal := (Below.refl (W2.setCell ⟨g, k * 2 + 1, none⟩ (.slice (some ⟨W2.heap.size, 0, none⟩) f.v.length f.v.length)).heap.size (W2.setCell ⟨g, k * 2 + 1, none⟩ (.slice (some ⟨W2.heap.size, 0, none⟩) f.v.length f.v.length))).alloc (Nat.le_refl _) (.cells (f.v.map bv).toArray t)
  refine ⟨?_, by simp [hl]; omega, fun i f' hi hf' => ?_⟩
  · have h4 := (h.whole.set_ (k * 2 + 1) (.slice (some ⟨W2.heap.size, 0, none⟩) f.v.length f.v.length)).alloc (.cells (f.v.map bv).toArray t)
    rw [List.setIfInBounds_toArray, zfr_set1 n k hk vs hl] at h4
    exact h4
  · rcases Nat.lt_or_ge i k with hlt | hge
    · obtain ⟨u, h1, h2, h3⟩ := h.each i f' hlt hf'
      refine ⟨u, by rw [List.getElem?_append_left (by omega)]; exact h1, by rw [List.getElem?_append_left (by omega)]; exact h2, ?_⟩
      have h5 := h3.far hc (.slice (some ⟨W2.heap.size, 0, none⟩) f.v.length f.v.length)
      exact IsB.on (by rw [hsz]; exact h5) hal
    · obtain rfl : i = k := by omega
      rw [hf] at hf'
      cases hf'
      refine ⟨_, by rw [List.getElem?_append_right (by omega), hl, Nat.sub_self, ht]; rfl, by rw [List.getElem?_append_right (by omega), hl, show i * 2 + 1 - i * 2 = 1 by omega]; rfl, ?_⟩
      have h6 := Lies.newN (W2.setCell ⟨g, i * 2 + 1, none⟩ (.slice (some ⟨W2.heap.size, 0, none⟩) f.v.length f.v.length)) (f.v.map bv) t
      rw [hsz] at h6
      exact ⟨_, _, rfl, h6.more (by simp), Nat.le_refl _, hm⟩
theorem FrRow.frames (h : FrRow W g n n fs vs) (hn : fs.length = n) : Frames W W.heap.size (some ⟨g, 0, none⟩) vs fs := by
  have hw := h.whole
  rw [Nat.sub_self, zfr, List.append_nil] at hw
  exact ⟨hw.lies hw.lt, by rw [h.len, hn], fun i f hf => h.each i f (by have := (List.getElem?_eq_some_iff.1 hf).1; omega) hf⟩
end
theorem own_whole2 {w : World} {base e g n : Nat} {xs : List Value} (h : w.ownsRow base e 2 (.slice (some ⟨g, 0, none⟩) n n) n xs) : Whole w g e xs.toArray := by
  have h0 := h.1
  rcases h.2 with ⟨h1, _⟩ | ⟨g', cap, cur, h1, h2, h3, _, _, h6, h7⟩
  · simp at h1
  · simp only [Value.slice.injEq, Option.some.injEq, Addr.mk.injEq, and_true, true_and] at h1
    obtain ⟨rfl, rfl⟩ := h1
    rw [List.take_of_length_le (by simp; omega)] at h7
    subst h7
    exact h3
theorem made_zero (m : Nat) : madeCells #[.int .u8 0] m = ((List.replicate m (0 : UInt8)).map bv).toArray := by
  apply Array.toList_inj.1
  rw [toList_madeCells_one]
  simp
/-- frames as long as those of the nodes -/
def fsz (ns : List Nd) : List Fr := ns.map fun n => ⟨0, List.replicate n.vlen 0⟩
theorem fsz_at {ns : List Nd} {k : Nat} {n : Nd} (h : ns[k]? = some n) : (fsz ns)[k]? = some ⟨0, List.replicate n.vlen 0⟩ := by unfold fsz; rw [List.getElem?_map, h]; rfl
theorem fsz_frL (ns : List Nd) : (fsz ns).map frL = lens ns := by
  unfold fsz
  rw [lens_map, List.map_map]
  refine List.map_congr_left fun n _ => ?_
  simp [Function.comp, frL]

set_option maxRecDepth 100000 in
theorem size_step (ns : List Nd) (ih : ∀ n ∈ ns, ∀ (A : Option Addr) (c : Nat) (w : World), Nodes w w.heap.size A n.ks → n.ks.length ≤ 1000 → (∀ k ∈ n.ks, Fine k) →
      Calls Try.prog 65 #[.slice A n.ks.length c] w fun e w' => e = .returned (.int .i64 (sizes (lens n.ks) : Nat)) ∧ Below w.heap.size w w')
    (A : Option Addr) (c : Nat) (w : World) (h : Nodes w w.heap.size A ns) (hn : ns.length ≤ 1000) (hf : ∀ n ∈ ns, Fine n) :
    Calls Try.prog 65 #[.slice A ns.length c] w fun e w' => e = .returned (.int .i64 (sizes (lens ns) : Nat)) ∧ Below w.heap.size w w' := by
  obtain ⟨i0, hi, hz0, hz1, hz2⟩ := info_parts tfrinfo
  have HI := Lib.hid ih
  have HF := Lib.hid hf
  clear ih hf
  go_enter Try.func65, Try.ntmps65
  go_wp2_with (at_make; refine wpList_make_full _ rfl (.tmp 7) (.tmp 7) 110 rfl w.heap.size 112 i0 _ 2 Try.underlying110 hi hz0 hz1 .i64 .i64 _ _ ns.length rfl rfl rfl rfl (by rw [hz2]; omega) (by unfold maxLen; omega) (Nat.le_refl _) ?_; intro w1 hown hgrow)
  have hb1 : Below w.heap.size w w1 := (Below.refl _ w).grown hgrow (Nat.le_refl _) (by simp)
  have hR : FrRow w1 w.heap.size ns.length 0 (fsz ns) [] := ⟨by
    have := own_whole2 hown
    simp only [Value.cells, madeCells_fr] at this
    exact this, rfl, fun i f hi => by omega⟩
  clear hown hgrow
  go_loopw [11] (fun i wr => ∃ (k : Nat) (us : List Value), k ≤ ns.length ∧ i = .int .i64 k ∧ FrRow wr w.heap.size ns.length k (fsz ns) us ∧ Below w.heap.size w wr) (fun i _ => ns.length - (intOf i).toNat)
  case atStart => exact ⟨0, [], Nat.zero_le _, rfl, hR, hb1⟩
  case round =>
    obtain ⟨k, us, hk, rfl, hrw, hbel⟩ := hrel
    by_cases hlt : k < ns.length
    · obtain ⟨ad, A', c', K', k', n, rfl, hb, hn', hc0, hc1, hc2, hN⟩ := (h.bel hbel).at_ hlt
      have HN' := Lib.hid (fsz_at hn'.out)
      have hmem : n ∈ ns := List.mem_of_getElem? hn'.out
      have hfn := HF.out n hmem
      have hvl := hfn.vl
      have hve := n.vlen_eq
      have hS := fun W (hW : Below wr.heap.size wr W) => HI.out n hmem K' k' W ((hN.kids.bel (hW.mono hbel.size)).more (Nat.le_trans hbel.size hW.size)) hfn.kl hfn.kid
      have hmk : ∀ W : World, (Instr.makeSlice 25 (.int .i64 ((n.v.length : Int) + (sizes (lens n.ks) : Nat))) (.int .i64 ((n.v.length : Int) + (sizes (lens n.ks) : Nat)))).run Try.prog W = .ok (.slice (some ⟨W.heap.size, 0, none⟩) (n.v.length + sizes (lens n.ks)) (n.v.length + sizes (lens n.ks))) (W.alloc (.cells (madeCells #[.int .u8 0] (n.v.length + sizes (lens n.ks))) 5)) := fun W => by
        have := run_make_row' (P := Try.prog) 25 5 (.int .u8 0) 1 Try.underlying25 u8info rfl .i64 .i64 (n.v.length + sizes (lens n.ks)) (by omega) (by omega) W
        rwa [Int.natCast_add] at this
      have hql : sizes (lens n.ks) ≤ 800000 := by omega
      have hal : n.v.length ≤ 800000 := by omega
      have hwr : IntKind.i64.wrap ((n.v.length : Int) + (sizes (lens n.ks) : Nat)) = (n.v.length : Int) + (sizes (lens n.ks) : Nat) := by rw [IntKind.wrap_i64]; omega
      generalize hq : sizes (lens n.ks) = q at *
      generalize ha : n.v.length = a at *
      have HQ := Lib.hid hq
      have HA := Lib.hid ha
      have HVE := Lib.hid hve
      clear hq ha hve
      have hgw := hrw.whole.lt
      have hcell : wr.cell? ⟨w.heap.size, k * 2 + 1, none⟩ = some (.slice none 0 0) := hrw.cell1 hlt
      have hfr := hrw.whole.frozen (k * 2 + 1)
      have hne1 : w.heap.size ≠ wr.heap.size := by omega
      have hne2 : wr.heap.size ≠ w.heap.size := by omega
      go_wp2_with fail
      have b0 : Below wr.heap.size wr (wr.alloc (.cells #[hv n.t, .slice A' a c', .slice K' n.ks.length k'] 28)) := (Below.refl _ _).alloc (Nat.le_refl _) _
      go_region_held3 (fun W => W.cell? ⟨wr.heap.size, 0, none⟩ = some (hv n.t) ∧ W.cell? ⟨wr.heap.size, 1, none⟩ = some (.slice A' a c') ∧ W.cell? ⟨wr.heap.size, 2, none⟩ = some (.slice K' n.ks.length k')) (go_keep) (first
        | (go_at_call 65; refine (hS _ (by first | exact b0 | exact below_drew b0)).mono ?_; rintro e w2 ⟨rfl, b2⟩; have b2' : Below wr.heap.size wr w2 := (by first | exact b0.trans (b2.mono (by simp)) | exact (below_drew b0).trans (b2.mono (by simp))); have g0 : w2.cell? ⟨wr.heap.size, 0, none⟩ = some (hv n.t) := (b2.cell (p := ⟨wr.heap.size, 0, none⟩) (by simp)).trans (by simp); have g1 : w2.cell? ⟨wr.heap.size, 1, none⟩ = some (.slice A' a c') := (b2.cell (p := ⟨wr.heap.size, 1, none⟩) (by simp)).trans (by simp); have g2 : w2.cell? ⟨wr.heap.size, 2, none⟩ = some (.slice K' n.ks.length k') := (b2.cell (p := ⟨wr.heap.size, 2, none⟩) (by simp)).trans (by simp); have hsz2 : wr.heap.size + 1 ≤ w2.heap.size := (by have h9 := b2.size; simpa using h9); have d0 : w2.cell? ⟨w.heap.size, k * 2 + 1, none⟩ = some (.slice none 0 0) := (b2'.cell (p := ⟨w.heap.size, k * 2 + 1, none⟩) hgw).trans hcell; have d1 : w2.frozen? ⟨w.heap.size, k * 2 + 1, none⟩ = false := (b2'.frozen (p := ⟨w.heap.size, k * 2 + 1, none⟩) hgw).trans hfr; have hlt2 : w.heap.size < w2.heap.size := (by omega); have hlt3 : wr.heap.size < w2.heap.size := (by omega)))
      have HST : Hid (FrRow ((w2.setCell ⟨w.heap.size, k * 2 + 1, none⟩ (.slice (some ⟨w2.heap.size, 0, none⟩) (a + q) (a + q))).alloc (.cells (madeCells #[.int .u8 0] (a + q)) 5)) w.heap.size ns.length (k + 1) (fsz ns) (us ++ [.int .u16 0, .slice (some ⟨w2.heap.size, 0, none⟩) (a + q) (a + q)])) := by
        have h9 := hrw.step1 b2' HN'.out hlt rfl (by rw [List.length_replicate]; unfold maxLen; omega) 5
        simp only [List.length_replicate] at h9
        rw [HVE.out] at h9
        rw [made_zero]
        exact h9
      have HBW : Hid (Below w.heap.size w ((w2.setCell ⟨w.heap.size, k * 2 + 1, none⟩ (.slice (some ⟨w2.heap.size, 0, none⟩) (a + q) (a + q))).alloc (.cells (madeCells #[.int .u8 0] (a + q)) 5))) :=
        ((hbel.trans (b2'.mono hbel.size)).setCell (Nat.le_refl _) _).alloc (by simp [World.setCell]; omega) _
      generalize (w2.setCell ⟨w.heap.size, k * 2 + 1, none⟩ (.slice (some ⟨w2.heap.size, 0, none⟩) (a + q) (a + q))).alloc (.cells (madeCells #[.int .u8 0] (a + q)) 5) = W3 at *
      clear hrw
      go_wp2_with fail
      go_roundw
      case rel => exact ⟨k + 1, _, by omega, by go_num, HST.out, HBW.out⟩
      case measure => simp [intOf]; omega
    · obtain rfl : k = ns.length := by omega
      have hF := hrw.frames (by simp [fsz])
      have hT := tsize_any (some ⟨w.heap.size, 0, none⟩) ns.length us (fsz ns) wr hF (by simp [fsz]; omega) (fun i f hf => by
        unfold fsz at hf
        rw [List.getElem?_map] at hf
        obtain ⟨n, hn2, rfl⟩ := Option.map_eq_some_iff.1 hf
        have := (HF.out n (List.mem_of_getElem? hn2)).vl
        simp; omega)
      rw [fsz_frL, show (fsz ns).length = ns.length by simp [fsz]] at hT
      have HT := Lib.hid hT
      clear hT hF hrw
      go_wp2_with fail
      refine HT.out.mono ?_
      rintro e w2 ⟨rfl, b2⟩
      go_wp2_with fail
      go_ret
      exact ⟨rfl, hbel.trans (b2.mono hbel.size)⟩

/-- Size of whatever nodes -/
theorem nsize_any (ns : List Nd) : ∀ (A : Option Addr) (c : Nat) (w : World), Nodes w w.heap.size A ns → ns.length ≤ 1000 → (∀ n ∈ ns, Fine n) →
    Calls Try.prog 65 #[.slice A ns.length c] w fun e w' => e = .returned (.int .i64 (sizes (lens ns) : Nat)) ∧ Below w.heap.size w w' :=
  Nds.ind (P := fun ns => ∀ (A : Option Addr) (c : Nat) (w : World), Nodes w w.heap.size A ns → ns.length ≤ 1000 → (∀ n ∈ ns, Fine n) →
    Calls Try.prog 65 #[.slice A ns.length c] w fun e w' => e = .returned (.int .i64 (sizes (lens ns) : Nat)) ∧ Below w.heap.size w w') size_step ns
end Go.Proofs.Ytdnilbebdgohnaa

