/- NodeA + NodeB + NodeC + NodeD -/
/- Layer 8: whether a node is right (check), for whatever node. It writes nothing that was there. -/
import Derived.Test.YteknmgmdmjmnmaaGreatDoorUTA
import Derived.Test.YteknmgmdmjmnmaaGreatDoorUS
import Derived.Deep.OwnRows
import Derived.Deep.RegionHeld3
import Derived.Test.YteknmgmdmjmnmaaGreatDoorUW
import Derived.Test.YteknmgmdmjmnmaaGreatDoorUE


namespace Go.Proofs.YteknmgmdmjmnmaaGreatDoor
open Go.RowKit

inductive Nd where
  | mk (t : UInt16) (v : List UInt8) (ks : List Nd)
namespace Nd
def t : Nd → UInt16 | .mk t _ _ => t
def v : Nd → List UInt8 | .mk _ v _ => v
def ks : Nd → List Nd | .mk _ _ ks => ks
end Nd
theorem Nd.eta (n : Nd) : n = .mk n.t n.v n.ks := by cases n; rfl
theorem Nd.ind {P : Nd → Prop} (h : ∀ t v ks, (∀ k ∈ ks, P k) → P (.mk t v ks)) (n : Nd) : P n :=
  Nd.rec (motive_1 := P) (motive_2 := fun ks => ∀ k ∈ ks, P k) (fun t v ks ih => h t v ks ih) (fun k hk => by cases hk)
    (fun a l ha hl k hk => by rcases List.mem_cons.1 hk with rfl | hk; (exact ha); (exact hl k hk)) n
/-- by what lies inside each node of the list -/
theorem Nds.ind {P : List Nd → Prop} (h : ∀ ns, (∀ n ∈ ns, P n.ks) → P ns) (ns : List Nd) : P ns := by
  have h1 : ∀ n : Nd, P n.ks := fun n => Nd.ind (P := fun n => P n.ks) (fun t v ks ih => h ks ih) n
  exact h ns fun n _ => h1 n

/-! ### the bytes -/
mutual
def Nd.val : Nd → List UInt8
  | .mk _ v ks => v ++ jn (frs ks)
def frs : List Nd → List Fr
  | [] => []
  | n :: ns => ⟨n.t, n.val⟩ :: frs ns
end
mutual
def Nd.vlen : Nd → Nat
  | .mk _ v ks => v.length + sizes (lens ks)
def lens : List Nd → List Nat
  | [] => []
  | n :: ns => (4 + n.vlen) :: lens ns
end
theorem lens_map (ns : List Nd) : lens ns = ns.map fun n => 4 + n.vlen := by
  induction ns with
  | nil => rfl
  | cons n ns ih => rw [lens, ih]; rfl
theorem Nd.vlen_eq (n : Nd) : n.vlen = n.v.length + sizes (lens n.ks) := by cases n; rw [Nd.vlen]; rfl
theorem lens_at {ns : List Nd} {k : Nat} {n : Nd} (h : ns[k]? = some n) : (lens ns)[k]? = some (4 + n.vlen) := by rw [lens_map, List.getElem?_map, h]; rfl
theorem lens_len (ns : List Nd) : (lens ns).length = ns.length := by rw [lens_map]; simp
theorem up_le (n : Nat) : n ≤ up n := by unfold up; omega
theorem sizes_mono {l : List Nat} {k : Nat} : sizes (l.take k) ≤ sizes l := by
  have h : ∀ j, sizes (l.take k) ≤ sizes (l.take (k + j)) := by
    intro j
    induction j with
    | zero => exact Nat.le_refl _
    | succ j ih =>
      rcases Nat.lt_or_ge (k + j) l.length with h1 | h1
      · rw [← Nat.add_assoc, sizes_take (List.getElem?_eq_getElem h1)]
        have := up_le (sizes (l.take (k + j)))
        omega
      · rw [List.take_of_length_le (by omega : l.length ≤ k + (j + 1))]
        rw [List.take_of_length_le h1] at ih
        exact ih
  have := h l.length
  rwa [List.take_of_length_le (by omega : l.length ≤ k + l.length)] at this
/-! ### nodes that are small enough to be walked -/
inductive Fine : Nd → Prop
  | mk {n : Nd} : n.vlen ≤ 800000 → n.ks.length ≤ 1000 → (∀ k ∈ n.ks, Fine k) → Fine n
theorem Fine.vl {n : Nd} (h : Fine n) : n.vlen ≤ 800000 := by cases h; assumption
theorem Fine.kl {n : Nd} (h : Fine n) : n.ks.length ≤ 1000 := by cases h; assumption
theorem Fine.kid {n : Nd} (h : Fine n) : ∀ k ∈ n.ks, Fine k := by cases h; assumption

/-! ### in memory -/
inductive Nodes (w : World) (B : Nat) : Option Addr → List Nd → Prop
  | mk {A : Option Addr} {ns : List Nd} (vs : List Value) (K : Nat → Option Addr) (c : Nat → Nat) (lies : Lies w B A vs) (len : vs.length = ns.length * 3)
      (each : ∀ (i : Nat) (n : Nd), ns[i]? = some n → vs[i * 3]? = some (hv n.t) ∧ (∃ d, vs[i * 3 + 1]? = some d ∧ IsB w B d n.v) ∧ vs[i * 3 + 2]? = some (.slice (K i) n.ks.length (c i)) ∧ n.ks.length ≤ c i ∧ c i ≤ maxLen)
      (kids : ∀ (i : Nat) (n : Nd), ns[i]? = some n → Nodes w B (K i) n.ks) : Nodes w B A ns
/-- what the three fields of a node read as -/
structure Node (w : World) (B : Nat) (A : Option Addr) (c : Nat) (K : Option Addr) (k : Nat) (n : Nd) : Prop where
  data : Lies w B A (n.v.map bv)
  dc : n.v.length ≤ c
  dm : c ≤ maxLen
  kids : Nodes w B K n.ks
  kc : n.ks.length ≤ k
  km : k ≤ maxLen
theorem IsB.more' {w : World} {B B' : Nat} {v : Value} {l : List UInt8} (h : IsB w B v l) (hB : B ≤ B') : IsB w B' v l := by
  obtain ⟨A', c', h2, h3, h4⟩ := h
  exact ⟨A', c', h2, h3.more hB, h4⟩
theorem Nodes.nil (w : World) (B : Nat) (A : Option Addr) : Nodes w B A [] := .mk [] (fun _ => none) (fun _ => 0) Lies.nil rfl (fun i n h => by simp at h) (fun i n h => by simp at h)
section
variable {w w' : World} {B B' : Nat} {A : Option Addr} {ns : List Nd}
theorem Nodes.keep (h : Nodes w B A ns) (hk : ∀ p : Addr, p.block < B → w'.cell? p = w.cell? p) : Nodes w' B A ns := by
  induction h with
  | mk vs K c lies len each kids ih =>
    refine .mk vs K c (lies.keep hk) len (fun i n hn => ?_) ih
    obtain ⟨h1, ⟨d, h2, A2, c2, h3, h4, h5⟩, h6⟩ := each i n hn
    exact ⟨h1, ⟨d, h2, A2, c2, h3, h4.keep hk, h5⟩, h6⟩
theorem Nodes.more (h : Nodes w B A ns) (hB : B ≤ B') : Nodes w B' A ns := by
  induction h with
  | mk vs K c lies len each kids ih =>
    refine .mk vs K c (lies.more hB) len (fun i n hn => ?_) ih
    obtain ⟨h1, ⟨d, h2, h3⟩, h6⟩ := each i n hn
    exact ⟨h1, ⟨d, h2, h3.more' hB⟩, h6⟩
theorem Nodes.bel (h : Nodes w B A ns) (hb : Below B w w') : Nodes w' B A ns := h.keep fun _ hp => hb.cell hp
theorem Nodes.on (h : Nodes w w.heap.size A ns) (hb : Below w.heap.size w w') : Nodes w' w'.heap.size A ns := (h.bel hb).more hb.size
theorem Nodes.drewN (h : Nodes w B A ns) (q : Nat) : Nodes (w.drewN q) B A ns := h.keep fun _ _ => rfl
theorem Nodes.kid (h : Nodes w B A ns) {k : Nat} {n : Nd} (hn : ns[k]? = some n) : ∃ K, Nodes w B K n.ks := by
  cases h with
  | mk vs K c lies len each kids => exact ⟨K k, kids k n hn⟩
theorem Nodes.at_ (h : Nodes w B A ns) {k : Nat} (hk : k < ns.length) :
    ∃ ad A' c' K' k' n, A = some ad ∧ ad.block < B ∧ Hid (ns[k]? = some n) ∧ w.cell? (ad.add (k * 3)) = some (hv n.t) ∧ w.cell? ⟨(ad.add (k * 3)).block, (ad.add (k * 3)).off + 1, none⟩ = some (.slice A' n.v.length c') ∧
      w.cell? ⟨(ad.add (k * 3)).block, (ad.add (k * 3)).off + 2, none⟩ = some (.slice K' n.ks.length k') ∧ Node w B A' c' K' k' n := by
  cases h with
  | mk vs K c lies len each kids =>
    obtain ⟨h1, ⟨d, h2, A2, c2, rfl, h4, h5, h6⟩, h7, h8, h9⟩ := each k _ (List.getElem?_eq_getElem hk)
    obtain ⟨ad, ha, hb, hc⟩ := lies (fun e => by rw [e] at len; simp at len; omega)
    exact ⟨ad, A2, c2, K k, c k, ns[k], ha, hb, List.getElem?_eq_getElem hk, hc _ _ h1, by have h10 := hc _ _ h2; rw [← add_add'] at h10; exact h10,
      by have h10 := hc _ _ h7; rw [← add_add'] at h10; exact h10, ⟨h4, h5, h6, kids k _ (List.getElem?_eq_getElem hk), h8, h9⟩⟩
end
section
variable {w w' : World} {B B' : Nat} {A K : Option Addr} {c k : Nat} {n : Nd}
theorem Node.keep (h : Node w B A c K k n) (hk : ∀ p : Addr, p.block < B → w'.cell? p = w.cell? p) : Node w' B A c K k n := ⟨h.data.keep hk, h.dc, h.dm, h.kids.keep hk, h.kc, h.km⟩
theorem Node.more (h : Node w B A c K k n) (hB : B ≤ B') : Node w B' A c K k n := ⟨h.data.more hB, h.dc, h.dm, h.kids.more hB, h.kc, h.km⟩
theorem Node.below (h : Node w B A c K k n) (hb : Below B w w') : Node w' B A c K k n := h.keep fun _ hp => hb.cell hp
theorem Node.on (h : Node w w.heap.size A c K k n) (hb : Below w.heap.size w w') : Node w' w'.heap.size A c K k n := (h.below hb).more hb.size
theorem Node.drewN (h : Node w B A c K k n) (q : Nat) : Node (w.drewN q) B A c K k n := h.keep fun _ _ => rfl
/-- the value of a node -/
abbrev ndV (n : Nd) (A : Option Addr) (c : Nat) (K : Option Addr) (k : Nat) : Value := .agg #[hv n.t, .slice A n.v.length c, .slice K n.ks.length k]
/-- a node that is laid in memory as a list of its own -/
theorem Node.list1 (h : Node w w.heap.size A c K k n) (t : TypeId) :
    Nodes (w.alloc (.cells #[hv n.t, .slice A n.v.length c, .slice K n.ks.length k] t)) (w.heap.size + 1) (some ⟨w.heap.size, 0, none⟩) [n] := by
  have hb : Below w.heap.size w (w.alloc (.cells #[hv n.t, .slice A n.v.length c, .slice K n.ks.length k] t)) := (Below.refl _ w).alloc (Nat.le_refl _) _
  have h2 := (h.below hb).more (Nat.le_add_right _ 1)
  refine .mk [hv n.t, .slice A n.v.length c, .slice K n.ks.length k] (fun _ => K) (fun _ => k) (Lies.newN w [hv n.t, .slice A n.v.length c, .slice K n.ks.length k] t) rfl (fun i m hm => ?_) (fun i m hm => ?_)
  · match i, hm with
    | 0, hm => simp only [List.getElem?_cons_zero, Option.some.injEq] at hm; subst hm; exact ⟨rfl, ⟨_, rfl, A, c, rfl, h2.data, h2.dc, h2.dm⟩, rfl, h2.kc, h2.km⟩
    | i + 1, hm => simp at hm
  · match i, hm with
    | 0, hm => simp only [List.getElem?_cons_zero, Option.some.injEq] at hm; subst hm; exact h2.kids
    | i + 1, hm => simp at hm
end
end Go.Proofs.YteknmgmdmjmnmaaGreatDoor




namespace Go.Proofs.YteknmgmdmjmnmaaGreatDoor
open Go.RowKit

theorem tfrinfo : (Tryz.prog.info? 255).map (fun i => (i.zero, i.size, i.bytes)) = some (some (.agg #[.int .u16 0, .slice none 0 0]), 2, 32) := by kernel_rfl
def zfr : Nat → List Value
  | 0 => []
  | n + 1 => .int .u16 0 :: .slice none 0 0 :: zfr n
theorem madeCells_fr (n : Nat) : (madeCells #[.int .u16 0, .slice none 0 0] (n * 2)).toList = zfr n := by
  apply List.ext_getElem?
  intro i
  have h : ∀ n i, (zfr n)[i]? = if i < n * 2 then some (#[Value.int .u16 0, .slice none 0 0].getD (i % 2) undef) else none := by
    intro n
    induction n with
    | zero => intro i; simp [zfr]
    | succ n ih =>
      intro i
      match i with
      | 0 => simp [zfr]
      | 1 => simp [zfr]; omega
      | i + 2 =>
        simp only [zfr, List.getElem?_cons_succ, ih]
        rw [show (i + 2) % 2 = i % 2 by omega]
        by_cases hi : i < n * 2
        · rw [if_pos hi, if_pos (by omega)]
        · rw [if_neg hi, if_neg (by omega)]
  rw [h]
  rw [Array.getElem?_toList]
  unfold madeCells
  rw [Array.getElem?_map]
  by_cases hi : i < n * 2
  · rw [if_pos hi]
    have h2 : i % 2 = 0 ∨ i % 2 = 1 := by omega
    rcases h2 with h2 | h2 <;> simp [hi, h2]
  · rw [if_neg hi]; simp [hi]
/-- what lies in the row of the frames behind k rounds -/
structure FrRow (W : World) (g n k : Nat) (fs : List Fr) (vs : List Value) : Prop where
  whole : Whole W g 255 (vs ++ zfr (n - k)).toArray
  len : vs.length = k * 2
  each : ∀ (i : Nat) (f : Fr), i < k → fs[i]? = some f → ∃ v, vs[i * 2]? = some (hv f.t) ∧ vs[i * 2 + 1]? = some v ∧ IsB W W.heap.size v f.v

theorem zfr_set1 (n k : Nat) (hk : k < n) (vs : List Value) (hl : vs.length = k * 2) (v : Value) :
    (vs ++ zfr (n - k)).set (k * 2 + 1) v = (vs ++ [.int .u16 0, v]) ++ zfr (n - (k + 1)) := by
  obtain ⟨m, hm⟩ : ∃ m, n - k = m + 1 := ⟨n - k - 1, by omega⟩
  rw [hm, show n - (k + 1) = m by omega, List.set_append_right _ _ (by omega), hl, show k * 2 + 1 - k * 2 = 1 by omega, zfr]
  simp
section
variable {W W2 : World} {g n k : Nat} {fs : List Fr} {vs : List Value} {f : Fr}
theorem FrRow.cell1 (h : FrRow W g n k fs vs) (hk : k < n) : W.cell? ⟨g, k * 2 + 1, none⟩ = some (.slice none 0 0) := by
  rw [h.whole.cell]
  obtain ⟨m, hm⟩ : ∃ m, n - k = m + 1 := ⟨n - k - 1, by omega⟩
  have := h.len
  simp only [List.getElem?_toArray]
  rw [List.getElem?_append_right (by omega), hm, show k * 2 + 1 - vs.length = 1 by omega]
  rfl
theorem FrRow.on (h : FrRow W g n k fs vs) (hb : Below W.heap.size W W2) : FrRow W2 g n k fs vs :=
  ⟨h.whole.below hb h.whole.lt, h.len, fun i f hi hf => by obtain ⟨u, h0, h1, h2⟩ := h.each i f hi hf; exact ⟨u, h0, h1, h2.on hb⟩⟩
theorem FrRow.step1 (h0 : FrRow W g n k fs vs) (hb : Below W.heap.size W W2) (hf : fs[k]? = some f) (hk : k < n) (ht : f.t = 0) (hm : f.v.length ≤ maxLen) (t : TypeId) :
    FrRow ((W2.setCell ⟨g, k * 2 + 1, none⟩ (.slice (some ⟨W2.heap.size, 0, none⟩) f.v.length f.v.length)).alloc (.cells (f.v.map bv).toArray t)) g n (k + 1) fs (vs ++ [.int .u16 0, .slice (some ⟨W2.heap.size, 0, none⟩) f.v.length f.v.length]) := by
  have h := h0.on hb
  have hl := h.len
  have hc := h.cell1 hk
  have hsz : (W2.setCell ⟨g, k * 2 + 1, none⟩ (.slice (some ⟨W2.heap.size, 0, none⟩) f.v.length f.v.length)).heap.size = W2.heap.size := by simp [World.setCell]
  have hal := (Below.refl (W2.setCell ⟨g, k * 2 + 1, none⟩ (.slice (some ⟨W2.heap.size, 0, none⟩) f.v.length f.v.length)).heap.size (W2.setCell ⟨g, k * 2 + 1, none⟩ (.slice (some ⟨W2.heap.size, 0, none⟩) f.v.length f.v.length))).alloc (Nat.le_refl _) (.cells (f.v.map bv).toArray t)
  refine ⟨?_, by simp [hl]; omega, fun i f' hi hf' => ?_⟩
  · have h4 := (h.whole.set_ (k * 2 + 1) (.slice (some ⟨W2.heap.size, 0, none⟩) f.v.length f.v.length)).alloc (.cells (f.v.map bv).toArray t)
    rw [List.setIfInBounds_toArray, zfr_set1 n k hk vs hl] at h4
    exact h4
  · rcases Nat.lt_or_ge i k with hlt | hge
    · obtain ⟨u, h1, h2, h3⟩ := h.each i f' hlt hf'
      refine ⟨u, by rw [List.getElem?_append_left (by omega)]; exact h1, by rw [List.getElem?_append_left (by omega)]; exact h2, ?_⟩
      have h5 := h3.far hc (.slice (some ⟨W2.heap.size, 0, none⟩) f.v.length f.v.length)
      exact IsB.on (by rw [hsz]; exact h5) hal
    · obtain rfl : i = k := by omega
      rw [hf] at hf'
      cases hf'
      refine ⟨_, by rw [List.getElem?_append_right (by omega), hl, Nat.sub_self, ht]; rfl, by rw [List.getElem?_append_right (by omega), hl, show i * 2 + 1 - i * 2 = 1 by omega]; rfl, ?_⟩
      have h6 := Lies.newN (W2.setCell ⟨g, i * 2 + 1, none⟩ (.slice (some ⟨W2.heap.size, 0, none⟩) f.v.length f.v.length)) (f.v.map bv) t
      rw [hsz] at h6
      exact ⟨_, _, rfl, h6.more (by simp), Nat.le_refl _, hm⟩
theorem FrRow.frames (h : FrRow W g n n fs vs) (hn : fs.length = n) : Frames W W.heap.size (some ⟨g, 0, none⟩) vs fs := by
  have hw := h.whole
  rw [Nat.sub_self, zfr, List.append_nil] at hw
  exact ⟨hw.lies hw.lt, by rw [h.len, hn], fun i f hf => h.each i f (by have := (List.getElem?_eq_some_iff.1 hf).1; omega) hf⟩
end
theorem own_whole2 {w : World} {base e g n : Nat} {xs : List Value} (h : w.ownsRow base e 2 (.slice (some ⟨g, 0, none⟩) n n) n xs) : Whole w g e xs.toArray := by
  have h0 := h.1
  rcases h.2 with ⟨h1, _⟩ | ⟨g', cap, cur, h1, h2, h3, _, _, h6, h7⟩
  · simp at h1
  · simp only [Value.slice.injEq, Option.some.injEq, Addr.mk.injEq, and_true, true_and] at h1
    obtain ⟨rfl, rfl⟩ := h1
    rw [List.take_of_length_le (by simp; omega)] at h7
    subst h7
    exact h3
theorem made_zero (m : Nat) : madeCells #[.int .u8 0] m = ((List.replicate m (0 : UInt8)).map bv).toArray := by
  apply Array.toList_inj.1
  rw [toList_madeCells_one]
  simp
/-- frames as long as those of the nodes -/
def fsz (ns : List Nd) : List Fr := ns.map fun n => ⟨0, List.replicate n.vlen 0⟩
theorem fsz_at {ns : List Nd} {k : Nat} {n : Nd} (h : ns[k]? = some n) : (fsz ns)[k]? = some ⟨0, List.replicate n.vlen 0⟩ := by unfold fsz; rw [List.getElem?_map, h]; rfl
theorem fsz_frL (ns : List Nd) : (fsz ns).map frL = lens ns := by
  unfold fsz
  rw [lens_map, List.map_map]
  refine List.map_congr_left fun n _ => ?_
  simp [Function.comp, frL]

set_option maxRecDepth 100000 in
theorem size_step (ns : List Nd) (ih : ∀ n ∈ ns, ∀ (A : Option Addr) (c : Nat) (w : World), Nodes w w.heap.size A n.ks → n.ks.length ≤ 1000 → (∀ k ∈ n.ks, Fine k) →
      Calls Tryz.prog 151 #[.slice A n.ks.length c] w fun e w' => e = .returned (.int .i64 (sizes (lens n.ks) : Nat)) ∧ Below w.heap.size w w')
    (A : Option Addr) (c : Nat) (w : World) (h : Nodes w w.heap.size A ns) (hn : ns.length ≤ 1000) (hf : ∀ n ∈ ns, Fine n) :
    Calls Tryz.prog 151 #[.slice A ns.length c] w fun e w' => e = .returned (.int .i64 (sizes (lens ns) : Nat)) ∧ Below w.heap.size w w' := by
  obtain ⟨i0, hi, hz0, hz1, hz2⟩ := info_parts tfrinfo
  have HI := Lib.hid ih
  have HF := Lib.hid hf
  clear ih hf
  go_enter Tryz.func151, Tryz.ntmps151
  go_wp2_with (at_make; refine wpList_make_full _ rfl (.tmp 7) (.tmp 7) 253 rfl w.heap.size 255 i0 _ 2 Tryz.underlying253 hi hz0 hz1 .i64 .i64 _ _ ns.length rfl rfl rfl rfl (by rw [hz2]; omega) (by unfold maxLen; omega) (Nat.le_refl _) ?_; intro w1 hown hgrow)
  have hb1 : Below w.heap.size w w1 := (Below.refl _ w).grown hgrow (Nat.le_refl _) (by simp)
  have hR : FrRow w1 w.heap.size ns.length 0 (fsz ns) [] := ⟨by
    have := own_whole2 hown
    simp only [Value.cells, madeCells_fr] at this
    exact this, rfl, fun i f hi => by omega⟩
  clear hown hgrow
  go_loopw [11] (fun i wr => ∃ (k : Nat) (us : List Value), k ≤ ns.length ∧ i = .int .i64 k ∧ FrRow wr w.heap.size ns.length k (fsz ns) us ∧ Below w.heap.size w wr) (fun i _ => ns.length - (intOf i).toNat)
  case atStart => exact ⟨0, [], Nat.zero_le _, rfl, hR, hb1⟩
  case round =>
    obtain ⟨k, us, hk, rfl, hrw, hbel⟩ := hrel
    by_cases hlt : k < ns.length
    · obtain ⟨ad, A', c', K', k', n, rfl, hb, hn', hc0, hc1, hc2, hN⟩ := (h.bel hbel).at_ hlt
      have HN' := Lib.hid (fsz_at hn'.out)
      have hmem : n ∈ ns := List.mem_of_getElem? hn'.out
      have hfn := HF.out n hmem
      have hvl := hfn.vl
      have hve := n.vlen_eq
      have hS := fun W (hW : Below wr.heap.size wr W) => HI.out n hmem K' k' W ((hN.kids.bel (hW.mono hbel.size)).more (Nat.le_trans hbel.size hW.size)) hfn.kl hfn.kid
      have hmk : ∀ W : World, (Instr.makeSlice 48 (.int .i64 ((n.v.length : Int) + (sizes (lens n.ks) : Nat))) (.int .i64 ((n.v.length : Int) + (sizes (lens n.ks) : Nat)))).run Tryz.prog W = .ok (.slice (some ⟨W.heap.size, 0, none⟩) (n.v.length + sizes (lens n.ks)) (n.v.length + sizes (lens n.ks))) (W.alloc (.cells (madeCells #[.int .u8 0] (n.v.length + sizes (lens n.ks))) 5)) := fun W => by
        have := run_make_row' (P := Tryz.prog) 48 5 (.int .u8 0) 1 Tryz.underlying48 u8info rfl .i64 .i64 (n.v.length + sizes (lens n.ks)) (by omega) (by omega) W
        rwa [Int.natCast_add] at this
      have hql : sizes (lens n.ks) ≤ 800000 := by omega
      have hal : n.v.length ≤ 800000 := by omega
      have hwr : IntKind.i64.wrap ((n.v.length : Int) + (sizes (lens n.ks) : Nat)) = (n.v.length : Int) + (sizes (lens n.ks) : Nat) := by rw [IntKind.wrap_i64]; omega
      generalize hq : sizes (lens n.ks) = q at *
      generalize ha : n.v.length = a at *
      have HQ := Lib.hid hq
      have HA := Lib.hid ha
      have HVE := Lib.hid hve
      clear hq ha hve
      have hgw := hrw.whole.lt
      have hcell : wr.cell? ⟨w.heap.size, k * 2 + 1, none⟩ = some (.slice none 0 0) := hrw.cell1 hlt
      have hfr := hrw.whole.frozen (k * 2 + 1)
      have hne1 : w.heap.size ≠ wr.heap.size := by omega
      have hne2 : wr.heap.size ≠ w.heap.size := by omega
      go_wp2_with fail
      have b0 : Below wr.heap.size wr (wr.alloc (.cells #[hv n.t, .slice A' a c', .slice K' n.ks.length k'] 51)) := (Below.refl _ _).alloc (Nat.le_refl _) _
      go_region_held3 (fun W => W.cell? ⟨wr.heap.size, 0, none⟩ = some (hv n.t) ∧ W.cell? ⟨wr.heap.size, 1, none⟩ = some (.slice A' a c') ∧ W.cell? ⟨wr.heap.size, 2, none⟩ = some (.slice K' n.ks.length k')) (go_keep) (first
        | (go_at_call 151; refine (hS _ (by first | exact b0 | exact below_drew b0)).mono ?_; rintro e w2 ⟨rfl, b2⟩; have b2' : Below wr.heap.size wr w2 := (by first | exact b0.trans (b2.mono (by simp)) | exact (below_drew b0).trans (b2.mono (by simp))); have g0 : w2.cell? ⟨wr.heap.size, 0, none⟩ = some (hv n.t) := (b2.cell (p := ⟨wr.heap.size, 0, none⟩) (by simp)).trans (by simp); have g1 : w2.cell? ⟨wr.heap.size, 1, none⟩ = some (.slice A' a c') := (b2.cell (p := ⟨wr.heap.size, 1, none⟩) (by simp)).trans (by simp); have g2 : w2.cell? ⟨wr.heap.size, 2, none⟩ = some (.slice K' n.ks.length k') := (b2.cell (p := ⟨wr.heap.size, 2, none⟩) (by simp)).trans (by simp); have hsz2 : wr.heap.size + 1 ≤ w2.heap.size := (by have h9 := b2.size; simpa using h9); have d0 : w2.cell? ⟨w.heap.size, k * 2 + 1, none⟩ = some (.slice none 0 0) := (b2'.cell (p := ⟨w.heap.size, k * 2 + 1, none⟩) hgw).trans hcell; have d1 : w2.frozen? ⟨w.heap.size, k * 2 + 1, none⟩ = false := (b2'.frozen (p := ⟨w.heap.size, k * 2 + 1, none⟩) hgw).trans hfr; have hlt2 : w.heap.size < w2.heap.size := (by omega); have hlt3 : wr.heap.size < w2.heap.size := (by omega)))
      have HST : Hid (FrRow ((w2.setCell ⟨w.heap.size, k * 2 + 1, none⟩ (.slice (some ⟨w2.heap.size, 0, none⟩) (a + q) (a + q))).alloc (.cells (madeCells #[.int .u8 0] (a + q)) 5)) w.heap.size ns.length (k + 1) (fsz ns) (us ++ [.int .u16 0, .slice (some ⟨w2.heap.size, 0, none⟩) (a + q) (a + q)])) := by
        have h9 := hrw.step1 b2' HN'.out hlt rfl (by rw [List.length_replicate]; unfold maxLen; omega) 5
        simp only [List.length_replicate] at h9
        rw [HVE.out] at h9
        rw [made_zero]
        exact h9
      have HBW : Hid (Below w.heap.size w ((w2.setCell ⟨w.heap.size, k * 2 + 1, none⟩ (.slice (some ⟨w2.heap.size, 0, none⟩) (a + q) (a + q))).alloc (.cells (madeCells #[.int .u8 0] (a + q)) 5))) :=
        ((hbel.trans (b2'.mono hbel.size)).setCell (Nat.le_refl _) _).alloc (by simp [World.setCell]; omega) _
      generalize (w2.setCell ⟨w.heap.size, k * 2 + 1, none⟩ (.slice (some ⟨w2.heap.size, 0, none⟩) (a + q) (a + q))).alloc (.cells (madeCells #[.int .u8 0] (a + q)) 5) = W3 at *
      clear hrw
      go_wp2_with fail
      go_roundw
      case rel => exact ⟨k + 1, _, by omega, by go_num, HST.out, HBW.out⟩
      case measure => simp [intOf]; omega
    · obtain rfl : k = ns.length := by omega
      have hF := hrw.frames (by simp [fsz])
      have hT := tsize_any (some ⟨w.heap.size, 0, none⟩) ns.length us (fsz ns) wr hF (by simp [fsz]; omega) (fun i f hf => by
        unfold fsz at hf
        rw [List.getElem?_map] at hf
        obtain ⟨n, hn2, rfl⟩ := Option.map_eq_some_iff.1 hf
        have := (HF.out n (List.mem_of_getElem? hn2)).vl
        simp; omega)
      rw [fsz_frL, show (fsz ns).length = ns.length by simp [fsz]] at hT
      have HT := Lib.hid hT
      clear hT hF hrw
      go_wp2_with fail
      refine HT.out.mono ?_
      rintro e w2 ⟨rfl, b2⟩
      go_wp2_with fail
      go_ret
      exact ⟨rfl, hbel.trans (b2.mono hbel.size)⟩

/-- Size of whatever nodes -/
theorem nsize_any (ns : List Nd) : ∀ (A : Option Addr) (c : Nat) (w : World), Nodes w w.heap.size A ns → ns.length ≤ 1000 → (∀ n ∈ ns, Fine n) →
    Calls Tryz.prog 151 #[.slice A ns.length c] w fun e w' => e = .returned (.int .i64 (sizes (lens ns) : Nat)) ∧ Below w.heap.size w w' :=
  Nds.ind (P := fun ns => ∀ (A : Option Addr) (c : Nat) (w : World), Nodes w w.heap.size A ns → ns.length ≤ 1000 → (∀ n ∈ ns, Fine n) →
    Calls Tryz.prog 151 #[.slice A ns.length c] w fun e w' => e = .returned (.int .i64 (sizes (lens ns) : Nat)) ∧ Below w.heap.size w w') size_step ns
end Go.Proofs.YteknmgmdmjmnmaaGreatDoor


namespace Go.Proofs.YteknmgmdmjmnmaaGreatDoor
open Go.RowKit

/-- the bytes of the node fit in a frame, and so do those inside -/
inductive FitN : Nd → Prop
  | mk {n : Nd} : n.vlen ≤ 65531 → (∀ k ∈ n.ks, FitN k) → FitN n
theorem FitN.vl {n : Nd} (h : FitN n) : n.vlen ≤ 65531 := by cases h; assumption
theorem FitN.kid {n : Nd} (h : FitN n) : ∀ k ∈ n.ks, FitN k := by cases h; assumption
end Go.Proofs.YteknmgmdmjmnmaaGreatDoor



namespace Go.Proofs.YteknmgmdmjmnmaaGreatDoor
open Go.RowKit

def zeroF : Form := ⟨0, 0, ByteArray.empty, 0, 0, 0, 0⟩
/-- the form of a type; the zero form, if it is not known -/
def formOf (c : Int) (t : UInt16) : Form := (look (tab c) t).getD zeroF
theorem ofV_eq (r : Option Form) : ofV r = .tuple #[(r.getD zeroF).val, .bool r.isSome] := by cases r <;> rfl
theorem look_mem {L : List Form} {t : UInt16} {f : Form} (h : look L t = some f) : f ∈ L := List.mem_of_find?_eq_some h
def tameB (f : Form) : Bool := decide ((0 ≤ f.lo ∧ f.lo ≤ 16) ∧ (0 ≤ f.hi ∧ f.hi ≤ 65531) ∧ (1 ≤ f.un ∧ f.un ≤ 8))
theorem tame_of {f : Form} (h : tameB f = true) : Tame f := by
  unfold tameB at h
  obtain ⟨h1, h2, h3⟩ := of_decide_eq_true h
  exact ⟨h1, h2, h3⟩
theorem tame_tab {c : Int} {f : Form} (h : f ∈ tab c) : Tame f := by
  have hp : pT.all tameB = true := by decide
  have hc : cT.all tameB = true := by decide
  unfold tab at h
  split at h
  · exact tame_of (List.all_eq_true.1 hp f h)
  · split at h
    · exact tame_of (List.all_eq_true.1 hc f h)
    · cases h
theorem formOf_some {c : Int} {t : UInt16} {f : Form} (h : look (tab c) t = some f) : formOf c t = f := by unfold formOf; rw [h]; rfl

/-! ### hasInside -/
def addr1 (ks : List Nd) : Bool := match ks with | k :: _ => decide (k.t = 5) || decide (k.t = 6) | [] => false
def insB (ki : Int) (ks : List Nd) : Bool := decide ((ins ki).2.1 ≤ (ks.length : Int)) && decide ((ks.length : Int) ≤ (ins ki).2.2) && (ki != 4 || addr1 ks)
theorem ins_four {ki : Int} (h : ki = 4) : (ins ki).2.1 = 1 := by subst h; rfl
set_option maxRecDepth 100000 in
set_option maxHeartbeats 1000000 in
theorem hasInside_any (f : Form) (K : Option Addr) (k : Nat) (ks : List Nd) (w : World) (h : Nodes w w.heap.size K ks) (hn : ks.length ≤ 10000000) :
    Calls Tryz.prog 148 #[f.val, .slice K ks.length k] w fun e w' => e = .returned (.bool (insB f.ki ks)) ∧ Below w.heap.size w w' := by
  unfold Form.val
  have hI := inside_any f.ki
  have h4 := fun h => ins_four (ki := f.ki) h
  have H1 : Hid (∀ b : Bool, b = (decide ((ins f.ki).2.1 ≤ (ks.length : Int)) && decide ((ks.length : Int) ≤ (ins f.ki).2.2) && (f.ki != 4 || addr1 ks)) → insB f.ki ks = b) := fun b hb => hb.symm
  generalize (ins f.ki).1 = c0 at *
  generalize (ins f.ki).2.1 = lo at *
  generalize (ins f.ki).2.2 = hi at *
  by_cases c1 : (ks.length : Int) < lo
  · have R := Lib.hid (H1.out false (by rw [decide_eq_false (by omega)]; rfl))
    clear h4 H1
    go_enter Tryz.func148, Tryz.ntmps148
    go_wp2_with fail
    refine (hI _).mono ?_
    rintro e w1 ⟨rfl, rfl⟩
    go_wp2_with fail
    go_ret
    exact ⟨ret_bool R.out.symm, (Below.refl _ _).alloc (Nat.le_refl _) _⟩
  have c1' : lo ≤ (ks.length : Int) := by omega
  by_cases c2 : hi < (ks.length : Int)
  · have R := Lib.hid (H1.out false (by rw [decide_eq_false (show ¬ (ks.length : Int) ≤ hi by omega)]; simp))
    clear h4 H1
    go_enter Tryz.func148, Tryz.ntmps148
    go_wp2_with fail
    refine (hI _).mono ?_
    rintro e w1 ⟨rfl, rfl⟩
    go_wp2_with fail
    go_ret
    exact ⟨ret_bool R.out.symm, (Below.refl _ _).alloc (Nat.le_refl _) _⟩
  have c2' : (ks.length : Int) ≤ hi := by omega
  by_cases c3 : f.ki = 4
  · have hlo := h4 c3
    have hk0 : 0 < ks.length := by omega
    obtain ⟨ad, A', c', K', k', n, rfl, hb, hn', hc0, hc1, hc2, hN⟩ := h.at_ hk0
    have HA : Hid (addr1 ks = (decide (n.t = 5) || decide (n.t = 6))) := by
      match ks, hn'.out with
      | x :: ks, hx => simp only [List.getElem?_cons_zero, Option.some.injEq] at hx; subst hx; rfl
    have R := Lib.hid (H1.out (addr1 ks) (by rw [decide_eq_true c1', decide_eq_true c2', c3]; simp))
    have hki : (f.ki != 4) = false := by rw [c3]; rfl
    have hz : ad.add (0 * 3) = ad := by simp [Addr.add]
    rw [hz] at hc0
    have HC3 := Lib.hid c3
    clear h4 H1 hc1 hc2 hlo c3
    by_cases t5 : n.t = 5
    · have hq : ((n.t.toNat : Int) == 5) = true := by rw [t5]; rfl
      have R2 := Lib.hid (show insB f.ki ks = true by rw [R.out, HA.out, decide_eq_true t5]; rfl)
      clear t5 R HA
      go_enter Tryz.func148, Tryz.ntmps148
      go_wp2_with fail
      refine (hI _).mono ?_
      rintro e w1 ⟨rfl, rfl⟩
      go_wp2_with fail
      go_ret
      exact ⟨ret_bool R2.out.symm, (Below.refl _ _).alloc (Nat.le_refl _) _⟩
    · have hq : ((n.t.toNat : Int) == 5) = false := by
        rw [beq_eq_false_iff_ne]
        intro e
        exact t5 (UInt16.toNat_inj.1 (by show n.t.toNat = 5; omega))
      by_cases t6 : n.t = 6
      · have hq6 : ((n.t.toNat : Int) == 6) = true := by rw [t6]; rfl
        have R2 := Lib.hid (show insB f.ki ks = true by rw [R.out, HA.out, decide_eq_true t6]; simp)
        clear t5 t6 R HA
        go_enter Tryz.func148, Tryz.ntmps148
        go_wp2_with fail
        refine (hI _).mono ?_
        rintro e w1 ⟨rfl, rfl⟩
        go_wp2_with fail
        go_ret
        exact ⟨ret_bool R2.out.symm, (Below.refl _ _).alloc (Nat.le_refl _) _⟩
      · have hq6 : ((n.t.toNat : Int) == 6) = false := by
          rw [beq_eq_false_iff_ne]
          intro e
          exact t6 (UInt16.toNat_inj.1 (by show n.t.toNat = 6; omega))
        have R2 := Lib.hid (show insB f.ki ks = false by rw [R.out, HA.out, decide_eq_false t6, decide_eq_false t5]; rfl)
        clear t5 t6 R HA
        go_enter Tryz.func148, Tryz.ntmps148
        go_wp2_with fail
        refine (hI _).mono ?_
        rintro e w1 ⟨rfl, rfl⟩
        go_wp2_with fail
        go_ret
        exact ⟨ret_bool R2.out.symm, (Below.refl _ _).alloc (Nat.le_refl _) _⟩
  · have hki : (f.ki != 4) = true := by simpa using c3
    have R := Lib.hid (H1.out true (by rw [decide_eq_true c1', decide_eq_true c2', hki]; rfl))
    clear h4 H1
    go_enter Tryz.func148, Tryz.ntmps148
    go_wp2_with fail
    refine (hI _).mono ?_
    rintro e w1 ⟨rfl, rfl⟩
    go_wp2_with fail
    go_ret
    exact ⟨ret_bool R.out.symm, (Below.refl _ _).alloc (Nat.le_refl _) _⟩

/-! ### counted -/
def cntB (c : Int) (t : UInt16) (v : List UInt8) : Bool := !(decide (c = 2) && decide (t = 2)) || (decide (4 ≤ v.length) && decide (numOf (v.take 4) = (v.length - 4) / 2))
theorem left4 {w : World} {base g c : Nat} {A : Option Addr} {bs : List UInt8} (h : Rdr w base g A c bs (0 + 4)) (m : Nat) (hm : bs.length = m + 4) :
    Calls Tryz.prog 191 #[.pointer (some ⟨g, 0, none⟩)] w fun e w' => e = .returned (.int .i64 (m : Int)) ∧ ∃ q, w' = w.drewN q := by
  have := left_any h
  rwa [show (bs.length : Int) - ((0 + 4 : Nat) : Int) = (m : Int) by omega] at this
set_option maxRecDepth 100000 in
theorem counted_any (c : Int) (t : UInt16) (A : Option Addr) (cc : Nat) (v : List UInt8) (w : World) (h : Lies w w.heap.size A (v.map bv)) (h1 : v.length ≤ cc) (h2 : cc ≤ maxLen) (hn : v.length ≤ 10000000) :
    Calls Tryz.prog 149 #[.int .i64 c, hv t, .slice A v.length cc] w fun e w' => e = .returned (.bool (cntB c t v)) ∧ Below w.heap.size w w' := by
  by_cases hc : c = 2
  · subst hc
    by_cases ht : t = 2
    · subst ht
      have hN := new_any A cc v w h h1 h2 (by omega)
      by_cases h4 : 4 ≤ v.length
      · obtain ⟨m, hm⟩ : ∃ m, v.length = m + 4 := ⟨v.length - 4, by omega⟩
        have R : Hid (cntB 2 2 v = ((numOf ((v.drop 0).take 4) : Int) == (m : Int) / 2)) := by
          unfold Hid cntB
          have e1 : (v.length - 4) / 2 = m / 2 := by rw [hm]; rfl
          have e2 : ((numOf (v.take 4) : Int) == (m : Int) / 2) = decide (numOf (v.take 4) = m / 2) := by
            by_cases hq : numOf (v.take 4) = m / 2
            · rw [decide_eq_true hq, hq]; simp
            · rw [decide_eq_false hq, beq_eq_false_iff_ne]; omega
          rw [e1, List.drop_zero, e2]
          simp [h4]
        have hm2 : m / 2 ≤ 10000000 := by omega
        have hm3 : (0 : Int) ≤ (m : Int) := by omega
        have hm4 : m ≤ 10000000 := by omega
        have HM := Lib.hid hm
        clear hm
        go_enter Tryz.func149, Tryz.ntmps149
        go_wp2_with fail
        refine hN.mono ?_
        rintro e w1 ⟨g, A2, c2, rfl, hr, b1⟩
        go_wp2_with fail
        refine (cnumber_yes hr 4 rfl (by have := HM.out; omega)).mono ?_
        rintro e w2 ⟨rfl, hr2, hg2⟩
        generalize numOf ((v.drop 0).take 4) = x at *
        go_wp2_with fail
        refine (left4 hr2 m HM.out).mono ?_
        rintro e w3 ⟨rfl, q3, rfl⟩
        go_wp2_with fail
        go_ret
        have hb2 : Below w.heap.size w w2 := b1.grown hg2 b1.size (fun k e => by cases e; exact hr.base_le)
        refine ⟨ret_bool ?_, below_drewN hb2 _⟩
        rw [R.out]
      · have R := Lib.hid (show cntB 2 2 v = false by unfold cntB; simp [h4])
        have HM := Lib.hid h4
        clear h4
        go_enter Tryz.func149, Tryz.ntmps149
        go_wp2_with fail
        refine hN.mono ?_
        rintro e w1 ⟨g, A2, c2, rfl, hr, b1⟩
        go_wp2_with fail
        refine (cnumber_no hr 4 (by rintro ⟨_, h9⟩; have := HM.out; omega)).mono ?_
        rintro e w2 ⟨rfl, q2, rfl⟩
        go_wp2_with fail
        go_ret
        exact ⟨ret_bool R.out.symm, below_drewN b1 _⟩
    · have hq : ((t.toNat : Int) != 2) = true := by
        rw [bne_iff_ne]
        intro e
        exact ht (UInt16.toNat_inj.1 (by show t.toNat = 2; omega))
      have R := Lib.hid (show cntB 2 t v = true by unfold cntB; simp [ht])
      clear ht
      go_enter Tryz.func149, Tryz.ntmps149
      go_wp2_with fail
      go_ret
      exact ⟨ret_bool R.out.symm, Below.refl _ _⟩
  · have hq : (c != 2) = true := by simpa using hc
    have R := Lib.hid (show cntB c t v = true by unfold cntB; simp [hc])
    clear hc
    go_enter Tryz.func149, Tryz.ntmps149
    go_wp2_with fail
    go_ret
    exact ⟨ret_bool R.out.symm, Below.refl _ _⟩
end Go.Proofs.YteknmgmdmjmnmaaGreatDoor




namespace Go.Proofs.YteknmgmdmjmnmaaGreatDoor
open Go.RowKit

/-- the first number that is not 0; 0, if there is none -/
def fst0 (l : List Nat) : Nat := (l.find? (· ≠ 0)).getD 0
theorem fst0_at {l : List Nat} {k x : Nat} (h : l[k]? = some x) (hx : x ≠ 0) (hp : ∀ (j y : Nat), j < k → l[j]? = some y → y = 0) : fst0 l = x := by
  unfold fst0
  have : l.find? (· ≠ 0) = some x := by
    rw [List.find?_eq_some_iff_getElem]
    obtain ⟨hk, rfl⟩ := List.getElem?_eq_some_iff.1 h
    refine ⟨by simpa using hx, k, hk, rfl, fun j hj => ?_⟩
    have := hp j _ hj (List.getElem?_eq_getElem (by omega))
    simpa using this
  rw [this]
  rfl
theorem fst0_none {l : List Nat} (hp : ∀ (j y : Nat), j < l.length → l[j]? = some y → y = 0) : fst0 l = 0 := by
  unfold fst0
  have : l.find? (· ≠ 0) = none := by
    rw [List.find?_eq_none]
    intro x hx
    obtain ⟨j, hj, rfl⟩ := List.getElem_of_mem hx
    have := hp j _ hj (List.getElem?_eq_getElem hj)
    simpa using this
  rw [this]
  rfl
/-- does the number of bytes fit, if the type is known? -/
def fitK (c : Int) (t : UInt16) (n : Nat) : Bool := match look (tab c) t with | some f => fitsB f (n : Int) | none => true
/-- the code of a node's error at a depth (f: how much deeper it may be), 0 if it is right -/
def chk : Nat → Int → Nd → Nat
  | 0, _, _ => 9
  | f + 1, c, n =>
    if fitK c n.t n.v.length = false ∨ insB (formOf c n.t).ki n.ks = false then 7
    else if cntB c n.t n.v = false then 8
    else if fst0 (n.ks.map (chk f (ins (formOf c n.t).ki).1)) ≠ 0 then fst0 (n.ks.map (chk f (ins (formOf c n.t).ki).1))
    else if 65531 < n.vlen then 4 else 0
def codeE (c : Nat) : Value := if c = 0 then .nilIface else codeV (c : Int)

def CheckOK (f : Nat) : Prop := ∀ (c : Int) (n : Nd) (d : Nat) (A : Option Addr) (cc : Nat) (K : Option Addr) (kk : Nat) (w : World), d + f = 5 → Node w w.heap.size A cc K kk n → Fine n →
  Calls Tryz.prog 105 #[.int .i64 c, ndV n A cc K kk, .int .i64 (d : Int)] w fun e w' => e = .returned (codeE (chk f c n)) ∧ Below w.heap.size w w'

set_option maxRecDepth 100000 in
theorem check_zero : CheckOK 0 := by
  intro c n d A cc K kk w hd hN hf
  obtain rfl : d = 5 := by omega
  have hO := of_any c n.t
  simp only [ofV_eq] at hO
  have HR : Hid (∀ u, u = codeV 9 → Ending.returned u = .returned (codeE (chk 0 c n))) := fun u hu => by rw [hu]; rfl
  generalize (look (tab c) n.t).getD zeroF = F at *
  generalize (look (tab c) n.t).isSome = kn at *
  unfold Form.val at hO
  unfold ndV
  go_enter Tryz.func105, Tryz.ntmps105
  go_wp2_with fail
  refine (hO _).mono ?_
  rintro e w1 ⟨rfl, b1⟩
  go_wp2_with (refine wpList_new_form rfl 202 _ _ rfl w1 _ _ rfl rfl rfl (by kernel_rfl) rfl ?_)
  go_ret
  exact ⟨HR.out _ rfl, (((Below.refl _ w).alloc (Nat.le_refl _) _).trans (b1.mono (by simp))).alloc (by have := b1.size; simp at this; omega) _⟩

theorem sizes_one (x : Nat) : sizes [x] = x := by simp [sizes, up, gap]
/-- the cells of the form's variable -/
theorem form_cells {w : World} {g : Nat} {F : Form} (h : Whole w g 202 #[.int .i64 F.cl, hv F.ty, .string F.nm, .int .i64 F.lo, .int .i64 F.hi, .int .i64 F.un, .int .i64 F.ki]) :
    Hid (∀ (j : Nat) (u : Value), F.cells[j]? = some u → w.cell? ((⟨g, 0, none⟩ : Addr).add j) = some u) := fun j u hu => by
  rw [add_row, h.cell]
  simpa [Form.cells] using hu
/-- the two variables of a check: the node and its form -/
structure Box2 (W : World) (g0 g1 : Nat) (n : Nd) (A : Option Addr) (cc : Nat) (K : Option Addr) (kk : Nat) (F : Form) : Prop where
  nd : Whole W g0 51 #[hv n.t, .slice A n.v.length cc, .slice K n.ks.length kk]
  fo : Whole W g1 202 #[.int .i64 F.cl, hv F.ty, .string F.nm, .int .i64 F.lo, .int .i64 F.hi, .int .i64 F.un, .int .i64 F.ki]
section
variable {W W' : World} {g0 g1 : Nat} {n : Nd} {A : Option Addr} {cc : Nat} {K : Option Addr} {kk : Nat} {F : Form}
theorem Box2.below (h : Box2 W g0 g1 n A cc K kk F) (hb : Below W.heap.size W W') : Box2 W' g0 g1 n A cc K kk F := ⟨h.nd.below hb h.nd.lt, h.fo.below hb h.fo.lt⟩
theorem Box2.c0 (h : Box2 W g0 g1 n A cc K kk F) : W.cell? ⟨g0, 0, none⟩ = some (hv n.t) := by rw [h.nd.cell]; rfl
theorem Box2.c1 (h : Box2 W g0 g1 n A cc K kk F) : W.cell? ⟨g0, 1, none⟩ = some (.slice A n.v.length cc) := by rw [h.nd.cell]; rfl
theorem Box2.c2 (h : Box2 W g0 g1 n A cc K kk F) : W.cell? ⟨g0, 2, none⟩ = some (.slice K n.ks.length kk) := by rw [h.nd.cell]; rfl
theorem Box2.k0 (h : Box2 W g0 g1 n A cc K kk F) : W.cell? ⟨g1, 0, none⟩ = some (.int .i64 F.cl) := by rw [h.fo.cell]; rfl
theorem Box2.k1 (h : Box2 W g0 g1 n A cc K kk F) : W.cell? ⟨g1, 1, none⟩ = some (hv F.ty) := by rw [h.fo.cell]; rfl
theorem Box2.k2 (h : Box2 W g0 g1 n A cc K kk F) : W.cell? ⟨g1, 2, none⟩ = some (.string F.nm) := by rw [h.fo.cell]; rfl
theorem Box2.k4 (h : Box2 W g0 g1 n A cc K kk F) : W.cell? ⟨g1, 4, none⟩ = some (.int .i64 F.hi) := by rw [h.fo.cell]; rfl
theorem Box2.k5 (h : Box2 W g0 g1 n A cc K kk F) : W.cell? ⟨g1, 5, none⟩ = some (.int .i64 F.un) := by rw [h.fo.cell]; rfl
theorem Box2.k3 (h : Box2 W g0 g1 n A cc K kk F) : W.cell? ⟨g1, 3, none⟩ = some (.int .i64 F.lo) := by rw [h.fo.cell]; rfl
theorem Box2.k6 (h : Box2 W g0 g1 n A cc K kk F) : W.cell? ⟨g1, 6, none⟩ = some (.int .i64 F.ki) := by rw [h.fo.cell]; rfl
theorem Box2.form (h : Box2 W g0 g1 n A cc K kk F) : Hid (∀ (j : Nat) (u : Value), F.cells[j]? = some u → W.cell? ((⟨g1, 0, none⟩ : Addr).add j) = some u) := form_cells h.fo
end

set_option maxRecDepth 100000 in
set_option maxHeartbeats 4000000 in
theorem check_succ (f : Nat) (ih : CheckOK f) : CheckOK (f + 1) := by
  intro c n d A cc K kk w hd hN hf
  have hd4 : (d : Int) ≤ 4 := by omega
  have hvl := hf.vl
  have hve := n.vlen_eq
  have hkl := hf.kl
  have hO := of_any c n.t
  simp only [ofV_eq] at hO
  have hNb := fun W (hW : Below w.heap.size w W) => hN.on (w' := W) hW
  have hIn := inside_any (formOf c n.t).ki
  have hH := fun W (hW : Below w.heap.size w W) => hasInside_any (formOf c n.t) K kk n.ks W (hNb W hW).kids (by omega)
  have hC := fun W (hW : Below w.heap.size w W) => counted_any c n.t A cc n.v W (hNb W hW).data hN.dc hN.dm (by omega)
  have hFit : ∀ F, look (tab c) n.t = some F → ∀ W, Calls Tryz.prog 147 #[F.val, .int .i64 (n.v.length : Int)] W fun e w' => e = .returned (.bool (fitsB F (n.v.length : Int))) ∧ Below W.heap.size W w' := fun F hF W => fits_any F (tame_tab (look_mem hF)) _ W
  have HCH : Hid (chk (f + 1) c n = if fitK c n.t n.v.length = false ∨ insB (formOf c n.t).ki n.ks = false then 7
    else if cntB c n.t n.v = false then 8
    else if fst0 (n.ks.map (chk f (ins (formOf c n.t).ki).1)) ≠ 0 then fst0 (n.ks.map (chk f (ins (formOf c n.t).ki).1))
    else if 65531 < n.vlen then 4 else 0) := rfl
  have HK := Lib.hid ih
  have HF := Lib.hid hf
  have HV := Lib.hid hve
  have HNb := Lib.hid hNb
  have HNK := Lib.hid hN.kids
  have HN := Lib.hid hN
  clear ih hf hve hN hNb
  generalize hcode : chk (f + 1) c n = code at *
  clear hcode
  rw [show (look (tab c) n.t).getD zeroF = formOf c n.t from rfl] at hO
  have b0 : Below w.heap.size w (w.alloc (.cells #[hv n.t, .slice A n.v.length cc, .slice K n.ks.length kk] 51)) := (Below.refl _ _).alloc (Nat.le_refl _) _
  have hW0 := Whole.new w 51 #[hv n.t, .slice A n.v.length cc, .slice K n.ks.length kk]
  cases hl : look (tab c) n.t with
  | none =>
    have hfk : fitK c n.t n.v.length = true := by unfold fitK; rw [hl]
    rw [hl] at hO
    simp only [Option.isSome_none] at hO
    clear hFit hl
    generalize formOf c n.t = F at *
    unfold Form.val at hO
    unfold ndV
    cases hib : insB F.ki n.ks with
    | false =>
      rw [hib] at hH
      have hc7 : code = 7 := by rw [HCH.out, if_pos (.inr hib)]
      have HR : Hid (Ending.returned (codeV 7) = .returned (codeE code)) := by rw [hc7]; rfl
      clear hfk hib hc7 HCH
      unfold Form.val at hH
      go_enter Tryz.func105, Tryz.ntmps105
      go_wp2_with fail
      refine (hO _).mono ?_
      rintro e w1 ⟨rfl, b1⟩
      have hb1 := b0.trans (b1.mono (by simp))
      have hB1 : Box2 (w1.alloc (.cells #[.int .i64 F.cl, hv F.ty, .string F.nm, .int .i64 F.lo, .int .i64 F.hi, .int .i64 F.un, .int .i64 F.ki] 202)) w.heap.size w1.heap.size n A cc K kk F := ⟨(hW0.below b1 (by simp)).alloc _, Whole.new _ _ _⟩
      have HG1 := hB1.form
      have z1 := hB1.c1
      have z2 := hB1.c2
      have b1' := hb1.alloc hb1.size (.cells #[.int .i64 F.cl, hv F.ty, .string F.nm, .int .i64 F.lo, .int .i64 F.hi, .int .i64 F.un, .int .i64 F.ki] 202)
      go_wp2_with (first | (refine wpList_new_form rfl 202 _ _ rfl w1 _ _ rfl rfl rfl (by kernel_rfl) rfl ?_) | (refine wpList_load_form rfl 202 _ rfl ⟨w1.heap.size, 0, none⟩ rfl F HG1 _ Tryz.underlying202 rfl (by kernel_rfl) ?_))
      have hB2 := hB1
      have hb2 := b1'
      refine (hH _ hb2).mono ?_
      rintro e w3 ⟨rfl, b3⟩
      have hB3 := hB2.below b3
      have hb3 := hb2.trans (b3.mono hb2.size)
      have x0 := hB3.c0
      have x1 := hB3.c1
      go_wp2_with fail
      go_ret
      exact ⟨HR.out, hb3⟩
    | true =>
      rw [hib] at hH
      cases hcb : cntB c n.t n.v with
      | false =>
        rw [hcb] at hC
        have hc8 : code = 8 := by rw [HCH.out, if_neg (by rw [hfk, hib]; simp), if_pos hcb]
        have HR : Hid (Ending.returned (codeV 8) = .returned (codeE code)) := by rw [hc8]; rfl
        clear hfk hib hcb hc8 HCH
        unfold Form.val at hH
        go_enter Tryz.func105, Tryz.ntmps105
        go_wp2_with fail
        refine (hO _).mono ?_
        rintro e w1 ⟨rfl, b1⟩
        have hb1 := b0.trans (b1.mono (by simp))
        have hB1 : Box2 (w1.alloc (.cells #[.int .i64 F.cl, hv F.ty, .string F.nm, .int .i64 F.lo, .int .i64 F.hi, .int .i64 F.un, .int .i64 F.ki] 202)) w.heap.size w1.heap.size n A cc K kk F := ⟨(hW0.below b1 (by simp)).alloc _, Whole.new _ _ _⟩
        have HG1 := hB1.form
        have z1 := hB1.c1
        have z2 := hB1.c2
        have b1' := hb1.alloc hb1.size (.cells #[.int .i64 F.cl, hv F.ty, .string F.nm, .int .i64 F.lo, .int .i64 F.hi, .int .i64 F.un, .int .i64 F.ki] 202)
        go_wp2_with (first | (refine wpList_new_form rfl 202 _ _ rfl w1 _ _ rfl rfl rfl (by kernel_rfl) rfl ?_) | (refine wpList_load_form rfl 202 _ rfl ⟨w1.heap.size, 0, none⟩ rfl F HG1 _ Tryz.underlying202 rfl (by kernel_rfl) ?_))
        have hB2 := hB1
        have hb2 := b1'
        refine (hH _ hb2).mono ?_
        rintro e w3 ⟨rfl, b3⟩
        have hB3 := hB2.below b3
        have hb3 := hb2.trans (b3.mono hb2.size)
        have x0 := hB3.c0
        have x1 := hB3.c1
        go_wp2_with fail
        refine (hC _ hb3).mono ?_
        rintro e w4 ⟨rfl, b4⟩
        go_wp2_with fail
        go_ret
        exact ⟨HR.out, hb3.trans (b4.mono hb3.size)⟩
      | true =>
        rw [hcb] at hC
        have hcc := HCH.out
        rw [if_neg (by rw [hfk, hib]; simp), if_neg (by rw [hcb]; simp)] at hcc
        have HCC := Lib.hid hcc
        clear hfk hib hcb HCH hcc
        unfold Form.val at hH
        go_enter Tryz.func105, Tryz.ntmps105
        go_wp2_with fail
        refine (hO _).mono ?_
        rintro e w1 ⟨rfl, b1⟩
        have hb1 := b0.trans (b1.mono (by simp))
        have hB1 : Box2 (w1.alloc (.cells #[.int .i64 F.cl, hv F.ty, .string F.nm, .int .i64 F.lo, .int .i64 F.hi, .int .i64 F.un, .int .i64 F.ki] 202)) w.heap.size w1.heap.size n A cc K kk F := ⟨(hW0.below b1 (by simp)).alloc _, Whole.new _ _ _⟩
        have HG1 := hB1.form
        have z1 := hB1.c1
        have z2 := hB1.c2
        have b1' := hb1.alloc hb1.size (.cells #[.int .i64 F.cl, hv F.ty, .string F.nm, .int .i64 F.lo, .int .i64 F.hi, .int .i64 F.un, .int .i64 F.ki] 202)
        go_wp2_with (first | (refine wpList_new_form rfl 202 _ _ rfl w1 _ _ rfl rfl rfl (by kernel_rfl) rfl ?_) | (refine wpList_load_form rfl 202 _ rfl ⟨w1.heap.size, 0, none⟩ rfl F HG1 _ Tryz.underlying202 rfl (by kernel_rfl) ?_))
        have hB2 := hB1
        have hb2 := b1'
        refine (hH _ hb2).mono ?_
        rintro e w3 ⟨rfl, b3⟩
        have hB3 := hB2.below b3
        have hb3 := hb2.trans (b3.mono hb2.size)
        have x0 := hB3.c0
        have x1 := hB3.c1
        go_wp2_with fail
        refine (hC _ hb3).mono ?_
        rintro e w4 ⟨rfl, b4⟩
        have hB4 := hB3.below b4
        have hb4 := hb3.trans (b4.mono hb3.size)
        have v2 := hB4.c2
        have v6 := hB4.k6
        generalize (ins F.ki).1 = c1 at *
        go_wp2_with fail
        refine (hIn _).mono ?_
        rintro e w5 ⟨rfl, rfl⟩
        clear x0 x1 z1 z2
        go_wp2_with fail
        go_loopw [63] (fun i wr => ∃ k : Nat, k ≤ n.ks.length ∧ i = .int .i64 k ∧ Hid (∀ (j y : Nat), j < k → (n.ks.map (chk f c1))[j]? = some y → y = 0) ∧ Below w4.heap.size w4 wr) (fun i _ => n.ks.length - (intOf i).toNat)
        case atStart => exact ⟨0, Nat.zero_le _, rfl, fun j y hj _ => by omega, Below.refl _ _⟩
        case round =>
          obtain ⟨k, hk, rfl, hz, hbel⟩ := hrel
          have hbw := hb4.trans (hbel.mono hb4.size)
          have hBr := hB4.below hbel
          by_cases hlt : k < n.ks.length
          · obtain ⟨ad, A', c', K', k', m, rfl, hb, hm, hc0, hc1, hc2, hM⟩ := (HNK.out.bel hbw).at_ hlt
            have hb0' : Below wr.heap.size wr (wr.alloc (.cells #[hv m.t, .slice A' m.v.length c', .slice K' m.ks.length k'] 51)) := (Below.refl _ _).alloc (Nat.le_refl _) _
            have hS := HK.out c1 m (d + 1) A' c' K' k' _ (by omega) ((hM.more hbw.size).on hb0') (HF.out.kid m (List.mem_of_getElem? hm.out))
            have HX : Hid ((n.ks.map (chk f c1))[k]? = some (chk f c1 m)) := by rw [Hid, List.getElem?_map, hm.out]; rfl
            rw [Int.natCast_add] at hS
            generalize chk f c1 m = x at *
            unfold ndV at hS
            have hd1 : (d : Int) + 1 ≤ 5 := by omega
            by_cases hx : x = 0
            · have HZ : Hid (∀ (j y : Nat), j < k + 1 → (n.ks.map (chk f c1))[j]? = some y → y = 0) := fun j y hj hy => by
                by_cases hjk : j = k
                · subst hjk
                  rw [HX.out] at hy
                  cases hy
                  exact hx
                · exact hz.out j y (by omega) hy
              subst hx
              have hS' := hS.mono (R' := fun e w' => e = .returned .nilIface ∧ Below (wr.alloc (.cells #[hv m.t, .slice A' m.v.length c', .slice K' m.ks.length k'] 51)).heap.size (wr.alloc (.cells #[hv m.t, .slice A' m.v.length c', .slice K' m.ks.length k'] 51)) w') (fun e w' h => h)
              clear hS
              go_wp2_with fail
              refine hS'.mono ?_
              rintro e w6 ⟨rfl, b6⟩
              go_wp2_with fail
              go_roundw
              case rel => exact ⟨k + 1, by omega, by go_num, HZ, hbel.trans ((hb0'.trans (b6.mono (by simp))).mono hbel.size)⟩
              case measure => simp [intOf]; omega
            · have hxc : code = x := by
                rw [HCC.out, fst0_at HX.out hx hz.out, if_pos hx]
              have HR := Lib.hid (show Ending.returned (codeV x) = .returned (codeE code) by rw [hxc]; unfold codeE; rw [if_neg hx])
              have hS' := hS.mono (R' := fun e w' => e = .returned (codeV x) ∧ Below (wr.alloc (.cells #[hv m.t, .slice A' m.v.length c', .slice K' m.ks.length k'] 51)).heap.size (wr.alloc (.cells #[hv m.t, .slice A' m.v.length c', .slice K' m.ks.length k'] 51)) w') (fun e w' h => by unfold codeE at h; rwa [if_neg hx] at h)
              clear hS hx hxc
              unfold codeV at hS' HR
              go_wp2_with fail
              refine hS'.mono ?_
              rintro e w6 ⟨rfl, b6⟩
              go_wp2_with fail
              go_ret
              exact ⟨HR.out, hbw.trans ((hb0'.trans (b6.mono (by simp))).mono hbw.size)⟩
          · obtain rfl : k = n.ks.length := by omega
            have hcc := HCC.out
            rw [fst0_none (by intro j y hj hy; exact hz.out j y (by simpa using hj) hy), if_neg (by simp)] at hcc
            have hb0' : Below wr.heap.size wr (wr.alloc (.cells #[hv n.t, .slice A n.v.length cc, .slice K n.ks.length kk] 51)) := (Below.refl _ _).alloc (Nat.le_refl _) _
            have hL1 := ((HNb.out _ hbw).list1 51)
            have hS := nsize_any [n] (some ⟨wr.heap.size, 0, none⟩) 1 (wr.alloc (.cells #[hv n.t, .slice A n.v.length cc, .slice K n.ks.length kk] 51)) (hL1.more (by simp)) (by simp) (by intro m hm; rw [List.mem_singleton.1 hm]; exact HF.out)
            have e1 : sizes (lens [n]) = 4 + n.vlen := by rw [lens, lens, sizes_one]
            rw [e1] at hS
            have hS' := hS.mono (R' := fun e w' => e = .returned (.int .i64 ((4 + n.vlen : Nat) : Int)) ∧ Below wr.heap.size wr w') (fun e w' h => ⟨h.1, hb0'.trans (h.2.mono (by simp))⟩)
            have r0 := hBr.c0
            have r1 := hBr.c1
            have r2 := hBr.c2
            simp only [List.length_singleton] at hS'
            clear hS e1 v2 v6 hL1
            by_cases hv4 : 65531 < n.vlen
            · rw [if_pos hv4] at hcc
              have HR : Hid (Ending.returned (codeV 4) = .returned (codeE code)) := by rw [hcc]; rfl
              have hi4 : (65535 : Int) < ((4 + n.vlen : Nat) : Int) := by omega
              clear hcc
              generalize 4 + n.vlen = y at *
              go_wp2_with fail
              refine hS'.mono ?_
              rintro e w6 ⟨rfl, b6⟩
              go_wp2_with fail
              go_ret
              exact ⟨HR.out, hbw.trans (b6.mono hbw.size)⟩
            · rw [if_neg hv4] at hcc
              have HR : Hid (Ending.returned .nilIface = .returned (codeE code)) := by rw [hcc]; rfl
              have hi4 : ¬ (65535 : Int) < ((4 + n.vlen : Nat) : Int) := by omega
              clear hcc
              generalize 4 + n.vlen = y at *
              go_wp2_with fail
              refine hS'.mono ?_
              rintro e w6 ⟨rfl, b6⟩
              go_wp2_with fail
              go_ret
              exact ⟨HR.out, hbw.trans (b6.mono hbw.size)⟩
  | some F =>
    have hF0 := formOf_some hl
    rw [hF0] at hO hIn hH HCH
    have hfk : fitK c n.t n.v.length = fitsB F (n.v.length : Int) := by unfold fitK; rw [hl]
    rw [hl] at hO
    simp only [Option.isSome_some] at hO
    have hFt := hFit F hl
    clear hFit hl hF0
    unfold Form.val at hO hFt
    unfold ndV
    cases hfb : fitsB F (n.v.length : Int) with
    | false =>
      rw [hfb] at hfk hFt
      have hc7 : code = 7 := by rw [HCH.out, if_pos (.inl hfk)]
      have HR : Hid (Ending.returned (codeV 7) = .returned (codeE code)) := by rw [hc7]; rfl
      clear hfk hfb hc7 HCH
      go_enter Tryz.func105, Tryz.ntmps105
      go_wp2_with fail
      refine (hO _).mono ?_
      rintro e w1 ⟨rfl, b1⟩
      have hb1 := b0.trans (b1.mono (by simp))
      have hB1 : Box2 (w1.alloc (.cells #[.int .i64 F.cl, hv F.ty, .string F.nm, .int .i64 F.lo, .int .i64 F.hi, .int .i64 F.un, .int .i64 F.ki] 202)) w.heap.size w1.heap.size n A cc K kk F := ⟨(hW0.below b1 (by simp)).alloc _, Whole.new _ _ _⟩
      have HG := hB1.form
      have z1 := hB1.c1
      go_wp2_with (first | (refine wpList_new_form rfl 202 _ _ rfl w1 _ _ rfl rfl rfl (by kernel_rfl) rfl ?_) | (refine wpList_load_form rfl 202 _ rfl ⟨w1.heap.size, 0, none⟩ rfl F HG _ Tryz.underlying202 rfl (by kernel_rfl) ?_))
      refine (hFt _).mono ?_
      rintro e w2 ⟨rfl, b2⟩
      go_wp2_with fail
      go_ret
      exact ⟨HR.out, (hb1.alloc hb1.size _).trans (b2.mono (by have := hb1.size; simp; omega))⟩
    | true =>
      rw [hfb] at hfk hFt
      clear hfb
      cases hib : insB F.ki n.ks with
      | false =>
        rw [hib] at hH
        have hc7 : code = 7 := by rw [HCH.out, if_pos (.inr hib)]
        have HR : Hid (Ending.returned (codeV 7) = .returned (codeE code)) := by rw [hc7]; rfl
        clear hfk hib hc7 HCH
        unfold Form.val at hH
        go_enter Tryz.func105, Tryz.ntmps105
        go_wp2_with fail
        refine (hO _).mono ?_
        rintro e w1 ⟨rfl, b1⟩
        have hb1 := b0.trans (b1.mono (by simp))
        have hB1 : Box2 (w1.alloc (.cells #[.int .i64 F.cl, hv F.ty, .string F.nm, .int .i64 F.lo, .int .i64 F.hi, .int .i64 F.un, .int .i64 F.ki] 202)) w.heap.size w1.heap.size n A cc K kk F := ⟨(hW0.below b1 (by simp)).alloc _, Whole.new _ _ _⟩
        have HG1 := hB1.form
        have z1 := hB1.c1
        have z2 := hB1.c2
        have b1' := hb1.alloc hb1.size (.cells #[.int .i64 F.cl, hv F.ty, .string F.nm, .int .i64 F.lo, .int .i64 F.hi, .int .i64 F.un, .int .i64 F.ki] 202)
        go_wp2_with (first | (refine wpList_new_form rfl 202 _ _ rfl w1 _ _ rfl rfl rfl (by kernel_rfl) rfl ?_) | (refine wpList_load_form rfl 202 _ rfl ⟨w1.heap.size, 0, none⟩ rfl F HG1 _ Tryz.underlying202 rfl (by kernel_rfl) ?_))
        refine (hFt _).mono ?_
        rintro e w2 ⟨rfl, b2⟩
        have hB2 := hB1.below b2
        have hb2 := b1'.trans (b2.mono b1'.size)
        have y2 := hB2.c2
        have y0 := hB2.k0
        have y1 := hB2.k1
        have y3 := hB2.k2
        have y4 := hB2.k3
        have y5 := hB2.k4
        have y6 := hB2.k5
        have y7 := hB2.k6
        clear z1 z2
        go_wp2_with fail
        refine (hH _ hb2).mono ?_
        rintro e w3 ⟨rfl, b3⟩
        have hB3 := hB2.below b3
        have hb3 := hb2.trans (b3.mono hb2.size)
        have x0 := hB3.c0
        have x1 := hB3.c1
        go_wp2_with fail
        go_ret
        exact ⟨HR.out, hb3⟩
      | true =>
        rw [hib] at hH
        cases hcb : cntB c n.t n.v with
        | false =>
          rw [hcb] at hC
          have hc8 : code = 8 := by rw [HCH.out, if_neg (by rw [hfk, hib]; simp), if_pos hcb]
          have HR : Hid (Ending.returned (codeV 8) = .returned (codeE code)) := by rw [hc8]; rfl
          clear hfk hib hcb hc8 HCH
          unfold Form.val at hH
          go_enter Tryz.func105, Tryz.ntmps105
          go_wp2_with fail
          refine (hO _).mono ?_
          rintro e w1 ⟨rfl, b1⟩
          have hb1 := b0.trans (b1.mono (by simp))
          have hB1 : Box2 (w1.alloc (.cells #[.int .i64 F.cl, hv F.ty, .string F.nm, .int .i64 F.lo, .int .i64 F.hi, .int .i64 F.un, .int .i64 F.ki] 202)) w.heap.size w1.heap.size n A cc K kk F := ⟨(hW0.below b1 (by simp)).alloc _, Whole.new _ _ _⟩
          have HG1 := hB1.form
          have z1 := hB1.c1
          have z2 := hB1.c2
          have b1' := hb1.alloc hb1.size (.cells #[.int .i64 F.cl, hv F.ty, .string F.nm, .int .i64 F.lo, .int .i64 F.hi, .int .i64 F.un, .int .i64 F.ki] 202)
          go_wp2_with (first | (refine wpList_new_form rfl 202 _ _ rfl w1 _ _ rfl rfl rfl (by kernel_rfl) rfl ?_) | (refine wpList_load_form rfl 202 _ rfl ⟨w1.heap.size, 0, none⟩ rfl F HG1 _ Tryz.underlying202 rfl (by kernel_rfl) ?_))
          refine (hFt _).mono ?_
          rintro e w2 ⟨rfl, b2⟩
          have hB2 := hB1.below b2
          have hb2 := b1'.trans (b2.mono b1'.size)
          have y2 := hB2.c2
          have y0 := hB2.k0
          have y1 := hB2.k1
          have y3 := hB2.k2
          have y4 := hB2.k3
          have y5 := hB2.k4
          have y6 := hB2.k5
          have y7 := hB2.k6
          clear z1 z2
          go_wp2_with fail
          refine (hH _ hb2).mono ?_
          rintro e w3 ⟨rfl, b3⟩
          have hB3 := hB2.below b3
          have hb3 := hb2.trans (b3.mono hb2.size)
          have x0 := hB3.c0
          have x1 := hB3.c1
          go_wp2_with fail
          refine (hC _ hb3).mono ?_
          rintro e w4 ⟨rfl, b4⟩
          go_wp2_with fail
          go_ret
          exact ⟨HR.out, hb3.trans (b4.mono hb3.size)⟩
        | true =>
          rw [hcb] at hC
          have hcc := HCH.out
          rw [if_neg (by rw [hfk, hib]; simp), if_neg (by rw [hcb]; simp)] at hcc
          have HCC := Lib.hid hcc
          clear hfk hib hcb HCH hcc
          unfold Form.val at hH
          go_enter Tryz.func105, Tryz.ntmps105
          go_wp2_with fail
          refine (hO _).mono ?_
          rintro e w1 ⟨rfl, b1⟩
          have hb1 := b0.trans (b1.mono (by simp))
          have hB1 : Box2 (w1.alloc (.cells #[.int .i64 F.cl, hv F.ty, .string F.nm, .int .i64 F.lo, .int .i64 F.hi, .int .i64 F.un, .int .i64 F.ki] 202)) w.heap.size w1.heap.size n A cc K kk F := ⟨(hW0.below b1 (by simp)).alloc _, Whole.new _ _ _⟩
          have HG1 := hB1.form
          have z1 := hB1.c1
          have z2 := hB1.c2
          have b1' := hb1.alloc hb1.size (.cells #[.int .i64 F.cl, hv F.ty, .string F.nm, .int .i64 F.lo, .int .i64 F.hi, .int .i64 F.un, .int .i64 F.ki] 202)
          go_wp2_with (first | (refine wpList_new_form rfl 202 _ _ rfl w1 _ _ rfl rfl rfl (by kernel_rfl) rfl ?_) | (refine wpList_load_form rfl 202 _ rfl ⟨w1.heap.size, 0, none⟩ rfl F HG1 _ Tryz.underlying202 rfl (by kernel_rfl) ?_))
          refine (hFt _).mono ?_
          rintro e w2 ⟨rfl, b2⟩
          have hB2 := hB1.below b2
          have hb2 := b1'.trans (b2.mono b1'.size)
          have y2 := hB2.c2
          have y0 := hB2.k0
          have y1 := hB2.k1
          have y3 := hB2.k2
          have y4 := hB2.k3
          have y5 := hB2.k4
          have y6 := hB2.k5
          have y7 := hB2.k6
          clear z1 z2
          go_wp2_with fail
          refine (hH _ hb2).mono ?_
          rintro e w3 ⟨rfl, b3⟩
          have hB3 := hB2.below b3
          have hb3 := hb2.trans (b3.mono hb2.size)
          have x0 := hB3.c0
          have x1 := hB3.c1
          go_wp2_with fail
          refine (hC _ hb3).mono ?_
          rintro e w4 ⟨rfl, b4⟩
          have hB4 := hB3.below b4
          have hb4 := hb3.trans (b4.mono hb3.size)
          have v2 := hB4.c2
          have v6 := hB4.k6
          generalize (ins F.ki).1 = c1 at *
          go_wp2_with fail
          refine (hIn _).mono ?_
          rintro e w5 ⟨rfl, rfl⟩
          clear x0 x1 y0 y1 y2 y3 y4 y5 y6 y7
          go_wp2_with fail
          go_loopw [63] (fun i wr => ∃ k : Nat, k ≤ n.ks.length ∧ i = .int .i64 k ∧ Hid (∀ (j y : Nat), j < k → (n.ks.map (chk f c1))[j]? = some y → y = 0) ∧ Below w4.heap.size w4 wr) (fun i _ => n.ks.length - (intOf i).toNat)
          case atStart => exact ⟨0, Nat.zero_le _, rfl, fun j y hj _ => by omega, Below.refl _ _⟩
          case round =>
            obtain ⟨k, hk, rfl, hz, hbel⟩ := hrel
            have hbw := hb4.trans (hbel.mono hb4.size)
            have hBr := hB4.below hbel
            by_cases hlt : k < n.ks.length
            · obtain ⟨ad, A', c', K', k', m, rfl, hb, hm, hc0, hc1, hc2, hM⟩ := (HNK.out.bel hbw).at_ hlt
              have hb0' : Below wr.heap.size wr (wr.alloc (.cells #[hv m.t, .slice A' m.v.length c', .slice K' m.ks.length k'] 51)) := (Below.refl _ _).alloc (Nat.le_refl _) _
              have hS := HK.out c1 m (d + 1) A' c' K' k' _ (by omega) ((hM.more hbw.size).on hb0') (HF.out.kid m (List.mem_of_getElem? hm.out))
              have HX : Hid ((n.ks.map (chk f c1))[k]? = some (chk f c1 m)) := by rw [Hid, List.getElem?_map, hm.out]; rfl
              rw [Int.natCast_add] at hS
              generalize chk f c1 m = x at *
              unfold ndV at hS
              have hd1 : (d : Int) + 1 ≤ 5 := by omega
              by_cases hx : x = 0
              · have HZ : Hid (∀ (j y : Nat), j < k + 1 → (n.ks.map (chk f c1))[j]? = some y → y = 0) := fun j y hj hy => by
                  by_cases hjk : j = k
                  · subst hjk
                    rw [HX.out] at hy
                    cases hy
                    exact hx
                  · exact hz.out j y (by omega) hy
                subst hx
                have hS' := hS.mono (R' := fun e w' => e = .returned .nilIface ∧ Below (wr.alloc (.cells #[hv m.t, .slice A' m.v.length c', .slice K' m.ks.length k'] 51)).heap.size (wr.alloc (.cells #[hv m.t, .slice A' m.v.length c', .slice K' m.ks.length k'] 51)) w') (fun e w' h => h)
                clear hS
                go_wp2_with fail
                refine hS'.mono ?_
                rintro e w6 ⟨rfl, b6⟩
                go_wp2_with fail
                go_roundw
                case rel => exact ⟨k + 1, by omega, by go_num, HZ, hbel.trans ((hb0'.trans (b6.mono (by simp))).mono hbel.size)⟩
                case measure => simp [intOf]; omega
              · have hxc : code = x := by
                  rw [HCC.out, fst0_at HX.out hx hz.out, if_pos hx]
                have HR := Lib.hid (show Ending.returned (codeV x) = .returned (codeE code) by rw [hxc]; unfold codeE; rw [if_neg hx])
                have hS' := hS.mono (R' := fun e w' => e = .returned (codeV x) ∧ Below (wr.alloc (.cells #[hv m.t, .slice A' m.v.length c', .slice K' m.ks.length k'] 51)).heap.size (wr.alloc (.cells #[hv m.t, .slice A' m.v.length c', .slice K' m.ks.length k'] 51)) w') (fun e w' h => by unfold codeE at h; rwa [if_neg hx] at h)
                clear hS hx hxc
                unfold codeV at hS' HR
                go_wp2_with fail
                refine hS'.mono ?_
                rintro e w6 ⟨rfl, b6⟩
                go_wp2_with fail
                go_ret
                exact ⟨HR.out, hbw.trans ((hb0'.trans (b6.mono (by simp))).mono hbw.size)⟩
            · obtain rfl : k = n.ks.length := by omega
              have hcc := HCC.out
              rw [fst0_none (by intro j y hj hy; exact hz.out j y (by simpa using hj) hy), if_neg (by simp)] at hcc
              have hb0' : Below wr.heap.size wr (wr.alloc (.cells #[hv n.t, .slice A n.v.length cc, .slice K n.ks.length kk] 51)) := (Below.refl _ _).alloc (Nat.le_refl _) _
              have hL1 := ((HNb.out _ hbw).list1 51)
              have hS := nsize_any [n] (some ⟨wr.heap.size, 0, none⟩) 1 (wr.alloc (.cells #[hv n.t, .slice A n.v.length cc, .slice K n.ks.length kk] 51)) (hL1.more (by simp)) (by simp) (by intro m hm; rw [List.mem_singleton.1 hm]; exact HF.out)
              have e1 : sizes (lens [n]) = 4 + n.vlen := by rw [lens, lens, sizes_one]
              rw [e1] at hS
              have hS' := hS.mono (R' := fun e w' => e = .returned (.int .i64 ((4 + n.vlen : Nat) : Int)) ∧ Below wr.heap.size wr w') (fun e w' h => ⟨h.1, hb0'.trans (h.2.mono (by simp))⟩)
              have r0 := hBr.c0
              have r1 := hBr.c1
              have r2 := hBr.c2
              simp only [List.length_singleton] at hS'
              clear hS e1 v2 v6 hL1
              by_cases hv4 : 65531 < n.vlen
              · rw [if_pos hv4] at hcc
                have HR : Hid (Ending.returned (codeV 4) = .returned (codeE code)) := by rw [hcc]; rfl
                have hi4 : (65535 : Int) < ((4 + n.vlen : Nat) : Int) := by omega
                clear hcc
                generalize 4 + n.vlen = y at *
                go_wp2_with fail
                refine hS'.mono ?_
                rintro e w6 ⟨rfl, b6⟩
                go_wp2_with fail
                go_ret
                exact ⟨HR.out, hbw.trans (b6.mono hbw.size)⟩
              · rw [if_neg hv4] at hcc
                have HR : Hid (Ending.returned .nilIface = .returned (codeE code)) := by rw [hcc]; rfl
                have hi4 : ¬ (65535 : Int) < ((4 + n.vlen : Nat) : Int) := by omega
                clear hcc
                generalize 4 + n.vlen = y at *
                go_wp2_with fail
                refine hS'.mono ?_
                rintro e w6 ⟨rfl, b6⟩
                go_wp2_with fail
                go_ret
                exact ⟨HR.out, hbw.trans (b6.mono hbw.size)⟩

theorem check_all (f : Nat) : CheckOK f := by
  induction f with
  | zero => exact check_zero
  | succ f ih => exact check_succ f ih
end Go.Proofs.YteknmgmdmjmnmaaGreatDoor


