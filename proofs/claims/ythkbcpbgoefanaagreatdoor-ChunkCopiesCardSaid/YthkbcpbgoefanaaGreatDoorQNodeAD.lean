/- NodeA + NodeB + NodeC + NodeD -/
import Derived.Test.YthkbcpbgoefanaaGreatDoorQTA
import Derived.Test.YthkbcpbgoefanaaGreatDoorQS
import Derived.Deep.OwnRows
import Derived.Deep.RegionHeld3
import Derived.Test.YthkbcpbgoefanaaGreatDoorQW


namespace Go.Proofs.YthkbcpbgoefanaaGreatDoor
open Go.RowKit

inductive Nd where
  | mk (t : UInt16) (v : List UInt8) (ks : List Nd)
namespace Nd
def t : Nd → UInt16 | .mk t _ _ => t
def v : Nd → List UInt8 | .mk _ v _ => v
def ks : Nd → List Nd | .mk _ _ ks => ks
end Nd
theorem Nd.eta (n : Nd) : n = .mk n.t n.v n.ks := by cases n; rfl
theorem Nd.ind {P : Nd → Prop} (h : ∀ t v ks, (∀ k ∈ ks, P k) → P (.mk t v ks)) (n : Nd) : P n :=
  Nd.rec (motive_1 := P) (motive_2 := fun ks => ∀ k ∈ ks, P k) (fun t v ks ih => h t v ks ih) (fun k hk => by cases hk)
    (fun a l ha hl k hk => by rcases List.mem_cons.1 hk with rfl | hk; (exact ha); (exact hl k hk)) n
/-- by what lies inside each node of the list -/
theorem Nds.ind {P : List Nd → Prop} (h : ∀ ns, (∀ n ∈ ns, P n.ks) → P ns) (ns : List Nd) : P ns := by
  have h1 : ∀ n : Nd, P n.ks := fun n => Nd.ind (P := fun n => P n.ks) (fun t v ks ih => h ks ih) n
  exact h ns fun n _ => h1 n

/-! ### the bytes -/
mutual
def Nd.val : Nd → List UInt8
  | .mk _ v ks => v ++ jn (frs ks)
def frs : List Nd → List Fr
  | [] => []
  | n :: ns => ⟨n.t, n.val⟩ :: frs ns
end
mutual
def Nd.vlen : Nd → Nat
  | .mk _ v ks => v.length + sizes (lens ks)
def lens : List Nd → List Nat
  | [] => []
  | n :: ns => (4 + n.vlen) :: lens ns
end
def Nd.fr (n : Nd) : Fr := ⟨n.t, n.val⟩
theorem frs_map (ns : List Nd) : frs ns = ns.map Nd.fr := by
  induction ns with
  | nil => rfl
  | cons n ns ih => rw [frs, ih]; rfl
theorem lens_map (ns : List Nd) : lens ns = ns.map fun n => 4 + n.vlen := by
  induction ns with
  | nil => rfl
  | cons n ns ih => rw [lens, ih]; rfl
theorem Nd.val_eq (n : Nd) : n.val = n.v ++ jn (frs n.ks) := by cases n; rw [Nd.val]; rfl
theorem Nd.vlen_eq (n : Nd) : n.vlen = n.v.length + sizes (lens n.ks) := by cases n; rw [Nd.vlen]; rfl
theorem jn_len (fs : List Fr) : (jn fs).length = sizes (fs.map frL) := by
  have h : ∀ k, k ≤ fs.length → (jn (fs.take k)).length = sizes ((fs.map frL).take k) := by
    intro k
    induction k with
    | zero => intro _; simp [jn, sizes]
    | succ k ih =>
      intro hk
      have hf : fs[k]? = some fs[k] := List.getElem?_eq_getElem (by omega)
      have hl : (fs.map frL)[k]? = some (frL fs[k]) := by rw [List.getElem?_map, hf]; rfl
      rw [jn_take hf, sizes_take hl, List.length_append, padB_len, frB_len, ih (by omega)]
  have := h fs.length (Nat.le_refl _)
  rwa [List.take_length, List.take_of_length_le (by simp)] at this
theorem val_len (n : Nd) : n.val.length = n.vlen :=
  Nd.ind (P := fun n => n.val.length = n.vlen) (fun t v ks ih => by
    rw [Nd.val_eq, Nd.vlen_eq, List.length_append, jn_len]
    congr 2
    show ((frs ks).map frL) = lens ks
    rw [frs_map, lens_map, List.map_map]
    refine List.map_congr_left fun k hk => ?_
    simp only [Function.comp, Nd.fr, frL, ih k hk]) n
theorem frs_frL (ns : List Nd) : (frs ns).map frL = lens ns := by
  rw [frs_map, lens_map, List.map_map]
  refine List.map_congr_left fun k hk => ?_
  simp only [Function.comp, Nd.fr, frL, val_len]
theorem jnf_len (ns : List Nd) : (jn (frs ns)).length = sizes (lens ns) := by rw [jn_len, frs_frL]
theorem lens_at {ns : List Nd} {k : Nat} {n : Nd} (h : ns[k]? = some n) : (lens ns)[k]? = some (4 + n.vlen) := by rw [lens_map, List.getElem?_map, h]; rfl
theorem frs_at {ns : List Nd} {k : Nat} {n : Nd} (h : ns[k]? = some n) : (frs ns)[k]? = some n.fr := by rw [frs_map, List.getElem?_map, h]; rfl
theorem lens_len (ns : List Nd) : (lens ns).length = ns.length := by rw [lens_map]; simp
theorem frs_len (ns : List Nd) : (frs ns).length = ns.length := by rw [frs_map]; simp
theorem up_le (n : Nat) : n ≤ up n := by unfold up; omega
theorem sizes_mono {l : List Nat} {k : Nat} : sizes (l.take k) ≤ sizes l := by
  have h : ∀ j, sizes (l.take k) ≤ sizes (l.take (k + j)) := by
    intro j
    induction j with
    | zero => exact Nat.le_refl _
    | succ j ih =>
      rcases Nat.lt_or_ge (k + j) l.length with h1 | h1
      · rw [← Nat.add_assoc, sizes_take (List.getElem?_eq_getElem h1)]
        have := up_le (sizes (l.take (k + j)))
        omega
      · rw [List.take_of_length_le (by omega : l.length ≤ k + (j + 1))]
        rw [List.take_of_length_le h1] at ih
        exact ih
  have := h l.length
  rwa [List.take_of_length_le (by omega : l.length ≤ k + l.length)] at this
theorem sizes_mem {l : List Nat} {x : Nat} (h : x ∈ l) : x ≤ sizes l := by
  obtain ⟨i, hi, rfl⟩ := List.mem_iff_getElem.1 h
  have h1 := sizes_take (List.getElem?_eq_getElem hi)
  have h2 := sizes_mono (l := l) (k := i + 1)
  omega

/-! ### nodes that are small enough to be walked -/
inductive Fine : Nd → Prop
  | mk {n : Nd} : n.vlen ≤ 800000 → n.ks.length ≤ 1000 → (∀ k ∈ n.ks, Fine k) → Fine n
theorem Fine.vl {n : Nd} (h : Fine n) : n.vlen ≤ 800000 := by cases h; assumption
theorem Fine.kl {n : Nd} (h : Fine n) : n.ks.length ≤ 1000 := by cases h; assumption
theorem Fine.kid {n : Nd} (h : Fine n) : ∀ k ∈ n.ks, Fine k := by cases h; assumption

/-! ### in memory -/
inductive Nodes (w : World) (B : Nat) : Option Addr → List Nd → Prop
  | mk {A : Option Addr} {ns : List Nd} (vs : List Value) (K : Nat → Option Addr) (c : Nat → Nat) (lies : Lies w B A vs) (len : vs.length = ns.length * 3)
      (each : ∀ (i : Nat) (n : Nd), ns[i]? = some n → vs[i * 3]? = some (hv n.t) ∧ (∃ d, vs[i * 3 + 1]? = some d ∧ IsB w B d n.v) ∧ vs[i * 3 + 2]? = some (.slice (K i) n.ks.length (c i)) ∧ n.ks.length ≤ c i ∧ c i ≤ maxLen)
      (kids : ∀ (i : Nat) (n : Nd), ns[i]? = some n → Nodes w B (K i) n.ks) : Nodes w B A ns
/-- what the three fields of a node read as -/
structure Node (w : World) (B : Nat) (A : Option Addr) (c : Nat) (K : Option Addr) (k : Nat) (n : Nd) : Prop where
  data : Lies w B A (n.v.map bv)
  dc : n.v.length ≤ c
  dm : c ≤ maxLen
  kids : Nodes w B K n.ks
  kc : n.ks.length ≤ k
  km : k ≤ maxLen
theorem IsB.more' {w : World} {B B' : Nat} {v : Value} {l : List UInt8} (h : IsB w B v l) (hB : B ≤ B') : IsB w B' v l := by
  obtain ⟨A', c', h2, h3, h4⟩ := h
  exact ⟨A', c', h2, h3.more hB, h4⟩
theorem Nodes.nil (w : World) (B : Nat) (A : Option Addr) : Nodes w B A [] := .mk [] (fun _ => none) (fun _ => 0) Lies.nil rfl (fun i n h => by simp at h) (fun i n h => by simp at h)
section
variable {w w' : World} {B B' : Nat} {A : Option Addr} {ns : List Nd}
theorem Nodes.keep (h : Nodes w B A ns) (hk : ∀ p : Addr, p.block < B → w'.cell? p = w.cell? p) : Nodes w' B A ns := by
  induction h with
  | mk vs K c lies len each kids ih =>
    refine .mk vs K c (lies.keep hk) len (fun i n hn => ?_) ih
    obtain ⟨h1, ⟨d, h2, A2, c2, h3, h4, h5⟩, h6⟩ := each i n hn
    exact ⟨h1, ⟨d, h2, A2, c2, h3, h4.keep hk, h5⟩, h6⟩
theorem Nodes.more (h : Nodes w B A ns) (hB : B ≤ B') : Nodes w B' A ns := by
  induction h with
  | mk vs K c lies len each kids ih =>
    refine .mk vs K c (lies.more hB) len (fun i n hn => ?_) ih
    obtain ⟨h1, ⟨d, h2, h3⟩, h6⟩ := each i n hn
    exact ⟨h1, ⟨d, h2, h3.more' hB⟩, h6⟩
theorem Nodes.bel (h : Nodes w B A ns) (hb : Below B w w') : Nodes w' B A ns := h.keep fun _ hp => hb.cell hp
theorem Nodes.on (h : Nodes w w.heap.size A ns) (hb : Below w.heap.size w w') : Nodes w' w'.heap.size A ns := (h.bel hb).more hb.size
theorem Nodes.drewN (h : Nodes w B A ns) (q : Nat) : Nodes (w.drewN q) B A ns := h.keep fun _ _ => rfl
theorem Nodes.kid (h : Nodes w B A ns) {k : Nat} {n : Nd} (hn : ns[k]? = some n) : ∃ K, Nodes w B K n.ks := by
  cases h with
  | mk vs K c lies len each kids => exact ⟨K k, kids k n hn⟩
theorem Nodes.at_ (h : Nodes w B A ns) {k : Nat} (hk : k < ns.length) :
    ∃ ad A' c' K' k' n, A = some ad ∧ ad.block < B ∧ Hid (ns[k]? = some n) ∧ w.cell? (ad.add (k * 3)) = some (hv n.t) ∧ w.cell? ⟨(ad.add (k * 3)).block, (ad.add (k * 3)).off + 1, none⟩ = some (.slice A' n.v.length c') ∧
      w.cell? ⟨(ad.add (k * 3)).block, (ad.add (k * 3)).off + 2, none⟩ = some (.slice K' n.ks.length k') ∧ Node w B A' c' K' k' n := by
  cases h with
  | mk vs K c lies len each kids =>
    obtain ⟨h1, ⟨d, h2, A2, c2, rfl, h4, h5, h6⟩, h7, h8, h9⟩ := each k _ (List.getElem?_eq_getElem hk)
    obtain ⟨ad, ha, hb, hc⟩ := lies (fun e => by rw [e] at len; simp at len; omega)
    exact ⟨ad, A2, c2, K k, c k, ns[k], ha, hb, List.getElem?_eq_getElem hk, hc _ _ h1, by have h10 := hc _ _ h2; rw [← add_add'] at h10; exact h10,
      by have h10 := hc _ _ h7; rw [← add_add'] at h10; exact h10, ⟨h4, h5, h6, kids k _ (List.getElem?_eq_getElem hk), h8, h9⟩⟩
end
section
variable {w w' : World} {B B' : Nat} {A K : Option Addr} {c k : Nat} {n : Nd}
theorem Node.keep (h : Node w B A c K k n) (hk : ∀ p : Addr, p.block < B → w'.cell? p = w.cell? p) : Node w' B A c K k n := ⟨h.data.keep hk, h.dc, h.dm, h.kids.keep hk, h.kc, h.km⟩
theorem Node.more (h : Node w B A c K k n) (hB : B ≤ B') : Node w B' A c K k n := ⟨h.data.more hB, h.dc, h.dm, h.kids.more hB, h.kc, h.km⟩
theorem Node.below (h : Node w B A c K k n) (hb : Below B w w') : Node w' B A c K k n := h.keep fun _ hp => hb.cell hp
theorem Node.on (h : Node w w.heap.size A c K k n) (hb : Below w.heap.size w w') : Node w' w'.heap.size A c K k n := (h.below hb).more hb.size
theorem Node.drewN (h : Node w B A c K k n) (q : Nat) : Node (w.drewN q) B A c K k n := h.keep fun _ _ => rfl
/-- the value of a node -/
abbrev ndV (n : Nd) (A : Option Addr) (c : Nat) (K : Option Addr) (k : Nat) : Value := .agg #[hv n.t, .slice A n.v.length c, .slice K n.ks.length k]
/-- a node that is laid in memory as a list of its own -/
theorem Node.list1 (h : Node w w.heap.size A c K k n) (t : TypeId) :
    Nodes (w.alloc (.cells #[hv n.t, .slice A n.v.length c, .slice K n.ks.length k] t)) (w.heap.size + 1) (some ⟨w.heap.size, 0, none⟩) [n] := by
  have hb : Below w.heap.size w (w.alloc (.cells #[hv n.t, .slice A n.v.length c, .slice K n.ks.length k] t)) := (Below.refl _ w).alloc (Nat.le_refl _) _
  have h2 := (h.below hb).more (Nat.le_add_right _ 1)
  refine .mk [hv n.t, .slice A n.v.length c, .slice K n.ks.length k] (fun _ => K) (fun _ => k) (Lies.newN w [hv n.t, .slice A n.v.length c, .slice K n.ks.length k] t) rfl (fun i m hm => ?_) (fun i m hm => ?_)
  · match i, hm with
    | 0, hm => simp only [List.getElem?_cons_zero, Option.some.injEq] at hm; subst hm; exact ⟨rfl, ⟨_, rfl, A, c, rfl, h2.data, h2.dc, h2.dm⟩, rfl, h2.kc, h2.km⟩
    | i + 1, hm => simp at hm
  · match i, hm with
    | 0, hm => simp only [List.getElem?_cons_zero, Option.some.injEq] at hm; subst hm; exact h2.kids
    | i + 1, hm => simp at hm
end
end Go.Proofs.YthkbcpbgoefanaaGreatDoor




namespace Go.Proofs.YthkbcpbgoefanaaGreatDoor
open Go.RowKit

theorem tfrinfo : (Tryz.prog.info? 96).map (fun i => (i.zero, i.size, i.bytes)) = some (some (.agg #[.int .u16 0, .slice none 0 0]), 2, 32) := by kernel_rfl
def zfr : Nat → List Value
  | 0 => []
  | n + 1 => .int .u16 0 :: .slice none 0 0 :: zfr n
theorem madeCells_fr (n : Nat) : (madeCells #[.int .u16 0, .slice none 0 0] (n * 2)).toList = zfr n := by
  apply List.ext_getElem?
  intro i
  have h : ∀ n i, (zfr n)[i]? = if i < n * 2 then some (#[Value.int .u16 0, .slice none 0 0].getD (i % 2) undef) else none := by
    intro n
    induction n with
    | zero => intro i; simp [zfr]
    | succ n ih =>
      intro i
      match i with
      | 0 => simp [zfr]
      | 1 => simp [zfr]; omega
      | i + 2 =>
        simp only [zfr, List.getElem?_cons_succ, ih]
        rw [show (i + 2) % 2 = i % 2 by omega]
        by_cases hi : i < n * 2
        · rw [if_pos hi, if_pos (by omega)]
        · rw [if_neg hi, if_neg (by omega)]
  rw [h]
  rw [Array.getElem?_toList]
  unfold madeCells
  rw [Array.getElem?_map]
  by_cases hi : i < n * 2
  · rw [if_pos hi]
    have h2 : i % 2 = 0 ∨ i % 2 = 1 := by omega
    rcases h2 with h2 | h2 <;> simp [hi, h2]
  · rw [if_neg hi]; simp [hi]
/-- what lies in the row of the frames behind k rounds -/
structure FrRow (W : World) (g n k : Nat) (fs : List Fr) (vs : List Value) : Prop where
  whole : Whole W g 96 (vs ++ zfr (n - k)).toArray
  len : vs.length = k * 2
  each : ∀ (i : Nat) (f : Fr), i < k → fs[i]? = some f → ∃ v, vs[i * 2]? = some (hv f.t) ∧ vs[i * 2 + 1]? = some v ∧ IsB W W.heap.size v f.v

theorem zfr_set (n k : Nat) (hk : k < n) (vs : List Value) (hl : vs.length = k * 2) (u v : Value) :
    ((vs ++ zfr (n - k)).set (k * 2) u).set (k * 2 + 1) v = (vs ++ [u, v]) ++ zfr (n - (k + 1)) := by
  obtain ⟨m, hm⟩ : ∃ m, n - k = m + 1 := ⟨n - k - 1, by omega⟩
  rw [hm, show n - (k + 1) = m by omega, List.set_append_right _ _ (by omega), hl, Nat.sub_self, List.set_append_right _ _ (by omega), hl, show k * 2 + 1 - k * 2 = 1 by omega, zfr]
  simp
theorem zfr_set1 (n k : Nat) (hk : k < n) (vs : List Value) (hl : vs.length = k * 2) (v : Value) :
    (vs ++ zfr (n - k)).set (k * 2 + 1) v = (vs ++ [.int .u16 0, v]) ++ zfr (n - (k + 1)) := by
  obtain ⟨m, hm⟩ : ∃ m, n - k = m + 1 := ⟨n - k - 1, by omega⟩
  rw [hm, show n - (k + 1) = m by omega, List.set_append_right _ _ (by omega), hl, show k * 2 + 1 - k * 2 = 1 by omega, zfr]
  simp
section
variable {W W2 : World} {g n k : Nat} {fs : List Fr} {vs : List Value} {f : Fr}
theorem FrRow.cell0 (h : FrRow W g n k fs vs) (hk : k < n) : W.cell? ⟨g, k * 2, none⟩ = some (.int .u16 0) := by
  rw [h.whole.cell]
  obtain ⟨m, hm⟩ : ∃ m, n - k = m + 1 := ⟨n - k - 1, by omega⟩
  have := h.len
  simp only [List.getElem?_toArray]
  rw [List.getElem?_append_right (by omega), hm, show k * 2 - vs.length = 0 by omega]
  rfl
theorem FrRow.cell1 (h : FrRow W g n k fs vs) (hk : k < n) : W.cell? ⟨g, k * 2 + 1, none⟩ = some (.slice none 0 0) := by
  rw [h.whole.cell]
  obtain ⟨m, hm⟩ : ∃ m, n - k = m + 1 := ⟨n - k - 1, by omega⟩
  have := h.len
  simp only [List.getElem?_toArray]
  rw [List.getElem?_append_right (by omega), hm, show k * 2 + 1 - vs.length = 1 by omega]
  rfl
theorem FrRow.on (h : FrRow W g n k fs vs) (hb : Below W.heap.size W W2) : FrRow W2 g n k fs vs :=
  ⟨h.whole.below hb h.whole.lt, h.len, fun i f hi hf => by obtain ⟨u, h0, h1, h2⟩ := h.each i f hi hf; exact ⟨u, h0, h1, h2.on hb⟩⟩
/-- a store into a cell that holds a u16 leaves what reads as bytes -/
theorem IsB.far16 {W : World} {B : Nat} {v : Value} {l : List UInt8} (h : IsB W B v l) {p : Addr} {x : Int} (hp : W.cell? p = some (.int .u16 x)) (u : Value) : IsB (W.setCell p u) B v l := by
  obtain ⟨A, c, h1, h2, h3, h4⟩ := h
  refine ⟨A, c, h1, fun hne => ?_, h3, h4⟩
  obtain ⟨ad, h5, h6, h7⟩ := h2 hne
  refine ⟨ad, h5, h6, fun j x hx => ?_⟩
  have h8 := h7 j x hx
  rw [World.cell?_setCell_other W p _ u (fun e => ?_)]
  · exact h8
  · rw [← e, hp] at h8
    rw [List.getElem?_map] at hx
    obtain ⟨y, _, rfl⟩ := Option.map_eq_some_iff.1 hx
    cases h8
theorem FrRow.step1 (h0 : FrRow W g n k fs vs) (hb : Below W.heap.size W W2) (hf : fs[k]? = some f) (hk : k < n) (ht : f.t = 0) (hm : f.v.length ≤ maxLen) (t : TypeId) :
    FrRow ((W2.setCell ⟨g, k * 2 + 1, none⟩ (.slice (some ⟨W2.heap.size, 0, none⟩) f.v.length f.v.length)).alloc (.cells (f.v.map bv).toArray t)) g n (k + 1) fs (vs ++ [.int .u16 0, .slice (some ⟨W2.heap.size, 0, none⟩) f.v.length f.v.length]) := by
  have h := h0.on hb
  have hl := h.len
  have hc := h.cell1 hk
  have hsz : (W2.setCell ⟨g, k * 2 + 1, none⟩ (.slice (some ⟨W2.heap.size, 0, none⟩) f.v.length f.v.length)).heap.size = W2.heap.size := by simp [World.setCell]
  have hal := (Below.refl (W2.setCell ⟨g, k * 2 + 1, none⟩ (.slice (some ⟨W2.heap.size, 0, none⟩) f.v.length f.v.length)).heap.size (W2.setCell ⟨g, k * 2 + 1, none⟩ (.slice (some ⟨W2.heap.size, 0, none⟩) f.v.length f.v.length))).alloc (Nat.le_refl _) (.cells (f.v.map bv).toArray t)
  refine ⟨?_, by simp [hl]; omega, fun i f' hi hf' => ?_⟩
  · have h4 := (h.whole.set_ (k * 2 + 1) (.slice (some ⟨W2.heap.size, 0, none⟩) f.v.length f.v.length)).alloc (.cells (f.v.map bv).toArray t)
    rw [List.setIfInBounds_toArray, zfr_set1 n k hk vs hl] at h4
    exact h4
  · rcases Nat.lt_or_ge i k with hlt | hge
    · obtain ⟨u, h1, h2, h3⟩ := h.each i f' hlt hf'
      refine ⟨u, by rw [List.getElem?_append_left (by omega)]; exact h1, by rw [List.getElem?_append_left (by omega)]; exact h2, ?_⟩
      have h5 := h3.far hc (.slice (some ⟨W2.heap.size, 0, none⟩) f.v.length f.v.length)
      exact IsB.on (by rw [hsz]; exact h5) hal
    · obtain rfl : i = k := by omega
      rw [hf] at hf'
      cases hf'
      refine ⟨_, by rw [List.getElem?_append_right (by omega), hl, Nat.sub_self, ht]; rfl, by rw [List.getElem?_append_right (by omega), hl, show i * 2 + 1 - i * 2 = 1 by omega]; rfl, ?_⟩
      have h6 := Lies.newN (W2.setCell ⟨g, i * 2 + 1, none⟩ (.slice (some ⟨W2.heap.size, 0, none⟩) f.v.length f.v.length)) (f.v.map bv) t
      rw [hsz] at h6
      exact ⟨_, _, rfl, h6.more (by simp), Nat.le_refl _, hm⟩
theorem FrRow.step2 (h0 : FrRow W g n k fs vs) (hb : Below W.heap.size W W2) (hf : fs[k]? = some f) (hk : k < n) {v : Value} (hv' : IsB W2 W2.heap.size v f.v) :
    FrRow ((W2.setCell ⟨g, k * 2, none⟩ (hv f.t)).setCell ⟨g, k * 2 + 1, none⟩ v) g n (k + 1) fs (vs ++ [hv f.t, v]) := by
  have h := h0.on hb
  have hl := h.len
  have hc0 := h.cell0 hk
  have hc1 := h.cell1 hk
  have hc2 : (W2.setCell ⟨g, k * 2, none⟩ (hv f.t)).cell? ⟨g, k * 2 + 1, none⟩ = some (.slice none 0 0) := by
    rw [World.cell?_setCell_other _ _ _ _ (by simp)]
    exact hc1
  have hsz : ((W2.setCell ⟨g, k * 2, none⟩ (hv f.t)).setCell ⟨g, k * 2 + 1, none⟩ v).heap.size = W2.heap.size := by simp [World.setCell]
  have hall : ∀ {u : Value} {l : List UInt8}, IsB W2 W2.heap.size u l → IsB ((W2.setCell ⟨g, k * 2, none⟩ (hv f.t)).setCell ⟨g, k * 2 + 1, none⟩ v) ((W2.setCell ⟨g, k * 2, none⟩ (hv f.t)).setCell ⟨g, k * 2 + 1, none⟩ v).heap.size u l := fun hu => by
    rw [hsz]
    exact (hu.far16 hc0 (hv f.t)).far hc2 v
  refine ⟨?_, by simp [hl]; omega, fun i f' hi hf' => ?_⟩
  · have h4 := (h.whole.set_ (k * 2) (hv f.t)).set_ (k * 2 + 1) v
    rw [List.setIfInBounds_toArray, List.setIfInBounds_toArray, zfr_set n k hk vs hl] at h4
    exact h4
  · rcases Nat.lt_or_ge i k with hlt | hge
    · obtain ⟨u, h1, h2, h3⟩ := h.each i f' hlt hf'
      exact ⟨u, by rw [List.getElem?_append_left (by omega)]; exact h1, by rw [List.getElem?_append_left (by omega)]; exact h2, hall h3⟩
    · obtain rfl : i = k := by omega
      rw [hf] at hf'
      cases hf'
      exact ⟨_, by rw [List.getElem?_append_right (by omega), hl, Nat.sub_self]; rfl, by rw [List.getElem?_append_right (by omega), hl, show i * 2 + 1 - i * 2 = 1 by omega]; rfl, hall hv'⟩
theorem FrRow.frames (h : FrRow W g n n fs vs) (hn : fs.length = n) : Frames W W.heap.size (some ⟨g, 0, none⟩) vs fs := by
  have hw := h.whole
  rw [Nat.sub_self, zfr, List.append_nil] at hw
  exact ⟨hw.lies hw.lt, by rw [h.len, hn], fun i f hf => h.each i f (by have := (List.getElem?_eq_some_iff.1 hf).1; omega) hf⟩
end
theorem own_whole2 {w : World} {base e g n : Nat} {xs : List Value} (h : w.ownsRow base e 2 (.slice (some ⟨g, 0, none⟩) n n) n xs) : Whole w g e xs.toArray := by
  have h0 := h.1
  rcases h.2 with ⟨h1, _⟩ | ⟨g', cap, cur, h1, h2, h3, _, _, h6, h7⟩
  · simp at h1
  · simp only [Value.slice.injEq, Option.some.injEq, Addr.mk.injEq, and_true, true_and] at h1
    obtain ⟨rfl, rfl⟩ := h1
    rw [List.take_of_length_le (by simp; omega)] at h7
    subst h7
    exact h3
theorem made_zero (m : Nat) : madeCells #[.int .u8 0] m = ((List.replicate m (0 : UInt8)).map bv).toArray := by
  apply Array.toList_inj.1
  rw [toList_madeCells_one]
  simp
/-- frames as long as those of the nodes -/
def fsz (ns : List Nd) : List Fr := ns.map fun n => ⟨0, List.replicate n.vlen 0⟩
theorem fsz_at {ns : List Nd} {k : Nat} {n : Nd} (h : ns[k]? = some n) : (fsz ns)[k]? = some ⟨0, List.replicate n.vlen 0⟩ := by unfold fsz; rw [List.getElem?_map, h]; rfl
theorem fsz_frL (ns : List Nd) : (fsz ns).map frL = lens ns := by
  unfold fsz
  rw [lens_map, List.map_map]
  refine List.map_congr_left fun n _ => ?_
  simp [Function.comp, frL]

set_option maxRecDepth 100000 in
theorem size_step (ns : List Nd) (ih : ∀ n ∈ ns, ∀ (A : Option Addr) (c : Nat) (w : World), Nodes w w.heap.size A n.ks → n.ks.length ≤ 1000 → (∀ k ∈ n.ks, Fine k) →
      Calls Tryz.prog 67 #[.slice A n.ks.length c] w fun e w' => e = .returned (.int .i64 (sizes (lens n.ks) : Nat)) ∧ Below w.heap.size w w')
    (A : Option Addr) (c : Nat) (w : World) (h : Nodes w w.heap.size A ns) (hn : ns.length ≤ 1000) (hf : ∀ n ∈ ns, Fine n) :
    Calls Tryz.prog 67 #[.slice A ns.length c] w fun e w' => e = .returned (.int .i64 (sizes (lens ns) : Nat)) ∧ Below w.heap.size w w' := by
  obtain ⟨i0, hi, hz0, hz1, hz2⟩ := info_parts tfrinfo
  have HI := Lib.hid ih
  have HF := Lib.hid hf
  clear ih hf
  go_enter Tryz.func67, Tryz.ntmps67
  go_wp2_with (at_make; refine wpList_make_full _ rfl (.tmp 7) (.tmp 7) 158 rfl w.heap.size 96 i0 _ 2 Tryz.underlying158 hi hz0 hz1 .i64 .i64 _ _ ns.length rfl rfl rfl rfl (by rw [hz2]; omega) (by unfold maxLen; omega) (Nat.le_refl _) ?_; intro w1 hown hgrow)
  have hb1 : Below w.heap.size w w1 := (Below.refl _ w).grown hgrow (Nat.le_refl _) (by simp)
  have hR : FrRow w1 w.heap.size ns.length 0 (fsz ns) [] := ⟨by
    have := own_whole2 hown
    simp only [Value.cells, madeCells_fr] at this
    exact this, rfl, fun i f hi => by omega⟩
  clear hown hgrow
  go_loopw [11] (fun i wr => ∃ (k : Nat) (us : List Value), k ≤ ns.length ∧ i = .int .i64 k ∧ FrRow wr w.heap.size ns.length k (fsz ns) us ∧ Below w.heap.size w wr) (fun i _ => ns.length - (intOf i).toNat)
  case atStart => exact ⟨0, [], Nat.zero_le _, rfl, hR, hb1⟩
  case round =>
    obtain ⟨k, us, hk, rfl, hrw, hbel⟩ := hrel
    by_cases hlt : k < ns.length
    · obtain ⟨ad, A', c', K', k', n, rfl, hb, hn', hc0, hc1, hc2, hN⟩ := (h.bel hbel).at_ hlt
      have HN' := Lib.hid (fsz_at hn'.out)
      have hmem : n ∈ ns := List.mem_of_getElem? hn'.out
      have hfn := HF.out n hmem
      have hvl := hfn.vl
      have hve := n.vlen_eq
      have hS := fun W (hW : Below wr.heap.size wr W) => HI.out n hmem K' k' W ((hN.kids.bel (hW.mono hbel.size)).more (Nat.le_trans hbel.size hW.size)) hfn.kl hfn.kid
      have hmk : ∀ W : World, (Instr.makeSlice 22 (.int .i64 ((n.v.length : Int) + (sizes (lens n.ks) : Nat))) (.int .i64 ((n.v.length : Int) + (sizes (lens n.ks) : Nat)))).run Tryz.prog W = .ok (.slice (some ⟨W.heap.size, 0, none⟩) (n.v.length + sizes (lens n.ks)) (n.v.length + sizes (lens n.ks))) (W.alloc (.cells (madeCells #[.int .u8 0] (n.v.length + sizes (lens n.ks))) 5)) := fun W => by
        have := run_make_row' (P := Tryz.prog) 22 5 (.int .u8 0) 1 Tryz.underlying22 u8info rfl .i64 .i64 (n.v.length + sizes (lens n.ks)) (by omega) (by omega) W
        rwa [Int.natCast_add] at this
      have hql : sizes (lens n.ks) ≤ 800000 := by omega
      have hal : n.v.length ≤ 800000 := by omega
      have hwr : IntKind.i64.wrap ((n.v.length : Int) + (sizes (lens n.ks) : Nat)) = (n.v.length : Int) + (sizes (lens n.ks) : Nat) := by rw [IntKind.wrap_i64]; omega
      generalize hq : sizes (lens n.ks) = q at *
      generalize ha : n.v.length = a at *
      have HQ := Lib.hid hq
      have HA := Lib.hid ha
      have HVE := Lib.hid hve
      clear hq ha hve
      have hgw := hrw.whole.lt
      have hcell : wr.cell? ⟨w.heap.size, k * 2 + 1, none⟩ = some (.slice none 0 0) := hrw.cell1 hlt
      have hfr := hrw.whole.frozen (k * 2 + 1)
      have hne1 : w.heap.size ≠ wr.heap.size := by omega
      have hne2 : wr.heap.size ≠ w.heap.size := by omega
      go_wp2_with fail
      have b0 : Below wr.heap.size wr (wr.alloc (.cells #[hv n.t, .slice A' a c', .slice K' n.ks.length k'] 50)) := (Below.refl _ _).alloc (Nat.le_refl _) _
      go_region_held3 (fun W => W.cell? ⟨wr.heap.size, 0, none⟩ = some (hv n.t) ∧ W.cell? ⟨wr.heap.size, 1, none⟩ = some (.slice A' a c') ∧ W.cell? ⟨wr.heap.size, 2, none⟩ = some (.slice K' n.ks.length k')) (go_keep) (first
        | (go_at_call 67; refine (hS _ (by first | exact b0 | exact below_drew b0)).mono ?_; rintro e w2 ⟨rfl, b2⟩; have b2' : Below wr.heap.size wr w2 := (by first | exact b0.trans (b2.mono (by simp)) | exact (below_drew b0).trans (b2.mono (by simp))); have g0 : w2.cell? ⟨wr.heap.size, 0, none⟩ = some (hv n.t) := (b2.cell (p := ⟨wr.heap.size, 0, none⟩) (by simp)).trans (by simp); have g1 : w2.cell? ⟨wr.heap.size, 1, none⟩ = some (.slice A' a c') := (b2.cell (p := ⟨wr.heap.size, 1, none⟩) (by simp)).trans (by simp); have g2 : w2.cell? ⟨wr.heap.size, 2, none⟩ = some (.slice K' n.ks.length k') := (b2.cell (p := ⟨wr.heap.size, 2, none⟩) (by simp)).trans (by simp); have hsz2 : wr.heap.size + 1 ≤ w2.heap.size := (by have h9 := b2.size; simpa using h9); have d0 : w2.cell? ⟨w.heap.size, k * 2 + 1, none⟩ = some (.slice none 0 0) := (b2'.cell (p := ⟨w.heap.size, k * 2 + 1, none⟩) hgw).trans hcell; have d1 : w2.frozen? ⟨w.heap.size, k * 2 + 1, none⟩ = false := (b2'.frozen (p := ⟨w.heap.size, k * 2 + 1, none⟩) hgw).trans hfr; have hlt2 : w.heap.size < w2.heap.size := (by omega); have hlt3 : wr.heap.size < w2.heap.size := (by omega)))
      have HST : Hid (FrRow ((w2.setCell ⟨w.heap.size, k * 2 + 1, none⟩ (.slice (some ⟨w2.heap.size, 0, none⟩) (a + q) (a + q))).alloc (.cells (madeCells #[.int .u8 0] (a + q)) 5)) w.heap.size ns.length (k + 1) (fsz ns) (us ++ [.int .u16 0, .slice (some ⟨w2.heap.size, 0, none⟩) (a + q) (a + q)])) := by
        have h9 := hrw.step1 b2' HN'.out hlt rfl (by rw [List.length_replicate]; unfold maxLen; omega) 5
        simp only [List.length_replicate] at h9
        rw [HVE.out] at h9
        rw [made_zero]
        exact h9
      have HBW : Hid (Below w.heap.size w ((w2.setCell ⟨w.heap.size, k * 2 + 1, none⟩ (.slice (some ⟨w2.heap.size, 0, none⟩) (a + q) (a + q))).alloc (.cells (madeCells #[.int .u8 0] (a + q)) 5))) :=
        ((hbel.trans (b2'.mono hbel.size)).setCell (Nat.le_refl _) _).alloc (by simp [World.setCell]; omega) _
      generalize (w2.setCell ⟨w.heap.size, k * 2 + 1, none⟩ (.slice (some ⟨w2.heap.size, 0, none⟩) (a + q) (a + q))).alloc (.cells (madeCells #[.int .u8 0] (a + q)) 5) = W3 at *
      clear hrw
      go_wp2_with fail
      go_roundw
      case rel => exact ⟨k + 1, _, by omega, by go_num, HST.out, HBW.out⟩
      case measure => simp [intOf]; omega
    · obtain rfl : k = ns.length := by omega
      have hF := hrw.frames (by simp [fsz])
      have hT := tsize_any (some ⟨w.heap.size, 0, none⟩) ns.length us (fsz ns) wr hF (by simp [fsz]; omega) (fun i f hf => by
        unfold fsz at hf
        rw [List.getElem?_map] at hf
        obtain ⟨n, hn2, rfl⟩ := Option.map_eq_some_iff.1 hf
        have := (HF.out n (List.mem_of_getElem? hn2)).vl
        simp; omega)
      rw [fsz_frL, show (fsz ns).length = ns.length by simp [fsz]] at hT
      have HT := Lib.hid hT
      clear hT hF hrw
      go_wp2_with fail
      refine HT.out.mono ?_
      rintro e w2 ⟨rfl, b2⟩
      go_wp2_with fail
      go_ret
      exact ⟨rfl, hbel.trans (b2.mono hbel.size)⟩

/-- Size of whatever nodes -/
theorem nsize_any (ns : List Nd) : ∀ (A : Option Addr) (c : Nat) (w : World), Nodes w w.heap.size A ns → ns.length ≤ 1000 → (∀ n ∈ ns, Fine n) →
    Calls Tryz.prog 67 #[.slice A ns.length c] w fun e w' => e = .returned (.int .i64 (sizes (lens ns) : Nat)) ∧ Below w.heap.size w w' :=
  Nds.ind (P := fun ns => ∀ (A : Option Addr) (c : Nat) (w : World), Nodes w w.heap.size A ns → ns.length ≤ 1000 → (∀ n ∈ ns, Fine n) →
    Calls Tryz.prog 67 #[.slice A ns.length c] w fun e w' => e = .returned (.int .i64 (sizes (lens ns) : Nat)) ∧ Below w.heap.size w w') size_step ns
end Go.Proofs.YthkbcpbgoefanaaGreatDoor


namespace Go.Proofs.YthkbcpbgoefanaaGreatDoor
open Go.RowKit

/-- the bytes of the node fit in a frame, and so do those inside -/
inductive FitN : Nd → Prop
  | mk {n : Nd} : n.vlen ≤ 65531 → (∀ k ∈ n.ks, FitN k) → FitN n
theorem FitN.vl {n : Nd} (h : FitN n) : n.vlen ≤ 65531 := by cases h; assumption
theorem FitN.kid {n : Nd} (h : FitN n) : ∀ k ∈ n.ks, FitN k := by cases h; assumption
theorem join2_any (v1 v2 : Value) (p1 p2 : List UInt8) (w : World) (h1 : IsB w w.heap.size v1 p1) (h2 : IsB w w.heap.size v2 p2) (hn : p1.length + p2.length ≤ 10000000) :
    Calls Tryz.prog 57 #[.slice (some ⟨w.heap.size, 0, none⟩) 2 2] (w.alloc (.cells #[v1, v2] 22)) fun e w' =>
      ∃ A' c', e = .returned (.slice A' (p1.length + p2.length) c') ∧ w'.ownsRow w.heap.size 5 1 (.slice A' (p1.length + p2.length) c') (p1.length + p2.length) ((p1 ++ p2).map bv) ∧ Below w.heap.size w w' := by
  have hP := parts2 _ _ _ _ h1 h2
  have ht : tot [p1, p2] = p1.length + p2.length := tot2 p1 p2
  refine (join_any _ 2 _ _ _ hP (by simp [maxLen]) (by rw [ht]; omega)).mono ?_
  rintro e w' ⟨A', c', rfl, hown, hb⟩
  rw [ht] at hown ⊢
  have e3 : [p1, p2].flatten = p1 ++ p2 := by simp
  rw [e3] at hown
  exact ⟨A', c', rfl, own_base hown (by simp), ((Below.refl _ w).alloc (Nat.le_refl _) _).trans (hb.mono (by simp))⟩
theorem own_isB {w : World} {base n c : Nat} {A : Option Addr} {l : List UInt8} (h : w.ownsRow base 5 1 (.slice A n c) n (l.map bv)) : IsB w w.heap.size (.slice A n c) l := by
  have hc := own_cap h
  have hl : n = l.length := by have := hc.1; simpa using this.symm
  subst hl
  exact ⟨A, c, rfl, Lies.own h, hc.2.1, hc.2.2⟩

/-- how join ends -/
def JnR (w : World) (b : List UInt8) (e : Ending) (w' : World) : Prop := ∃ A' c', e = .returned (.slice A' b.length c') ∧ w'.ownsRow w.heap.size 5 1 (.slice A' b.length c') b.length (b.map bv) ∧ Below w.heap.size w w'

set_option maxRecDepth 100000 in
set_option maxHeartbeats 1000000 in
theorem njoin_step (ns : List Nd) (ih : ∀ n ∈ ns, ∀ (A : Option Addr) (c : Nat) (w : World), Nodes w w.heap.size A n.ks → n.ks.length ≤ 1000 → (∀ k ∈ n.ks, Fine k) → (∀ k ∈ n.ks, FitN k) →
      Calls Tryz.prog 105 #[.slice A n.ks.length c] w (JnR w (jn (frs n.ks))))
    (A : Option Addr) (c : Nat) (w : World) (h : Nodes w w.heap.size A ns) (hn : ns.length ≤ 1000) (hf : ∀ n ∈ ns, Fine n) (hg : ∀ n ∈ ns, FitN n) :
    Calls Tryz.prog 105 #[.slice A ns.length c] w (JnR w (jn (frs ns))) := by
  obtain ⟨i0, hi, hz0, hz1, hz2⟩ := info_parts tfrinfo
  have HI := Lib.hid ih
  have HF := Lib.hid hf
  have HG := Lib.hid hg
  clear ih hf hg
  go_enter Tryz.func105, Tryz.ntmps105
  go_wp2_with (at_make; refine wpList_make_full _ rfl (.tmp 9) (.tmp 9) 158 rfl w.heap.size 96 i0 _ 2 Tryz.underlying158 hi hz0 hz1 .i64 .i64 _ _ ns.length rfl rfl rfl rfl (by rw [hz2]; omega) (by unfold maxLen; omega) (Nat.le_refl _) ?_; intro w1 hown hgrow)
  have hb1 : Below w.heap.size w w1 := (Below.refl _ w).grown hgrow (Nat.le_refl _) (by simp)
  have hR : FrRow w1 w.heap.size ns.length 0 (frs ns) [] := ⟨by
    have := own_whole2 hown
    simp only [Value.cells, madeCells_fr] at this
    exact this, rfl, fun i f hi => by omega⟩
  clear hown hgrow
  go_loopw [13] (fun i wr => ∃ (k : Nat) (us : List Value), k ≤ ns.length ∧ i = .int .i64 k ∧ FrRow wr w.heap.size ns.length k (frs ns) us ∧ Below w.heap.size w wr) (fun i _ => ns.length - (intOf i).toNat)
  case atStart => exact ⟨0, [], Nat.zero_le _, rfl, hR, hb1⟩
  case round =>
    obtain ⟨k, us, hk, rfl, hrw, hbel⟩ := hrel
    by_cases hlt : k < ns.length
    · obtain ⟨ad, A', c', K', k', n, rfl, hb, hn', hc0, hc1, hc2, hN⟩ := (h.bel hbel).at_ hlt
      have HN' := Lib.hid (frs_at hn'.out)
      have hmem : n ∈ ns := List.mem_of_getElem? hn'.out
      have hfn := HF.out n hmem
      have hgn := HG.out n hmem
      have hvl := hgn.vl
      have hve := n.vlen_eq
      have hje := jnf_len n.ks
      have hva := n.val_eq
      have hS := fun W (hW : Below wr.heap.size wr W) => HI.out n hmem K' k' W ((hN.kids.bel (hW.mono hbel.size)).more (Nat.le_trans hbel.size hW.size)) hfn.kl hfn.kid hgn.kid
      have hD := fun W (hW : Below wr.heap.size wr W) => IsB.more' (w := W) (B' := W.heap.size) ⟨A', c', rfl, hN.data.below (hW.mono hbel.size), hN.dc, hN.dm⟩ (Nat.le_trans hbel.size hW.size)
      generalize hq : jn (frs n.ks) = q at *
      have hab : n.v.length + q.length ≤ 65531 := by omega
      have HQ := Lib.hid hq
      have HVE := Lib.hid hva
      clear hq hve hje hva
      have hgw := hrw.whole.lt
      have hcell0 := hrw.cell0 hlt
      have hcell1 := hrw.cell1 hlt
      have hfr0 := hrw.whole.frozen (k * 2)
      have hfr1 := hrw.whole.frozen (k * 2 + 1)
      have hne1 : w.heap.size ≠ wr.heap.size := by omega
      have hne2 : wr.heap.size ≠ w.heap.size := by omega
      have b0 : Below wr.heap.size wr (wr.alloc (.cells #[hv n.t, .slice A' n.v.length c', .slice K' n.ks.length k'] 50)) := (Below.refl _ _).alloc (Nat.le_refl _) _
      go_wp2_with fail
      go_region_held3 (fun W => W.cell? ⟨wr.heap.size, 0, none⟩ = some (hv n.t) ∧ W.cell? ⟨wr.heap.size, 1, none⟩ = some (.slice A' n.v.length c') ∧ W.cell? ⟨wr.heap.size, 2, none⟩ = some (.slice K' n.ks.length k')) (go_keep) (first
        | (go_at_call 105; refine (hS _ (by first | exact b0 | exact below_drew b0)).mono ?_; rintro e w2 ⟨A2, c2, rfl, own2, b2⟩; have b2' : Below wr.heap.size wr w2 := (by first | exact b0.trans (b2.mono (by simp)) | exact (below_drew b0).trans (b2.mono (by simp))); have g0 : w2.cell? ⟨wr.heap.size, 0, none⟩ = some (hv n.t) := (b2.cell (p := ⟨wr.heap.size, 0, none⟩) (by simp)).trans (by simp); have g1 : w2.cell? ⟨wr.heap.size, 1, none⟩ = some (.slice A' n.v.length c') := (b2.cell (p := ⟨wr.heap.size, 1, none⟩) (by simp)).trans (by simp); have g2 : w2.cell? ⟨wr.heap.size, 2, none⟩ = some (.slice K' n.ks.length k') := (b2.cell (p := ⟨wr.heap.size, 2, none⟩) (by simp)).trans (by simp); have hsz2 : wr.heap.size + 1 ≤ w2.heap.size := (by have h9 := b2.size; simpa using h9); have hlt3 : wr.heap.size < w2.heap.size := (by omega))
        | (go_at_call 57; refine (join2_any (.slice A' n.v.length c') (.slice A2 q.length c2) n.v q w2 (hD w2 b2') (own_isB own2) (by omega)).mono ?_; rintro e w3 ⟨A3, c3, rfl, own3, b3⟩; have b3' : Below wr.heap.size wr w3 := b2'.trans (b3.mono b2'.size); have k0 : w3.cell? ⟨wr.heap.size, 0, none⟩ = some (hv n.t) := (b3.cell (p := ⟨wr.heap.size, 0, none⟩) hlt3).trans g0; have k1 : w3.cell? ⟨wr.heap.size, 1, none⟩ = some (.slice A' n.v.length c') := (b3.cell (p := ⟨wr.heap.size, 1, none⟩) hlt3).trans g1; have k2 : w3.cell? ⟨wr.heap.size, 2, none⟩ = some (.slice K' n.ks.length k') := (b3.cell (p := ⟨wr.heap.size, 2, none⟩) hlt3).trans g2; have d0 := (b3'.cell (p := ⟨w.heap.size, k * 2, none⟩) hgw).trans hcell0; have d1 := (b3'.cell (p := ⟨w.heap.size, k * 2 + 1, none⟩) hgw).trans hcell1; have d2 := (b3'.frozen (p := ⟨w.heap.size, k * 2, none⟩) hgw).trans hfr0; have d3 := (b3'.frozen (p := ⟨w.heap.size, k * 2 + 1, none⟩) hgw).trans hfr1))
      have HST : Hid (FrRow ((w3.setCell ⟨w.heap.size, k * 2, none⟩ (.int .u16 n.t.toNat)).setCell ⟨w.heap.size, k * 2 + 1, none⟩ (.slice A3 (n.v.length + q.length) c3)) w.heap.size ns.length (k + 1) (frs ns) (us ++ [hv n.t, .slice A3 (n.v.length + q.length) c3])) :=
        hrw.step2 b3' HN'.out hlt (by show IsB _ _ _ n.val; rw [HVE.out]; exact own_isB own3)
      have HBW : Hid (Below w.heap.size w ((w3.setCell ⟨w.heap.size, k * 2, none⟩ (.int .u16 n.t.toNat)).setCell ⟨w.heap.size, k * 2 + 1, none⟩ (.slice A3 (n.v.length + q.length) c3))) :=
        ((hbel.trans (b3'.mono hbel.size)).setCell (Nat.le_refl _) _).setCell (Nat.le_refl _) _
      generalize (w3.setCell ⟨w.heap.size, k * 2, none⟩ (.int .u16 n.t.toNat)).setCell ⟨w.heap.size, k * 2 + 1, none⟩ (.slice A3 (n.v.length + q.length) c3) = W3 at *
      clear hrw
      go_wp2_with fail
      go_roundw
      case rel => exact ⟨k + 1, _, by omega, by go_num, HST.out, HBW.out⟩
      case measure => simp [intOf]; omega
    · obtain rfl : k = ns.length := by omega
      have hF := hrw.frames (frs_len ns)
      have hT := tjoin_any (some ⟨w.heap.size, 0, none⟩) ns.length us (frs ns) wr hF (by rw [frs_len]; omega)
      rw [frs_len] at hT
      have HT := Lib.hid hT
      have HFit : Hid (∀ f ∈ frs ns, Fit f) := fun f hf => by
        rw [frs_map] at hf
        obtain ⟨n, hn2, rfl⟩ := List.mem_map.1 hf
        have := (HG.out n hn2).vl
        show n.val.length ≤ 65531
        rw [val_len]
        exact this
      clear hT hF hrw
      go_wp2_with fail
      refine HT.out.mono ?_
      rintro e w2 ⟨b2, ⟨_, A2, c2, rfl, own2⟩ | ⟨⟨f, hf, hbad⟩, _⟩⟩
      · go_wp2_with fail
        go_ret
        exact ⟨A2, c2, rfl, own_base own2 hbel.size, hbel.trans (b2.mono hbel.size)⟩
      · exact absurd (HFit.out f hf) hbad

theorem njoin_any (ns : List Nd) : ∀ (A : Option Addr) (c : Nat) (w : World), Nodes w w.heap.size A ns → ns.length ≤ 1000 → (∀ n ∈ ns, Fine n) → (∀ n ∈ ns, FitN n) →
    Calls Tryz.prog 105 #[.slice A ns.length c] w (JnR w (jn (frs ns))) :=
  Nds.ind (P := fun ns => ∀ (A : Option Addr) (c : Nat) (w : World), Nodes w w.heap.size A ns → ns.length ≤ 1000 → (∀ n ∈ ns, Fine n) → (∀ n ∈ ns, FitN n) →
    Calls Tryz.prog 105 #[.slice A ns.length c] w (JnR w (jn (frs ns)))) njoin_step ns
end Go.Proofs.YthkbcpbgoefanaaGreatDoor



namespace Go.Proofs.YthkbcpbgoefanaaGreatDoor
open Go.RowKit

def zeroF : Form := ⟨0, 0, ByteArray.empty, 0, 0, 0, 0⟩
/-- the form of a type; the zero form, if it is not known -/
def formOf (c : Int) (t : UInt16) : Form := (look (tab c) t).getD zeroF
theorem ofV_eq (r : Option Form) : ofV r = .tuple #[(r.getD zeroF).val, .bool r.isSome] := by cases r <;> rfl
theorem look_mem {L : List Form} {t : UInt16} {f : Form} (h : look L t = some f) : f ∈ L := List.mem_of_find?_eq_some h
def tameB (f : Form) : Bool := decide ((0 ≤ f.lo ∧ f.lo ≤ 16) ∧ (0 ≤ f.hi ∧ f.hi ≤ 65531) ∧ (1 ≤ f.un ∧ f.un ≤ 8))
theorem tame_of {f : Form} (h : tameB f = true) : Tame f := by
  unfold tameB at h
  obtain ⟨h1, h2, h3⟩ := of_decide_eq_true h
  exact ⟨h1, h2, h3⟩
theorem tame_tab {c : Int} {f : Form} (h : f ∈ tab c) : Tame f := by
  have hp : pT.all tameB = true := by decide
  have hc : cT.all tameB = true := by decide
  unfold tab at h
  split at h
  · exact tame_of (List.all_eq_true.1 hp f h)
  · split at h
    · exact tame_of (List.all_eq_true.1 hc f h)
    · cases h
theorem formOf_some {c : Int} {t : UInt16} {f : Form} (h : look (tab c) t = some f) : formOf c t = f := by unfold formOf; rw [h]; rfl

/-! ### hasInside -/
def addr1 (ks : List Nd) : Bool := match ks with | k :: _ => decide (k.t = 5) || decide (k.t = 6) | [] => false
def insB (ki : Int) (ks : List Nd) : Bool := decide ((ins ki).2.1 ≤ (ks.length : Int)) && decide ((ks.length : Int) ≤ (ins ki).2.2) && (ki != 4 || addr1 ks)
theorem ins_four {ki : Int} (h : ki = 4) : (ins ki).2.1 = 1 := by subst h; rfl
set_option maxRecDepth 100000 in
set_option maxHeartbeats 1000000 in
theorem hasInside_any (f : Form) (K : Option Addr) (k : Nat) (ks : List Nd) (w : World) (h : Nodes w w.heap.size K ks) (hn : ks.length ≤ 10000000) :
    Calls Tryz.prog 153 #[f.val, .slice K ks.length k] w fun e w' => e = .returned (.bool (insB f.ki ks)) ∧ Below w.heap.size w w' := by
  unfold Form.val
  have hI := inside_any f.ki
  have h4 := fun h => ins_four (ki := f.ki) h
  have H1 : Hid (∀ b : Bool, b = (decide ((ins f.ki).2.1 ≤ (ks.length : Int)) && decide ((ks.length : Int) ≤ (ins f.ki).2.2) && (f.ki != 4 || addr1 ks)) → insB f.ki ks = b) := fun b hb => hb.symm
  generalize (ins f.ki).1 = c0 at *
  generalize (ins f.ki).2.1 = lo at *
  generalize (ins f.ki).2.2 = hi at *
  by_cases c1 : (ks.length : Int) < lo
  · have R := Lib.hid (H1.out false (by rw [decide_eq_false (by omega)]; rfl))
    clear h4 H1
    go_enter Tryz.func153, Tryz.ntmps153
    go_wp2_with fail
    refine (hI _).mono ?_
    rintro e w1 ⟨rfl, rfl⟩
    go_wp2_with fail
    go_ret
    exact ⟨ret_bool R.out.symm, (Below.refl _ _).alloc (Nat.le_refl _) _⟩
  have c1' : lo ≤ (ks.length : Int) := by omega
  by_cases c2 : hi < (ks.length : Int)
  · have R := Lib.hid (H1.out false (by rw [decide_eq_false (show ¬ (ks.length : Int) ≤ hi by omega)]; simp))
    clear h4 H1
    go_enter Tryz.func153, Tryz.ntmps153
    go_wp2_with fail
    refine (hI _).mono ?_
    rintro e w1 ⟨rfl, rfl⟩
    go_wp2_with fail
    go_ret
    exact ⟨ret_bool R.out.symm, (Below.refl _ _).alloc (Nat.le_refl _) _⟩
  have c2' : (ks.length : Int) ≤ hi := by omega
  by_cases c3 : f.ki = 4
  · have hlo := h4 c3
    have hk0 : 0 < ks.length := by omega
    obtain ⟨ad, A', c', K', k', n, rfl, hb, hn', hc0, hc1, hc2, hN⟩ := h.at_ hk0
    have HA : Hid (addr1 ks = (decide (n.t = 5) || decide (n.t = 6))) := by
      match ks, hn'.out with
      | x :: ks, hx => simp only [List.getElem?_cons_zero, Option.some.injEq] at hx; subst hx; rfl
    have R := Lib.hid (H1.out (addr1 ks) (by rw [decide_eq_true c1', decide_eq_true c2', c3]; simp))
    have hki : (f.ki != 4) = false := by rw [c3]; rfl
    have hz : ad.add (0 * 3) = ad := by simp [Addr.add]
    rw [hz] at hc0
    have HC3 := Lib.hid c3
    clear h4 H1 hc1 hc2 hlo c3
    by_cases t5 : n.t = 5
    · have hq : ((n.t.toNat : Int) == 5) = true := by rw [t5]; rfl
      have R2 := Lib.hid (show insB f.ki ks = true by rw [R.out, HA.out, decide_eq_true t5]; rfl)
      clear t5 R HA
      go_enter Tryz.func153, Tryz.ntmps153
      go_wp2_with fail
      refine (hI _).mono ?_
      rintro e w1 ⟨rfl, rfl⟩
      go_wp2_with fail
      go_ret
      exact ⟨ret_bool R2.out.symm, (Below.refl _ _).alloc (Nat.le_refl _) _⟩
    · have hq : ((n.t.toNat : Int) == 5) = false := by
        rw [beq_eq_false_iff_ne]
        intro e
        exact t5 (UInt16.toNat_inj.1 (by show n.t.toNat = 5; omega))
      by_cases t6 : n.t = 6
      · have hq6 : ((n.t.toNat : Int) == 6) = true := by rw [t6]; rfl
        have R2 := Lib.hid (show insB f.ki ks = true by rw [R.out, HA.out, decide_eq_true t6]; simp)
        clear t5 t6 R HA
        go_enter Tryz.func153, Tryz.ntmps153
        go_wp2_with fail
        refine (hI _).mono ?_
        rintro e w1 ⟨rfl, rfl⟩
        go_wp2_with fail
        go_ret
        exact ⟨ret_bool R2.out.symm, (Below.refl _ _).alloc (Nat.le_refl _) _⟩
      · have hq6 : ((n.t.toNat : Int) == 6) = false := by
          rw [beq_eq_false_iff_ne]
          intro e
          exact t6 (UInt16.toNat_inj.1 (by show n.t.toNat = 6; omega))
        have R2 := Lib.hid (show insB f.ki ks = false by rw [R.out, HA.out, decide_eq_false t6, decide_eq_false t5]; rfl)
        clear t5 t6 R HA
        go_enter Tryz.func153, Tryz.ntmps153
        go_wp2_with fail
        refine (hI _).mono ?_
        rintro e w1 ⟨rfl, rfl⟩
        go_wp2_with fail
        go_ret
        exact ⟨ret_bool R2.out.symm, (Below.refl _ _).alloc (Nat.le_refl _) _⟩
  · have hki : (f.ki != 4) = true := by simpa using c3
    have R := Lib.hid (H1.out true (by rw [decide_eq_true c1', decide_eq_true c2', hki]; rfl))
    clear h4 H1
    go_enter Tryz.func153, Tryz.ntmps153
    go_wp2_with fail
    refine (hI _).mono ?_
    rintro e w1 ⟨rfl, rfl⟩
    go_wp2_with fail
    go_ret
    exact ⟨ret_bool R.out.symm, (Below.refl _ _).alloc (Nat.le_refl _) _⟩

/-! ### counted -/
def cntB (c : Int) (t : UInt16) (v : List UInt8) : Bool := !(decide (c = 2) && decide (t = 2)) || (decide (4 ≤ v.length) && decide (numOf (v.take 4) = (v.length - 4) / 2))
theorem left4 {w : World} {base g c : Nat} {A : Option Addr} {bs : List UInt8} (h : Rdr w base g A c bs (0 + 4)) (m : Nat) (hm : bs.length = m + 4) :
    Calls Tryz.prog 94 #[.pointer (some ⟨g, 0, none⟩)] w fun e w' => e = .returned (.int .i64 (m : Int)) ∧ ∃ q, w' = w.drewN q := by
  have := left_any h
  rwa [show (bs.length : Int) - ((0 + 4 : Nat) : Int) = (m : Int) by omega] at this
set_option maxRecDepth 100000 in
theorem counted_any (c : Int) (t : UInt16) (A : Option Addr) (cc : Nat) (v : List UInt8) (w : World) (h : Lies w w.heap.size A (v.map bv)) (h1 : v.length ≤ cc) (h2 : cc ≤ maxLen) (hn : v.length ≤ 10000000) :
    Calls Tryz.prog 154 #[.int .i64 c, hv t, .slice A v.length cc] w fun e w' => e = .returned (.bool (cntB c t v)) ∧ Below w.heap.size w w' := by
  by_cases hc : c = 2
  · subst hc
    by_cases ht : t = 2
    · subst ht
      have hN := new_any A cc v w h h1 h2 (by omega)
      by_cases h4 : 4 ≤ v.length
      · obtain ⟨m, hm⟩ : ∃ m, v.length = m + 4 := ⟨v.length - 4, by omega⟩
        have R : Hid (cntB 2 2 v = ((numOf ((v.drop 0).take 4) : Int) == (m : Int) / 2)) := by
          unfold Hid cntB
          have e1 : (v.length - 4) / 2 = m / 2 := by rw [hm]; rfl
          have e2 : ((numOf (v.take 4) : Int) == (m : Int) / 2) = decide (numOf (v.take 4) = m / 2) := by
            by_cases hq : numOf (v.take 4) = m / 2
            · rw [decide_eq_true hq, hq]; simp
            · rw [decide_eq_false hq, beq_eq_false_iff_ne]; omega
          rw [e1, List.drop_zero, e2]
          simp [h4]
        have hm2 : m / 2 ≤ 10000000 := by omega
        have hm3 : (0 : Int) ≤ (m : Int) := by omega
        have hm4 : m ≤ 10000000 := by omega
        have HM := Lib.hid hm
        clear hm
        go_enter Tryz.func154, Tryz.ntmps154
        go_wp2_with fail
        refine hN.mono ?_
        rintro e w1 ⟨g, A2, c2, rfl, hr, b1⟩
        go_wp2_with fail
        refine (cnumber_yes hr 4 rfl (by have := HM.out; omega)).mono ?_
        rintro e w2 ⟨rfl, hr2, hg2⟩
        generalize numOf ((v.drop 0).take 4) = x at *
        go_wp2_with fail
        refine (left4 hr2 m HM.out).mono ?_
        rintro e w3 ⟨rfl, q3, rfl⟩
        go_wp2_with fail
        go_ret
        have hb2 : Below w.heap.size w w2 := b1.grown hg2 b1.size (fun k e => by cases e; exact hr.base_le)
        refine ⟨ret_bool ?_, below_drewN hb2 _⟩
        rw [R.out]
      · have R := Lib.hid (show cntB 2 2 v = false by unfold cntB; simp [h4])
        have HM := Lib.hid h4
        clear h4
        go_enter Tryz.func154, Tryz.ntmps154
        go_wp2_with fail
        refine hN.mono ?_
        rintro e w1 ⟨g, A2, c2, rfl, hr, b1⟩
        go_wp2_with fail
        refine (cnumber_no hr 4 (by rintro ⟨_, h9⟩; have := HM.out; omega)).mono ?_
        rintro e w2 ⟨rfl, q2, rfl⟩
        go_wp2_with fail
        go_ret
        exact ⟨ret_bool R.out.symm, below_drewN b1 _⟩
    · have hq : ((t.toNat : Int) != 2) = true := by
        rw [bne_iff_ne]
        intro e
        exact ht (UInt16.toNat_inj.1 (by show t.toNat = 2; omega))
      have R := Lib.hid (show cntB 2 t v = true by unfold cntB; simp [ht])
      clear ht
      go_enter Tryz.func154, Tryz.ntmps154
      go_wp2_with fail
      go_ret
      exact ⟨ret_bool R.out.symm, Below.refl _ _⟩
  · have hq : (c != 2) = true := by simpa using hc
    have R := Lib.hid (show cntB c t v = true by unfold cntB; simp [hc])
    clear hc
    go_enter Tryz.func154, Tryz.ntmps154
    go_wp2_with fail
    go_ret
    exact ⟨ret_bool R.out.symm, Below.refl _ _⟩
end Go.Proofs.YthkbcpbgoefanaaGreatDoor


