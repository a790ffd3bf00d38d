/- NodeA + NodeB + NodeC + NodeD -/
import Derived.Test.YtemeeeiglifpaaaDoorTlvF
import Derived.Test.YtemeeeiglifpaaaDoorShapeC
import Derived.Deep.OwnRows
import Derived.Deep.RegionHeld3


namespace Go.Proofs.YtemeeeiglifpaaaDoor
open Go.RowKit

inductive Nd where
  | mk (t : UInt16) (v : List UInt8) (ks : List Nd)
namespace Nd
def t : Nd → UInt16 | .mk t _ _ => t
def v : Nd → List UInt8 | .mk _ v _ => v
def ks : Nd → List Nd | .mk _ _ ks => ks
end Nd
theorem Nd.eta (n : Nd) : n = .mk n.t n.v n.ks := by cases n; rfl
theorem Nd.ind {P : Nd → Prop} (h : ∀ t v ks, (∀ k ∈ ks, P k) → P (.mk t v ks)) (n : Nd) : P n :=
  Nd.rec (motive_1 := P) (motive_2 := fun ks => ∀ k ∈ ks, P k) (fun t v ks ih => h t v ks ih) (fun k hk => by cases hk)
    (fun a l ha hl k hk => by rcases List.mem_cons.1 hk with rfl | hk; (exact ha); (exact hl k hk)) n
/-- by what lies inside each node of the list -/
theorem Nds.ind {P : List Nd → Prop} (h : ∀ ns, (∀ n ∈ ns, P n.ks) → P ns) (ns : List Nd) : P ns := by
  have h1 : ∀ n : Nd, P n.ks := fun n => Nd.ind (P := fun n => P n.ks) (fun t v ks ih => h ks ih) n
  exact h ns fun n _ => h1 n

/-! ### the bytes -/
mutual
def Nd.val : Nd → List UInt8
  | .mk _ v ks => v ++ jn (frs ks)
def frs : List Nd → List Fr
  | [] => []
  | n :: ns => ⟨n.t, n.val⟩ :: frs ns
end
mutual
def Nd.vlen : Nd → Nat
  | .mk _ v ks => v.length + sizes (lens ks)
def lens : List Nd → List Nat
  | [] => []
  | n :: ns => (4 + n.vlen) :: lens ns
end
def Nd.fr (n : Nd) : Fr := ⟨n.t, n.val⟩
theorem frs_map (ns : List Nd) : frs ns = ns.map Nd.fr := by
  induction ns with
  | nil => rfl
  | cons n ns ih => rw [frs, ih]; rfl
theorem lens_map (ns : List Nd) : lens ns = ns.map fun n => 4 + n.vlen := by
  induction ns with
  | nil => rfl
  | cons n ns ih => rw [lens, ih]; rfl
theorem Nd.val_eq (n : Nd) : n.val = n.v ++ jn (frs n.ks) := by cases n; rw [Nd.val]; rfl
theorem Nd.vlen_eq (n : Nd) : n.vlen = n.v.length + sizes (lens n.ks) := by cases n; rw [Nd.vlen]; rfl
theorem jn_len (fs : List Fr) : (jn fs).length = sizes (fs.map frL) := by
  have h : ∀ k, k ≤ fs.length → (jn (fs.take k)).length = sizes ((fs.map frL).take k) := by
    intro k
    induction k with
    | zero => intro _; simp [jn, sizes]
    | succ k ih =>
      intro hk
      have hf : fs[k]? = some fs[k] := List.getElem?_eq_getElem (by omega)
      have hl : (fs.map frL)[k]? = some (frL fs[k]) := by rw [List.getElem?_map, hf]; rfl
      rw [jn_take hf, sizes_take hl, List.length_append, padB_len, frB_len, ih (by omega)]
  have := h fs.length (Nat.le_refl _)
  rwa [List.take_length, List.take_of_length_le (by simp)] at this
theorem val_len (n : Nd) : n.val.length = n.vlen :=
  Nd.ind (P := fun n => n.val.length = n.vlen) (fun t v ks ih => by
    rw [Nd.val_eq, Nd.vlen_eq, List.length_append, jn_len]
    congr 2
    show ((frs ks).map frL) = lens ks
    rw [frs_map, lens_map, List.map_map]
    refine List.map_congr_left fun k hk => ?_
    simp only [Function.comp, Nd.fr, frL, ih k hk]) n
theorem frs_frL (ns : List Nd) : (frs ns).map frL = lens ns := by
  rw [frs_map, lens_map, List.map_map]
  refine List.map_congr_left fun k hk => ?_
  simp only [Function.comp, Nd.fr, frL, val_len]
theorem jnf_len (ns : List Nd) : (jn (frs ns)).length = sizes (lens ns) := by rw [jn_len, frs_frL]
theorem lens_at {ns : List Nd} {k : Nat} {n : Nd} (h : ns[k]? = some n) : (lens ns)[k]? = some (4 + n.vlen) := by rw [lens_map, List.getElem?_map, h]; rfl
theorem frs_at {ns : List Nd} {k : Nat} {n : Nd} (h : ns[k]? = some n) : (frs ns)[k]? = some n.fr := by rw [frs_map, List.getElem?_map, h]; rfl
theorem lens_len (ns : List Nd) : (lens ns).length = ns.length := by rw [lens_map]; simp
theorem frs_len (ns : List Nd) : (frs ns).length = ns.length := by rw [frs_map]; simp
theorem up_le (n : Nat) : n ≤ up n := by unfold up; omega
theorem sizes_mono {l : List Nat} {k : Nat} : sizes (l.take k) ≤ sizes l := by
  have h : ∀ j, sizes (l.take k) ≤ sizes (l.take (k + j)) := by
    intro j
    induction j with
    | zero => exact Nat.le_refl _
    | succ j ih =>
      rcases Nat.lt_or_ge (k + j) l.length with h1 | h1
      · rw [← Nat.add_assoc, sizes_take (List.getElem?_eq_getElem h1)]
        have := up_le (sizes (l.take (k + j)))
        omega
      · rw [List.take_of_length_le (by omega : l.length ≤ k + (j + 1))]
        rw [List.take_of_length_le h1] at ih
        exact ih
  have := h l.length
  rwa [List.take_of_length_le (by omega : l.length ≤ k + l.length)] at this
theorem sizes_mem {l : List Nat} {x : Nat} (h : x ∈ l) : x ≤ sizes l := by
  obtain ⟨i, hi, rfl⟩ := List.mem_iff_getElem.1 h
  have h1 := sizes_take (List.getElem?_eq_getElem hi)
  have h2 := sizes_mono (l := l) (k := i + 1)
  omega

/-! ### nodes that are small enough to be walked -/
inductive Fine : Nd → Prop
  | mk {n : Nd} : n.vlen ≤ 800000 → n.ks.length ≤ 1000 → (∀ k ∈ n.ks, Fine k) → Fine n
theorem Fine.vl {n : Nd} (h : Fine n) : n.vlen ≤ 800000 := by cases h; assumption
theorem Fine.kl {n : Nd} (h : Fine n) : n.ks.length ≤ 1000 := by cases h; assumption
theorem Fine.kid {n : Nd} (h : Fine n) : ∀ k ∈ n.ks, Fine k := by cases h; assumption

/-! ### in memory -/
inductive Nodes (w : World) (B : Nat) : Option Addr → List Nd → Prop
  | mk {A : Option Addr} {ns : List Nd} (vs : List Value) (K : Nat → Option Addr) (c : Nat → Nat) (lies : Lies w B A vs) (len : vs.length = ns.length * 3)
      (each : ∀ (i : Nat) (n : Nd), ns[i]? = some n → vs[i * 3]? = some (hv n.t) ∧ (∃ d, vs[i * 3 + 1]? = some d ∧ IsB w B d n.v) ∧ vs[i * 3 + 2]? = some (.slice (K i) n.ks.length (c i)) ∧ n.ks.length ≤ c i ∧ c i ≤ maxLen)
      (kids : ∀ (i : Nat) (n : Nd), ns[i]? = some n → Nodes w B (K i) n.ks) : Nodes w B A ns
/-- what the three fields of a node read as -/
structure Node (w : World) (B : Nat) (A : Option Addr) (c : Nat) (K : Option Addr) (k : Nat) (n : Nd) : Prop where
  data : Lies w B A (n.v.map bv)
  dc : n.v.length ≤ c
  dm : c ≤ maxLen
  kids : Nodes w B K n.ks
  kc : n.ks.length ≤ k
  km : k ≤ maxLen
theorem IsB.more' {w : World} {B B' : Nat} {v : Value} {l : List UInt8} (h : IsB w B v l) (hB : B ≤ B') : IsB w B' v l := by
  obtain ⟨A', c', h2, h3, h4⟩ := h
  exact ⟨A', c', h2, h3.more hB, h4⟩
theorem Nodes.nil (w : World) (B : Nat) (A : Option Addr) : Nodes w B A [] := .mk [] (fun _ => none) (fun _ => 0) Lies.nil rfl (fun i n h => by simp at h) (fun i n h => by simp at h)
section
variable {w w' : World} {B B' : Nat} {A : Option Addr} {ns : List Nd}
theorem Nodes.keep (h : Nodes w B A ns) (hk : ∀ p : Addr, p.block < B → w'.cell? p = w.cell? p) : Nodes w' B A ns := by
  induction h with
  | mk vs K c lies len each kids ih =>
    refine .mk vs K c (lies.keep hk) len (fun i n hn => ?_) ih
    obtain ⟨h1, ⟨d, h2, A2, c2, h3, h4, h5⟩, h6⟩ := each i n hn
    exact ⟨h1, ⟨d, h2, A2, c2, h3, h4.keep hk, h5⟩, h6⟩
theorem Nodes.more (h : Nodes w B A ns) (hB : B ≤ B') : Nodes w B' A ns := by
  induction h with
  | mk vs K c lies len each kids ih =>
    refine .mk vs K c (lies.more hB) len (fun i n hn => ?_) ih
    obtain ⟨h1, ⟨d, h2, h3⟩, h6⟩ := each i n hn
    exact ⟨h1, ⟨d, h2, h3.more' hB⟩, h6⟩
theorem Nodes.bel (h : Nodes w B A ns) (hb : Below B w w') : Nodes w' B A ns := h.keep fun _ hp => hb.cell hp
theorem Nodes.on (h : Nodes w w.heap.size A ns) (hb : Below w.heap.size w w') : Nodes w' w'.heap.size A ns := (h.bel hb).more hb.size
theorem Nodes.drewN (h : Nodes w B A ns) (q : Nat) : Nodes (w.drewN q) B A ns := h.keep fun _ _ => rfl
theorem Nodes.kid (h : Nodes w B A ns) {k : Nat} {n : Nd} (hn : ns[k]? = some n) : ∃ K, Nodes w B K n.ks := by
  cases h with
  | mk vs K c lies len each kids => exact ⟨K k, kids k n hn⟩
theorem Nodes.at_ (h : Nodes w B A ns) {k : Nat} (hk : k < ns.length) :
    ∃ ad A' c' K' k' n, A = some ad ∧ ad.block < B ∧ Hid (ns[k]? = some n) ∧ w.cell? (ad.add (k * 3)) = some (hv n.t) ∧ w.cell? ⟨(ad.add (k * 3)).block, (ad.add (k * 3)).off + 1, none⟩ = some (.slice A' n.v.length c') ∧
      w.cell? ⟨(ad.add (k * 3)).block, (ad.add (k * 3)).off + 2, none⟩ = some (.slice K' n.ks.length k') ∧ Node w B A' c' K' k' n := by
  cases h with
  | mk vs K c lies len each kids =>
    obtain ⟨h1, ⟨d, h2, A2, c2, rfl, h4, h5, h6⟩, h7, h8, h9⟩ := each k _ (List.getElem?_eq_getElem hk)
    obtain ⟨ad, ha, hb, hc⟩ := lies (fun e => by rw [e] at len; simp at len; omega)
    exact ⟨ad, A2, c2, K k, c k, ns[k], ha, hb, List.getElem?_eq_getElem hk, hc _ _ h1, by have h10 := hc _ _ h2; rw [← add_add'] at h10; exact h10,
      by have h10 := hc _ _ h7; rw [← add_add'] at h10; exact h10, ⟨h4, h5, h6, kids k _ (List.getElem?_eq_getElem hk), h8, h9⟩⟩
/-- a piece of the list -/
theorem Nodes.one (h : Nodes w B A ns) {k : Nat} {n : Nd} (hn : ns[k]? = some n) : ∃ ad A' c' K' k', A = some ad ∧ ad.block < B ∧ Node w B A' c' K' k' n ∧ Nodes w B (some (ad.add (k * 3))) [n] := by
  have hk := (List.getElem?_eq_some_iff.1 hn).1
  obtain ⟨ad, A', c', K', k', n', ha, hb, hn', h0, h1, h2, hN⟩ := h.at_ hk
  obtain rfl : n' = n := by have := hn'.out; rw [hn] at this; cases this; rfl
  refine ⟨ad, A', c', K', k', ha, hb, hN, .mk [hv n'.t, .slice A' n'.v.length c', .slice K' n'.ks.length k'] (fun _ => K') (fun _ => k') (fun _ => ⟨_, rfl, by rw [blk_add]; exact hb, fun j u hu => ?_⟩) rfl (fun i n hn => ?_) (fun i n hn => ?_)⟩
  · match j, hu with
    | 0, hu => simp only [List.getElem?_cons_zero, Option.some.injEq] at hu; subst hu; simpa [Addr.add] using h0
    | 1, hu => simp only [List.getElem?_cons_succ, List.getElem?_cons_zero, Option.some.injEq] at hu; subst hu; exact h1
    | 2, hu => simp only [List.getElem?_cons_succ, List.getElem?_cons_zero, Option.some.injEq] at hu; subst hu; exact h2
    | j + 3, hu => simp at hu
  · match i, hn with
    | 0, hn => simp only [List.getElem?_cons_zero, Option.some.injEq] at hn; subst hn; exact ⟨rfl, ⟨_, rfl, A', c', rfl, hN.data, hN.dc, hN.dm⟩, rfl, hN.kc, hN.km⟩
    | i + 1, hn => simp at hn
  · match i, hn with
    | 0, hn => simp only [List.getElem?_cons_zero, Option.some.injEq] at hn; subst hn; exact hN.kids
    | i + 1, hn => simp at hn
end
section
variable {w w' : World} {B B' : Nat} {A K : Option Addr} {c k : Nat} {n : Nd}
theorem Node.keep (h : Node w B A c K k n) (hk : ∀ p : Addr, p.block < B → w'.cell? p = w.cell? p) : Node w' B A c K k n := ⟨h.data.keep hk, h.dc, h.dm, h.kids.keep hk, h.kc, h.km⟩
theorem Node.more (h : Node w B A c K k n) (hB : B ≤ B') : Node w B' A c K k n := ⟨h.data.more hB, h.dc, h.dm, h.kids.more hB, h.kc, h.km⟩
theorem Node.below (h : Node w B A c K k n) (hb : Below B w w') : Node w' B A c K k n := h.keep fun _ hp => hb.cell hp
theorem Node.on (h : Node w w.heap.size A c K k n) (hb : Below w.heap.size w w') : Node w' w'.heap.size A c K k n := (h.below hb).more hb.size
theorem Node.drewN (h : Node w B A c K k n) (q : Nat) : Node (w.drewN q) B A c K k n := h.keep fun _ _ => rfl
/-- the value of a node -/
abbrev ndV (n : Nd) (A : Option Addr) (c : Nat) (K : Option Addr) (k : Nat) : Value := .agg #[hv n.t, .slice A n.v.length c, .slice K n.ks.length k]
/-- a node that is laid in memory as a list of its own -/
theorem Node.list1 (h : Node w w.heap.size A c K k n) (t : TypeId) :
    Nodes (w.alloc (.cells #[hv n.t, .slice A n.v.length c, .slice K n.ks.length k] t)) (w.heap.size + 1) (some ⟨w.heap.size, 0, none⟩) [n] := by
  have hb : Below w.heap.size w (w.alloc (.cells #[hv n.t, .slice A n.v.length c, .slice K n.ks.length k] t)) := (Below.refl _ w).alloc (Nat.le_refl _) _
  have h2 := (h.below hb).more (Nat.le_add_right _ 1)
  refine .mk [hv n.t, .slice A n.v.length c, .slice K n.ks.length k] (fun _ => K) (fun _ => k) (Lies.newN w [hv n.t, .slice A n.v.length c, .slice K n.ks.length k] t) rfl (fun i m hm => ?_) (fun i m hm => ?_)
  · match i, hm with
    | 0, hm => simp only [List.getElem?_cons_zero, Option.some.injEq] at hm; subst hm; exact ⟨rfl, ⟨_, rfl, A, c, rfl, h2.data, h2.dc, h2.dm⟩, rfl, h2.kc, h2.km⟩
    | i + 1, hm => simp at hm
  · match i, hm with
    | 0, hm => simp only [List.getElem?_cons_zero, Option.some.injEq] at hm; subst hm; exact h2.kids
    | i + 1, hm => simp at hm
end
end Go.Proofs.YtemeeeiglifpaaaDoor


namespace Go.Proofs.YtemeeeiglifpaaaDoor
open Go.RowKit

/-- the bytes of the node fit in a frame, and so do those inside -/
inductive FitN : Nd → Prop
  | mk {n : Nd} : n.vlen ≤ 65531 → (∀ k ∈ n.ks, FitN k) → FitN n
theorem FitN.vl {n : Nd} (h : FitN n) : n.vlen ≤ 65531 := by cases h; assumption
theorem FitN.kid {n : Nd} (h : FitN n) : ∀ k ∈ n.ks, FitN k := by cases h; assumption
end Go.Proofs.YtemeeeiglifpaaaDoor

