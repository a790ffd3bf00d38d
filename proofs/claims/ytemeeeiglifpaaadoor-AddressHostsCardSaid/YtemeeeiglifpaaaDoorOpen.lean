/- What an argument that came in reads as, over whatever program: slices of bytes, of numbers, of slices of bytes. -/
import Derived.Test.YtemeeeiglifpaaaDoorBase
import Derived.ProofKit
import Derived.OpenShut
import Derived.ShutString
import Derived.ChangeOld
import Derived.Deep.Slices






namespace Go.Proofs.YtemeeeiglifpaaaDoor
open Go.RowKit Go.ChangeShapes Go.WideShapes Go.ChangeAt

theorem wf_u8 {n : Int} (h : (Lit.int .u8 n).wf = true) : 0 ≤ n ∧ n < 256 := by
  have := bounds_u8 h
  omega
theorem wf_u32 {n : Int} (h : (Lit.int .u32 n).wf = true) : 0 ≤ n ∧ n < 4294967296 := by
  have := bounds_u32 h
  omega
theorem wf_u16 {n : Int} (h : (Lit.int .u16 n).wf = true) : 0 ≤ n ∧ n < 65536 := by
  have := bounds_u16 h
  omega
section
variable {H : Type} {enc : TypeId × Value → H} {P : Program} {w : World} {held : Bool} {t e : TypeId} {fuel : Nat} {x : DataW H × List MemPlace} {A : Option Addr} {len cap : Nat}
theorem open_nums {k : IntKind} (ht : P.underlying t = some (.slice e)) (he : P.underlying e = some (.int k)) (hc : P.cellsOf e = 1)
    (h : DataW.trod enc P w 0 (fun _ => true) held fuel t [.slice A len cap] = some x) :
    ∃ zs : List Int, len = zs.length ∧ Lies w w.heap.size A (zs.map (Value.int k)) ∧ len ≤ cap ∧ cap ≤ maxLen ∧ ∀ n ∈ zs, (Lit.int k n).wf = true := by
  rcases open_ints ht he hc h with ⟨hcs, _⟩ | ⟨ad, l, c, zs, hcs, _, hl, hm, hz, _, hcell, hwz⟩
  · simp only [List.cons.injEq, Value.slice.injEq, and_true] at hcs
    obtain ⟨rfl, rfl, rfl⟩ := hcs
    exact ⟨[], rfl, Lies.nil, Nat.le_refl _, Nat.zero_le _, by simp⟩
  · simp only [List.cons.injEq, Value.slice.injEq, and_true] at hcs
    obtain ⟨rfl, rfl, rfl⟩ := hcs
    simp only [if_true] at hz
    refine ⟨zs.take len, by rw [List.length_take]; omega, fun hne => ?_, hl, hm, fun n hn => hwz n (List.mem_of_mem_take hn)⟩
    have h0 : 0 < zs.length := by
      rcases Nat.eq_zero_or_pos zs.length with h0 | h0
      · exact absurd (by rw [List.eq_nil_of_length_eq_zero h0]; simp) hne
      · exact h0
    have hb := World.block_lt_of_cell? w _ (hcell 0 h0)
    rw [blk_add] at hb
    refine ⟨ad, rfl, hb, fun j u hu => ?_⟩
    rw [List.getElem?_map, List.getElem?_take] at hu
    split at hu
    · obtain ⟨n, hn, rfl⟩ := Option.map_eq_some_iff.1 hu
      have hj := (List.getElem?_eq_some_iff.1 hn).1
      rw [hcell j hj]
      simp [hn]
    · simp at hu
theorem open_bytes (ht : P.underlying t = some (.slice e)) (he : P.underlying e = some (.int .u8)) (hc : P.cellsOf e = 1)
    (h : DataW.trod enc P w 0 (fun _ => true) held fuel t [.slice A len cap] = some x) :
    ∃ l : List UInt8, len = l.length ∧ Lies w w.heap.size A (l.map bv) ∧ len ≤ cap ∧ cap ≤ maxLen := by
  obtain ⟨zs, h1, h2, h3, h4, h5⟩ := open_nums ht he hc h
  refine ⟨zs.map fun n => UInt8.ofNat n.toNat, by simpa using h1, ?_, h3, h4⟩
  have : (zs.map fun n => UInt8.ofNat n.toNat).map bv = zs.map (Value.int .u8) := by
    rw [List.map_map]
    refine List.map_congr_left fun n hn => ?_
    have := wf_u8 (h5 n hn)
    simp only [Function.comp, bv, UInt8.toNat_ofNat']
    congr 1
    omega
  rw [this]
  exact h2
theorem open_words (ht : P.underlying t = some (.slice e)) (he : P.underlying e = some (.int .u32)) (hc : P.cellsOf e = 1)
    (h : DataW.trod enc P w 0 (fun _ => true) held fuel t [.slice A len cap] = some x) :
    ∃ l : List UInt32, len = l.length ∧ Lies w w.heap.size A (l.map uv) ∧ len ≤ cap ∧ cap ≤ maxLen := by
  obtain ⟨zs, h1, h2, h3, h4, h5⟩ := open_nums ht he hc h
  refine ⟨zs.map fun n => UInt32.ofNat n.toNat, by simpa using h1, ?_, h3, h4⟩
  have : (zs.map fun n => UInt32.ofNat n.toNat).map uv = zs.map (Value.int .u32) := by
    rw [List.map_map]
    refine List.map_congr_left fun n hn => ?_
    have := wf_u32 (h5 n hn)
    simp only [Function.comp, uv, UInt32.toNat_ofNat']
    congr 1
    omega
  rw [this]
  exact h2
theorem slice_of_trod {n : Nat} {v : Value} (ht : P.underlying t = some (.slice e)) (h : DataW.trod enc P w 0 (fun _ => true) held n t [v] = some x) : ∃ A len cap, v = .slice A len cap := by
  rcases DataW.trod_slice ht h with ⟨h1, _⟩ | ⟨a, len, cap, _, _, _, _, h1, _⟩
  · simp only [List.cons.injEq, and_true] at h1
    exact ⟨_, _, _, h1⟩
  · simp only [List.cons.injEq, and_true] at h1
    exact ⟨_, _, _, h1⟩
/-- What is read of a value stays within the form's reach. -/
def Small {H : Type} (P : Program) (t : TypeId) (d : DataW H) : Prop := ∀ n ∈ DataW.weights P t d, n ≤ reachBytes
theorem mem_weightsAll {ds : List (DataW H)} {d : DataW H} (hd : d ∈ ds) {n : Nat} (hn : n ∈ DataW.weights P e d) : n ∈ DataW.weightsAll P e ds := by
  induction ds with
  | nil => cases hd
  | cons d0 ds ih =>
    simp only [DataW.weightsAll, List.mem_append]
    rcases List.mem_cons.1 hd with rfl | hd
    · exact .inl hn
    · exact .inr (ih hd)
/-- A slice of whatever elements: its cells lie one after the other, and each element's cells read as its type. -/
theorem open_cells {k : Nat} (ht : P.underlying t = some (.slice e)) (hc : P.cellsOf e = k) (hk : 0 < k)
    (h : DataW.trod enc P w 0 (fun _ => true) held fuel t [.slice A len cap] = some x) (hs : Small P t x.1) :
    ∃ (cs : List Value) (n : Nat), cs.length = len * k ∧ Lies w w.heap.size A cs ∧ len ≤ cap ∧ cap ≤ maxLen ∧ cap * P.bytesOf e ≤ reachBytes ∧
      ∀ i, i < len → ∃ y, DataW.trod enc P w 0 (fun _ => true) held n e ((cs.drop (i * k)).take k) = some y ∧ Small P e y.1 := by
  rcases Go.Deep.open_slice ht h with ⟨hcs, _⟩ | ⟨a, l, c, m, n, D, Pl, hcs, _, hl, hm, hmm, hx, hi⟩
  · simp only [List.cons.injEq, Value.slice.injEq, and_true] at hcs
    obtain ⟨rfl, rfl, rfl⟩ := hcs
    exact ⟨[], 0, by simp, Lies.nil, Nat.le_refl _, Nat.zero_le _, by simp, fun i hi => absurd hi (by omega)⟩
  · simp only [List.cons.injEq, Value.slice.injEq, and_true] at hcs
    obtain ⟨rfl, rfl, rfl⟩ := hcs
    simp only [if_true] at hmm
    subst hmm
    rw [hx] at hs
    have hsz : m * P.bytesOf e ≤ reachBytes := by
      refine hs _ ?_
      simp only [DataW.weights, ht, List.length_map, List.length_range]
      rw [Nat.add_sub_cancel' hl]
      exact List.mem_cons_self
    have hsm : ∀ i, i < len → Small P e (D i) := by
      intro i hi n hn
      refine hs n ?_
      simp only [DataW.weights, ht]
      exact List.mem_cons_of_mem _ (List.mem_append.2 (.inl (mem_weightsAll (List.mem_map.2 ⟨i, List.mem_range.2 hi, rfl⟩) hn)))
    have each : ∀ i, i < m → ∃ cs' : List Value, cs'.length = k ∧ (∀ j, j < k → w.cell? (a.add (i * k + j)) = cs'[j]?) ∧ DataW.trod enc P w 0 (fun _ => true) held n e cs' = some (D i, Pl i) := by
      intro i him
      obtain ⟨cs', h1, h2⟩ := hi i him
      rw [hc] at h1
      obtain ⟨_, h3, h4⟩ := World.cells?_some h1
      exact ⟨cs', h3, fun j hj => by rw [← add_add']; exact h4 j hj, h2⟩
    have build : ∀ d, d ≤ m → ∃ cs : List Value, cs.length = d * k ∧ (∀ j u, cs[j]? = some u → w.cell? (a.add j) = some u) ∧
        ∀ i, i < d → DataW.trod enc P w 0 (fun _ => true) held n e ((cs.drop (i * k)).take k) = some (D i, Pl i) := by
      intro d
      induction d with
      | zero => exact fun _ => ⟨[], by simp, fun j u hu => by simp at hu, fun i hi => absurd hi (by omega)⟩
      | succ d ih =>
        intro hd
        obtain ⟨cs, g1, g2, g3⟩ := ih (by omega)
        obtain ⟨cs', e1, e2, e3⟩ := each d (by omega)
        refine ⟨cs ++ cs', by rw [List.length_append, g1, e1, Nat.add_mul, Nat.one_mul], fun j u hu => ?_, fun i hi => ?_⟩
        · rcases Nat.lt_or_ge j cs.length with hj | hj
          · exact g2 j u (by rw [← hu, List.getElem?_append_left hj])
          · rw [List.getElem?_append_right hj] at hu
            have hj2 : j - cs.length < k := by rw [← e1]; exact (List.getElem?_eq_some_iff.1 hu).1
            have := e2 (j - cs.length) hj2
            rw [hu, ← g1, Nat.add_sub_cancel' hj] at this
            exact this
        · rcases Nat.lt_or_ge i d with hlt | hge
          · have h5 := Nat.mul_le_mul_right k (show i + 1 ≤ d by omega)
            rw [Nat.add_mul, Nat.one_mul] at h5
            rw [List.drop_append_of_le_length (by omega), List.take_append_of_le_length (by rw [List.length_drop]; omega)]
            exact g3 i hlt
          · obtain rfl : i = d := by omega
            rw [← g1, List.drop_left, ← e1, List.take_length]
            exact e3
    obtain ⟨cs, g1, g2, g3⟩ := build m (Nat.le_refl _)
    refine ⟨cs.take (len * k), n, by rw [List.length_take, g1]; have := Nat.mul_le_mul_right k hl; omega, fun hne => ?_, hl, hm, hsz, fun i hil => ⟨(D i, Pl i), ?_, hsm i hil⟩⟩
    · have h0 : 0 < cs.length := by
        rcases Nat.eq_zero_or_pos cs.length with h0 | h0
        · exact absurd (by rw [List.eq_nil_of_length_eq_zero h0]; simp) hne
        · exact h0
      have hb := World.block_lt_of_cell? w _ (g2 0 _ (List.getElem?_eq_getElem h0))
      rw [blk_add] at hb
      refine ⟨a, rfl, hb, fun j u hu => g2 j u ?_⟩
      rw [List.getElem?_take] at hu
      split at hu
      · exact hu
      · cases hu
    · have h5 := Nat.mul_le_mul_right k (show i + 1 ≤ len by omega)
      rw [Nat.add_mul, Nat.one_mul] at h5
      rw [List.drop_take, List.take_take, Nat.min_eq_left (by omega)]
      exact g3 i (by omega)
/-- a list built element by element -/
theorem build_list {α : Type} {R : Nat → α → Prop} (n : Nat) (h : ∀ i, i < n → ∃ x, R i x) : ∃ l : List α, l.length = n ∧ ∀ i x, l[i]? = some x → R i x := by
  induction n with
  | zero => exact ⟨[], rfl, fun i x hx => by simp at hx⟩
  | succ n ih =>
    obtain ⟨l, h1, h2⟩ := ih fun i hi => h i (by omega)
    obtain ⟨x, hx⟩ := h n (by omega)
    refine ⟨l ++ [x], by simp [h1], fun i y hy => ?_⟩
    rcases Nat.lt_or_ge i l.length with hi | hi
    · exact h2 i y (by rw [← hy, List.getElem?_append_left hi])
    · rw [List.getElem?_append_right hi] at hy
      have h0 : i - l.length = 0 := by
        have := (List.getElem?_eq_some_iff.1 hy).1
        simp at this
        omega
      rw [h0] at hy
      simp only [List.getElem?_cons_zero, Option.some.injEq] at hy
      subst hy
      have : i = n := by omega
      subst this
      exact hx
end
end Go.Proofs.YtemeeeiglifpaaaDoor

