/- What the bound of the second form gives: how many bytes slices of bytes hold together. -/
import Derived.Test.YtgjedidpimncaaaRows
import Derived.Test.YtgjedidpimncaaaParts
namespace Go.Proofs.Ytgjedidpimncaaa
open Go.RowKit Go.ChangeShapes Go.WideShapes Go.ChangeAt

theorem bulk_pos {H : Type} (d : DataW H) : 1 ≤ Rows.uptoBulk d := by
  cases d with
  | lit l => cases l <;> simp [Rows.uptoBulk]
  | nil => simp [Rows.uptoBulk]
  | ptr d => simp [Rows.uptoBulk]
  | slice elems spare => simp [Rows.uptoBulk]
  | agg parts => simp [Rows.uptoBulk]
  | iface t d => simp [Rows.uptoBulk]
  | map entries => simp [Rows.uptoBulk]
  | held h => simp [Rows.uptoBulk]
theorem bulk_len {H : Type} (l : List (DataW H)) : l.length ≤ Rows.uptoBulkAll l := by
  induction l with
  | nil => simp [Rows.uptoBulkAll]
  | cons x r ih =>
    have := bulk_pos x
    simp only [Rows.uptoBulkAll, List.length_cons]
    omega
theorem bulk_row {H : Type} (l r : List (DataW H)) : l.length ≤ Rows.uptoBulk (.slice l r) := by
  have := bulk_len l
  simp only [Rows.uptoBulk]
  omega
theorem bulk_tot {H : Type} : ∀ (ps : List (List UInt8)) (ds : List (DataW H)), ps.length = ds.length → (∀ (i : Nat) (p : List UInt8) (d : DataW H), ps[i]? = some p → ds[i]? = some d → p.length ≤ Rows.uptoBulk d) → tot ps ≤ Rows.uptoBulkAll ds
  | [], ds, _, _ => by simp [tot]
  | p :: ps, [], h, _ => by simp at h
  | p :: ps, d :: ds, h, e => by
    have h1 := bulk_tot ps ds (by simpa using h) fun i q x h1 h2 => e (i + 1) q x (by simpa using h1) (by simpa using h2)
    have h2 := e 0 p d rfl rfl
    have h3 : tot (p :: ps) = p.length + tot ps := by simp [tot]
    simp only [Rows.uptoBulkAll]
    omega
theorem open_parts_bulk {H : Type} {enc : TypeId × Value → H} {w : World} {fuel : Nat} {x : DataW H × List MemPlace} {A : Option Addr} {len cap N : Nat}
    (h : DataW.trod enc Try.prog w 0 (fun _ => true) true fuel 22 [.slice A len cap] = some x) (hk : Rows.uptoBulk x.1 ≤ N) :
    ∃ (vs : List Value) (ps : List (List UInt8)), len = ps.length ∧ Parts w w.heap.size A vs ps ∧ len ≤ cap ∧ cap ≤ maxLen ∧ tot ps ≤ N := by
  rcases Go.Deep.open_slice1 Try.underlying22 (by kernel_rfl) h with ⟨hcs, _⟩ | ⟨ad, l, c, m, n, V, D, Pl, hcs, _, hl, hm, hmm, hx, hi⟩
  · simp only [List.cons.injEq, Value.slice.injEq, and_true] at hcs
    obtain ⟨rfl, rfl, rfl⟩ := hcs
    exact ⟨[], [], rfl, ⟨Lies.nil, rfl, fun i p hp => by simp at hp⟩, Nat.le_refl _, Nat.zero_le _, by simp [tot]⟩
  · simp only [List.cons.injEq, Value.slice.injEq, and_true] at hcs
    obtain ⟨rfl, rfl, rfl⟩ := hcs
    simp only [if_true] at hmm
    subst hmm
    have each : ∀ i, i < len → ∃ p : List UInt8, IsB w w.heap.size (V i) p ∧ p.length ≤ Rows.uptoBulk (D i) := by
      intro i hil
      obtain ⟨hv, hd⟩ := hi i (by omega)
      obtain ⟨A', l', c', e'⟩ := slice_of_trod Try.underlying24 hd
      rw [e'] at hd
      obtain ⟨p, rfl, g2, g3, g4⟩ := open_bytes Try.underlying24 Try.underlying5 (by kernel_rfl) hd
      refine ⟨p, ⟨A', c', e', g2, g3, g4⟩, ?_⟩
      rcases Go.Deep.open_slice1 Try.underlying24 (by kernel_rfl) hd with ⟨hcs, _⟩ | ⟨ad2, l2, c2, m2, n2, V2, D2, Pl2, hcs, _, _, _, _, hx2, _⟩
      · simp only [List.cons.injEq, Value.slice.injEq, and_true] at hcs
        omega
      · simp only [List.cons.injEq, Value.slice.injEq, and_true] at hcs
        obtain ⟨_, e2, _⟩ := hcs
        have e3 := congrArg Prod.fst hx2
        simp only at e3
        rw [e3]
        have := bulk_row ((List.range l2).map D2) ((List.range (m2 - l2)).map fun j => D2 (l2 + j))
        simp only [List.length_map, List.length_range] at this
        omega
    obtain ⟨ps, p1, p2⟩ := build_list len each
    have hb : ∀ i, i < len → ad.block < w.heap.size := fun i hil => by
      have := World.block_lt_of_cell? w _ (hi i (by omega)).1
      rwa [blk_add] at this
    refine ⟨(List.range len).map V, ps, p1.symm, ⟨fun hne => ?_, by simp [p1], fun i p hp => ?_⟩, hl, hm, ?_⟩
    · have h0 : 0 < len := by
        rcases Nat.eq_zero_or_pos len with h0 | h0
        · exact absurd (by simp [h0]) hne
        · exact h0
      refine ⟨ad, rfl, hb 0 h0, fun j u hu => ?_⟩
      rw [List.getElem?_map] at hu
      obtain ⟨k, hk1, hk2⟩ := Option.map_eq_some_iff.1 hu
      obtain ⟨hj, e⟩ := List.getElem?_eq_some_iff.1 hk1
      simp only [List.length_range] at hj
      simp only [List.getElem_range] at e
      subst e
      rw [← hk2]
      exact (hi j (by omega)).1
    · have hil : i < len := by rw [← p1]; exact (List.getElem?_eq_some_iff.1 hp).1
      exact ⟨V i, by simp [hil], (p2 i p hp).1⟩
    · rw [hx] at hk
      simp only [Rows.uptoBulk] at hk
      have := bulk_tot ps ((List.range len).map D) (by simp [p1]) fun i p d hp hd => by
        have hil : i < len := by rw [← p1]; exact (List.getElem?_eq_some_iff.1 hp).1
        have e : D i = d := by simpa [hil] using hd
        rw [← e]
        exact (p2 i p hp).2
      omega
end Go.Proofs.Ytgjedidpimncaaa
