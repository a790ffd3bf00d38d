/- Layer 8: Check and Encode, for whatever nodes. They write nothing that was there. -/
import Derived.Test.YtdnilbebdgohnaaNodeE

namespace Go.Proofs.Ytdnilbebdgohnaa
open Go.RowKit

theorem fst0_zero {l : List Nat} (h : fst0 l = 0) : ∀ x ∈ l, x = 0 := by
  unfold fst0 at h
  intro x hx
  cases hf : l.find? (· ≠ 0) with
  | none =>
    rw [List.find?_eq_none] at hf
    simpa using hf x hx
  | some y =>
    rw [hf] at h
    have := List.find?_some hf
    simp at this h
    exact absurd h this
theorem chk_succ (f : Nat) (c : Int) (n : Nd) : chk (f + 1) c n = if fitK c n.t n.v.length = false ∨ insB (formOf c n.t).ki n.ks = false then 7
    else if cntB c n.t n.v = false then 8
    else if fst0 (n.ks.map (chk f (ins (formOf c n.t).ki).1)) ≠ 0 then fst0 (n.ks.map (chk f (ins (formOf c n.t).ki).1))
    else if 65531 < n.vlen then 4 else 0 := rfl
theorem chk_zero {f : Nat} {c : Int} {n : Nd} (h : chk (f + 1) c n = 0) : fitK c n.t n.v.length = true ∧ insB (formOf c n.t).ki n.ks = true ∧ cntB c n.t n.v = true ∧ (∀ k ∈ n.ks, chk f (ins (formOf c n.t).ki).1 k = 0) ∧ n.vlen ≤ 65531 := by
  rw [chk_succ] at h
  split at h
  · cases h
  · rename_i h1
    split at h
    · cases h
    · rename_i h2
      split at h
      · rename_i h3; exact absurd h h3
      · rename_i h3
        split at h
        · cases h
        · rename_i h4
          have h3' : fst0 (n.ks.map (chk f (ins (formOf c n.t).ki).1)) = 0 := by simpa using h3
          refine ⟨?_, ?_, by simpa using h2, fun k hk => fst0_zero h3' _ (List.mem_map.2 ⟨k, hk, rfl⟩), by omega⟩
          · cases hq : fitK c n.t n.v.length with
            | true => rfl
            | false => exact absurd (.inl hq) h1
          · cases hq : insB (formOf c n.t).ki n.ks with
            | true => rfl
            | false => exact absurd (.inr hq) h1
theorem ncheck_any (c : Int) (n : Nd) (A : Option Addr) (cc : Nat) (K : Option Addr) (kk : Nat) (w : World) (hN : Node w w.heap.size A cc K kk n) (hf : Fine n) :
    Calls Try.prog 45 #[.int .i64 c, ndV n A cc K kk] w fun e w' => e = .returned (codeE (chk 4 c n)) ∧ Below w.heap.size w w' := by
  have b0 : Below w.heap.size w (w.alloc (.cells #[hv n.t, .slice A n.v.length cc, .slice K n.ks.length kk] 28)) := (Below.refl _ _).alloc (Nat.le_refl _) _
  have h := check_all 4 c n 1 A cc K kk _ rfl (hN.on b0) hf
  simp only [Int.cast_ofNat_Int] at h
  generalize chk 4 c n = x at *
  unfold ndV at h ⊢
  go_enter Try.func45, Try.ntmps45
  go_wp2_with fail
  refine h.mono ?_
  rintro e w1 ⟨rfl, b1⟩
  go_wp2_with fail
  go_ret
  exact ⟨rfl, b0.trans (b1.mono (by simp))⟩

end Go.Proofs.Ytdnilbebdgohnaa

