/- Layer 3, package pad and its reference: Bytes, for whatever bytes: what is handed back is a new row. -/
import Derived.Laws.CopyOwn
import Derived.Test.YtdnilbebdgohnaaPadB


namespace Go.Proofs.Ytdnilbebdgohnaa
open Go.RowKit

/-- a row that fills its block -/
theorem own_whole {w : World} {base e g n : Nat} {xs : List Value} (h : w.ownsRow base e 1 (.slice (some ⟨g, 0, none⟩) n n) n xs) : Whole w g e xs.toArray ∧ base ≤ g := by
  rcases h.2 with ⟨h1, _⟩ | ⟨g', cap, cur, h1, h2, h3, _, _, h6, h7⟩
  · simp at h1
  · simp only [Value.slice.injEq, Option.some.injEq, Addr.mk.injEq, and_true, true_and] at h1
    obtain ⟨rfl, rfl⟩ := h1
    rw [List.take_of_length_le (by simp; omega)] at h7
    subst h7
    exact ⟨h3, h2⟩
def padB (b : List UInt8) : List UInt8 := b ++ List.replicate (gap b.length) 0
end Go.Proofs.Ytdnilbebdgohnaa

