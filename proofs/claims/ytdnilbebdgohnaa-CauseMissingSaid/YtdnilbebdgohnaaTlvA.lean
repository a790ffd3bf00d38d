/- Layer 6, package tlv: length, Same, Put, for whatever frames. They write nothing that was there. -/
import Derived.Deep.RegionHeld3
import Derived.Test.YtdnilbebdgohnaaWireD
import Derived.Test.YtdnilbebdgohnaaPadD



namespace Go.Proofs.Ytdnilbebdgohnaa
open Go.RowKit

/-- a frame: its type and its value -/
structure Fr where
  t : UInt16
  v : List UInt8
def frL (f : Fr) : Nat := 4 + f.v.length
def u32of (n : Nat) : UInt32 := UInt32.ofNat n
def headB (t : UInt16) (n : Nat) : List UInt8 := puts 2 [u32of t.toNat, u32of (4 + n)]
def frB (f : Fr) : List UInt8 := headB f.t f.v.length ++ f.v
theorem length_any (T : Value) (A : Option Addr) (n c : Nat) (w : World) (hn : n ≤ 140737488355328) :
    Calls Try.prog 72 #[.agg #[T, .slice A n c]] w fun e w' => e = .returned (.int .i64 ((4 + n : Nat) : Int)) ∧ Below w.heap.size w w' := by
  go_enter Try.func72, Try.ntmps72
  go_wp2_with fail
  go_ret
  exact ⟨ret_int (by go_num), (Below.refl _ _).alloc (Nat.le_refl _) _⟩

theorem parts2 {w : World} (v1 v2 : Value) (p1 p2 : List UInt8) (h1 : IsB w w.heap.size v1 p1) (h2 : IsB w w.heap.size v2 p2) :
    Parts (w.alloc (.cells #[v1, v2] 25)) (w.alloc (.cells #[v1, v2] 25)).heap.size (some ⟨w.heap.size, 0, none⟩) [v1, v2] [p1, p2] := by
  have hb : Below w.heap.size w (w.alloc (.cells #[v1, v2] 25)) := (Below.refl _ w).alloc (Nat.le_refl _) _
  have hmore : ∀ v p, IsB w w.heap.size v p → IsB (w.alloc (.cells #[v1, v2] 25)) (w.alloc (.cells #[v1, v2] 25)).heap.size v p := by
    rintro v p ⟨A, c, h1, h2, h3, h4⟩
    exact ⟨A, c, h1, (h2.below hb).more hb.size, h3, h4⟩
  refine ⟨(Lies.newN w [v1, v2] _).more (by simp), rfl, fun i p hp => ?_⟩
  match i, hp with
  | 0, hp => simp only [List.getElem?_cons_zero, Option.some.injEq] at hp; subst hp; exact ⟨_, rfl, hmore _ _ h1⟩
  | 1, hp => simp only [List.getElem?_cons_succ, List.getElem?_cons_zero, Option.some.injEq] at hp; subst hp; exact ⟨_, rfl, hmore _ _ h2⟩
  | i + 2, hp => simp at hp
theorem tot2 (p q : List UInt8) : tot [p, q] = p.length + q.length := by simp [tot]

theorem below_drew {B : Nat} {a w : World} (h : Below B a w) : Below B a w.drew := ⟨h.os, h.tape, h.output, h.size, h.block⟩
end Go.Proofs.Ytdnilbebdgohnaa

