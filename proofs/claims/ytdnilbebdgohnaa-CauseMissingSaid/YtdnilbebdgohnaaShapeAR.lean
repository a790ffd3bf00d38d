/- Layer 7, the reference: a form of the table is built in one step. -/
import Derived.Test.YtdnilbebdgohnaaShapeB

namespace Go.Proofs.Ytdnilbebdgohnaa
open Go.RowKit

theorem built_rform (c : Int) (ty : Int) (nm : ByteArray) (lo hi un ki : Int) :
    Try.prog.built 66 [(0, .int .i64 c), (1, .int .u16 ty), (2, .string nm), (3, .int .i64 lo), (4, .int .i64 hi), (5, .int .i64 un), (6, .int .i64 ki)] = some #[.int .i64 c, .int .u16 ty, .string nm, .int .i64 lo, .int .i64 hi, .int .i64 un, .int .i64 ki] := by kernel_rfl
theorem wpList_rform {ops : Array Oper} {rest : List Oper} {a : Act} {w : World} {Q : Exit → Act → World → Prop} {dst : Option Nat} {ot : TypeId} {pos : String} {after : Array Edge}
    {c ty : Int} {nm : ByteArray} {lo hi un ki : Int} {x : Operand} (hx : a.eval x = .int .i64 hi)
    (h : wpList Try.prog ops Q rest (a.put dst (.agg #[.int .i64 c, .int .u16 ty, .string nm, .int .i64 lo, .int .i64 hi, .int .i64 un, .int .i64 ki])) w) :
    wpList Try.prog ops Q (⟨dst, .build 66 #[(0, .const (.int .i64 c)), (1, .const (.int .u16 ty)), (2, .const (.string nm)), (3, .const (.int .i64 lo)), (4, x), (5, .const (.int .i64 un)), (6, .const (.int .i64 ki))], ot, pos, after, none⟩ :: rest) a w := by
  have hp : ((#[(0, .const (.int .i64 c)), (1, .const (.int .u16 ty)), (2, .const (.string nm)), (3, .const (.int .i64 lo)), (4, x), (5, .const (.int .i64 un)), (6, .const (.int .i64 ki))] : Array (Nat × Operand)).map fun (i, x) => (i, a.eval x)).toList =
      [(0, .int .i64 c), (1, .int .u16 ty), (2, .string nm), (3, .int .i64 lo), (4, .int .i64 hi), (5, .int .i64 un), (6, .int .i64 ki)] := by
    simp only [List.map_toArray, List.map_cons, List.map_nil, hx]
    rfl
  refine wpList_build rfl 66 _ rfl ?_ ?_
  · rw [hp, built_rform]; rfl
  · rw [hp, built_rform]; exact h



set_option maxRecDepth 100000 in
set_option maxHeartbeats 4000000 in
theorem rtable_any (w : World) : Calls Try.prog 48 #[] w fun e w' => e = .returned (.slice (some ⟨w.heap.size, 0, none⟩) 46 46) ∧ w' = w.alloc (.cells (flat (pT ++ cT)).toArray 66) := by
  go_enter Try.func48, Try.ntmps48
  go_wp2_with (first | (refine wpList_rform rfl ?_) | (refine Go.Great.wpList_buildSliceTo rfl 84 66 46 _ rfl w.heap.size rfl _ rfl Try.underlying84 (flat (pT ++ cT)).toArray (by kernel_rfl) ?_))
  go_ret
  exact ⟨rfl, rfl⟩

end Go.Proofs.Ytdnilbebdgohnaa

