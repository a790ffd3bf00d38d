/- Head + NodeX -/
import Derived.Test.YtgjmgphmakiffaaGreatDoorQTC
import Derived.Test.YtgjmgphmakiffaaGreatDoorQTA

namespace Go.Proofs.YtgjmgphmakiffaaGreatDoor
open Go.RowKit

/-- append at a step of a region that draws, the new length under a name -/
theorem step_append_to {P : Program} {w : World} {ops : Array Oper} {o : Oper} {a : Act} {K : Act → World → Prop} {Q : Exit → Act → World → Prop} {E : Prop} (hgd : o.guard = none) (s x : Operand) (t : TypeId)
    (ho : o.op = .call { callee := .builtin .append, args := #[s, x], argTypes := #[t, t] })
    (base : Nat) (e : TypeId) (z : Value) (bytes : Nat) (ht : P.underlying t = some (.slice e)) (hi : (P.info? e).map (fun i => (i.zero, i.size, i.bytes)) = some (some z, 1, bytes))
    (hzs : z.cells.size = 1) (v : Value) (n : Nat) (xs : List Value) (hs : a.eval s = v) (hown : w.ownsRow base e 1 v n xs)
    (B : Nat) (A : Option Addr) (m c : Nat) (news : List Value) (hx : a.eval x = .slice A m c) (hm : news.length = m) (hl : Lies w B A news) (h1 : ∀ u ∈ news, u.oneCell' = true)
    (L : Nat) (hL : n + m = L) (hbytes : L * bytes ≤ 140737488355328) (h63 : L ≤ maxLen) (hbase : base ≤ w.heap.size)
    (h : ∀ A' c' w', w'.ownsRow base e 1 (.slice A' L c') L (xs ++ news) → w.grownBy w' v.ownBlock → K (a.put o.dst (.slice A' L c')) w') :
    if Region.wanted o (yielded ops a.tmps) = true then Oper.wp P o a w K Q else E := by
  have hw : Region.wanted o (yielded ops a.tmps) = true := by simp [Region.wanted, hgd]
  rw [if_pos hw]
  subst hL
  exact wp_append_lies w s x t ho base e z bytes ht hi hzs v n xs hs hown B A m c news hx hm hl h1 hbytes h63 hbase fun A' c' w' h2 h3 _ => h A' c' w' h2 h3
end Go.Proofs.YtgjmgphmakiffaaGreatDoor


