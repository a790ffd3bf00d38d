/- The four bytes ahead of a frame's value, as the references lay them. No condition of its own. -/
import Derived.Test.YtofpckmanihknaaDoorTlvM
namespace Go.Proofs.YtofpckmanihknaaDoor
open Go.RowKit

theorem byte_val {x : Nat} {i : Int} (h : i = ((x % 256 : Nat) : Int)) : Value.int .u8 i = bv (UInt8.ofNat x) := by
  rw [bv, UInt8.toNat_ofNat', h]
theorem headB_list (t : UInt16) (n : Nat) (hn : n ≤ 65531) : headB t n = [UInt8.ofNat (t.toNat / 256), UInt8.ofNat t.toNat, UInt8.ofNat ((4 + n) / 256), UInt8.ofNat (4 + n)] := by
  have ht := t.toNat_lt
  have e1 : (u32of t.toNat).toNat = t.toNat := u32of_toNat (by omega)
  have e2 : (u32of (4 + n)).toNat = 4 + n := u32of_toNat (by omega)
  rw [headB_eq]
  simp [be, List.range, List.range.loop, beByte, e1, e2]
theorem head_vals (t : UInt16) (n : Nat) (hn : n ≤ 65531) : [Value.int .u8 (IntKind.u8.wrap ((t.toNat : Int) / 256)), .int .u8 (IntKind.u8.wrap (t.toNat : Int)),
    .int .u8 (IntKind.u8.wrap (IntKind.i64.wrap (Int.tdiv (4 + (n : Int)) 256))), .int .u8 (IntKind.u8.wrap (Int.tmod (4 + (n : Int)) 256))] = (headB t n).map bv := by
  have d1 : Int.tdiv (4 + (n : Int)) 256 = (((4 + n) / 256 : Nat) : Int) := by rw [Int.tdiv_eq_ediv_of_nonneg (by omega)]; omega
  have d2 : Int.tmod (4 + (n : Int)) 256 = (((4 + n) % 256 : Nat) : Int) := by rw [Int.tmod_eq_emod_of_nonneg (by omega)]; omega
  have v1 : IntKind.u8.wrap ((t.toNat : Int) / 256) = ((t.toNat / 256 % 256 : Nat) : Int) := by rw [IntKind.wrap_u8]; omega
  have v2 : IntKind.u8.wrap (t.toNat : Int) = ((t.toNat % 256 : Nat) : Int) := by rw [IntKind.wrap_u8]; omega
  have v3 : IntKind.u8.wrap (IntKind.i64.wrap (Int.tdiv (4 + (n : Int)) 256)) = (((4 + n) / 256 % 256 : Nat) : Int) := by
    have hq : (4 + n) / 256 ≤ 256 := by omega
    rw [d1]
    clear d1 d2 v1 v2
    generalize (4 + n) / 256 = q at *
    have hw : IntKind.i64.wrap (q : Int) = (q : Int) := by rw [IntKind.wrap_i64]; omega
    rw [hw, IntKind.wrap_u8]
    omega
  have v4 : IntKind.u8.wrap (Int.tmod (4 + (n : Int)) 256) = (((4 + n) % 256 : Nat) : Int) := by rw [d2, IntKind.wrap_u8]; omega
  rw [headB_list t n hn, byte_val v1, byte_val v2, byte_val v3, byte_val v4]
  rfl
/-- append at a step of a region that draws, the new length under a name -/
theorem step_append_to {P : Program} {w : World} {ops : Array Oper} {o : Oper} {a : Act} {K : Act → World → Prop} {Q : Exit → Act → World → Prop} {E : Prop} (hgd : o.guard = none) (s x : Operand) (t : TypeId)
    (ho : o.op = .call { callee := .builtin .append, args := #[s, x], argTypes := #[t, t] })
    (base : Nat) (e : TypeId) (z : Value) (bytes : Nat) (ht : P.underlying t = some (.slice e)) (hi : (P.info? e).map (fun i => (i.zero, i.size, i.bytes)) = some (some z, 1, bytes))
    (hzs : z.cells.size = 1) (v : Value) (n : Nat) (xs : List Value) (hs : a.eval s = v) (hown : w.ownsRow base e 1 v n xs)
    (B : Nat) (A : Option Addr) (m c : Nat) (news : List Value) (hx : a.eval x = .slice A m c) (hm : news.length = m) (hl : Lies w B A news) (h1 : ∀ u ∈ news, u.oneCell' = true)
    (L : Nat) (hL : n + m = L) (hbytes : L * bytes ≤ 140737488355328) (h63 : L ≤ maxLen) (hbase : base ≤ w.heap.size)
    (h : ∀ A' c' w', w'.ownsRow base e 1 (.slice A' L c') L (xs ++ news) → w.grownBy w' v.ownBlock → K (a.put o.dst (.slice A' L c')) w') :
    if Region.wanted o (yielded ops a.tmps) = true then Oper.wp P o a w K Q else E := by
  have hw : Region.wanted o (yielded ops a.tmps) = true := by simp [Region.wanted, hgd]
  rw [if_pos hw]
  subst hL
  exact wp_append_lies w s x t ho base e z bytes ht hi hzs v n xs hs hown B A m c news hx hm hl h1 hbytes h63 hbase fun A' c' w' h2 h3 _ => h A' c' w' h2 h3
end Go.Proofs.YtofpckmanihknaaDoor
