/- Layer 13: what an argument that is a description reads as. No condition of its own. -/
/- Layer 13: slices.Chunk of bytes, as an iterator whose rounds may stop it. It writes nothing that was there. -/
import Derived.Test.YtmohbkniekeafaaGreatDoorTNS
import Derived.Test.YtmohbkniekeafaaGreatDoorTA
import Derived.Test.YtmohbkniekeafaaGreatDoorTNodeUO
import Derived.Test.YtmohbkniekeafaaGreatDoorTChunkX
import Derived.Test.YtmohbkniekeafaaGreatDoorTDA
import Derived.ProofKit
import Derived.OpenShut
import Derived.LaidMore
import Derived.LaidHandle
import Derived.Lay
import Derived.Stop.Joined
import Derived.Test.YtmohbkniekeafaaGreatDoorTDataF
import Derived.Laws.BytesArg
import Derived.Test.YtmohbkniekeafaaGreatDoorTNF
import Derived.Deep.RegionHeld3
import Derived.Deep.Cut
import Derived.Test.YtmohbkniekeafaaGreatDoorTTA
import Derived.Test.YtmohbkniekeafaaGreatDoorTTC
import Derived.Test.YtmohbkniekeafaaGreatDoorTNW
import Derived.Test.YtmohbkniekeafaaGreatDoorTEL
import Derived.WalkMore











namespace Go.Proofs.YtmohbkniekeafaaGreatDoor
open Go.ChangeShapes Go.WideShapes Go.ChangeAt Go.RowKit

theorem uv_of13 {z : Int} (h : 0 ≤ z ∧ z < 4294967296) : Value.int .u32 z = uv (UInt32.ofNat z.toNat) := by
  rw [uv, UInt32.toNat_ofNat']
  congr 1
  omega
section
variable {H : Type} {enc : TypeId × Value → H} {w : World} {fuel : Nat} {x : DataW H × List MemPlace}
end
section
variable {H : Type} {enc : TypeId × Value → H} {w : World} {base : Nat} {v : Value} {d : DataW H} {p : List MemPlace}
end
end Go.Proofs.YtmohbkniekeafaaGreatDoor








namespace Go.Proofs.YtmohbkniekeafaaGreatDoor
open Go.RowKit Go.Shelf

attribute [local go_sem] Oper.semAt_some
set_option linter.unusedSimpArgs false
theorem schunk_in (n : Nat) (A : Option Addr) (m c : Nat) (k : Int) (hk : 1 ≤ k) (w : World) :
    CallsIn Fence.wide n Tryz.prog 71 #[.slice A m c, .int .i64 k] w fun e w' => e = .returned (.func (.func 125) #[] #[.pointer (some ⟨w.heap.size, 0, none⟩), .pointer (some ⟨w.heap.size + 1, 0, none⟩)]) ∧
      w' = (w.alloc (.cells #[.slice A m c] 41)).alloc (.cells #[.int .i64 k] 3) := by
  have x1 := Boxed.new (w.alloc (.cells #[.slice A m c] 41)) 3 (.int .i64 k)
  rw [World.size_alloc] at x1
  have c1 := x1.cell
  have hk1 : ¬ k < 1 := by omega
  refine callsIn_of_wp Tryz.func71 rfl trivial ?_ rfl
  simp only [Tryz.ntmps71, List.size_toArray, List.length_cons, List.length_nil, Nat.reduceAdd, Nat.reduceSub, Array.replicate_succ, Array.replicate_zero, List.push_toArray, List.append_toArray, List.nil_append, List.cons_append]
  gi_wp2_with fail
  go_ret
  exact ⟨rfl, rfl⟩
/-- the element at an offset -/
def encCh (A : Option Addr) (k m : Nat) (x : Nat) : Array Value := #[.slice (A.map (·.add x)) (min k (m - x)) (min k (m - x))]
def RowCh (k m : Nat) (pre : List Nat) (x : Nat) : Prop := x = pre.length * k ∧ x < m
def FinCh (k m : Nat) (xs : List Nat) : Prop := m ≤ xs.length * k
set_option maxRecDepth 100000 in
set_option maxHeartbeats 2000000 in
theorem chunk1_in (n : Nat) (hn : 1 ≤ n) (l Bs Bn n₀ X : Nat) (A : Option Addr) (m c k : Nat) (hk : 1 ≤ k) (hk2 : k ≤ 9223372036854775807) (hc : m ≤ c) (hm : c ≤ maxLen) (hs : m ≤ 10000000) (hA : 0 < m → ∃ ad, A = some ad)
    (G : World → Nat → Prop) (hGo : GOwnN X G) (J : List Nat → World → Prop) (Jx : List Nat × Nat → World → Prop) (hJg : ∀ s A B, J s A → A.grownBy B none → J s B)
    (hY : ∀ pre x W1, J pre W1 → pre.length < m + 1 → RowCh k m pre x → YieldAt Fence.wide (n - 1) Tryz.prog l (encCh A k m x) W1 fun e W' => (e = .returned (.bool true) ∧ J (pre ++ [x]) W' ∧ KpG G n₀ W1 W') ∨ (e = .returned (.bool false) ∧ Jx (pre, x) W'))
    (W : World) (hX : X ≤ W.heap.size) (hBs : Whole W Bs 41 #[.slice A m c]) (gBs : ¬ G W Bs) (hBn : Whole W Bn 3 #[.int .i64 (k : Int)]) (gBn : ¬ G W Bn) (h0 : J [] W) :
    CallsIn Fence.wide n Tryz.prog 125 #[.func (.yield l) #[] #[], .pointer (some ⟨Bs, 0, none⟩), .pointer (some ⟨Bn, 0, none⟩)] W fun e W' => (∃ v, e = .returned v) ∧ ((∃ xs, FinCh k m xs ∧ J xs W') ∨ (∃ p : List Nat × Nat, RowCh k m p.1 p.2 ∧ Jx p W')) := by
  refine callsIn_of_wp Tryz.func125 rfl trivial ?_ rfl
  simp only [Tryz.ntmps125, List.size_toArray, List.length_cons, List.length_nil, Nat.reduceAdd, Nat.reduceSub, Array.replicate_succ, Array.replicate_zero, List.push_toArray, List.append_toArray, List.nil_append, List.cons_append]
  unfold maxLen at hm
  gi_wp2
  gi_loopw [4] (fun at_ wr => ∃ (x : Nat) (ys : List Nat), at_ = .int .i64 (x : Int) ∧ Hid (x = ys.length * k) ∧ ys.length ≤ x ∧ x < m + k ∧ J ys wr ∧ KpG G n₀ W wr) (fun at_ _ => m + k - (intOf at_).toNat)
  case atStart => exact ⟨0, [], rfl, by simp [Hid], Nat.le_refl _, by omega, h0, KpG.refl _ _ _⟩
  case round =>
    obtain ⟨x, ys, rfl, hx, hyx, hxm, hj, hkp⟩ := hrel
    have hWs : Whole wr Bs 41 #[.slice A m c] := hkp.same _ _ _ _ gBs hBs
    have hWn : Whole wr Bn 3 #[.int .i64 (k : Int)] := hkp.same _ _ _ _ gBn hBn
    have cs : wr.cell? ⟨Bs, 0, none⟩ = some (.slice A m c) := by rw [hWs.cell]; rfl
    have cn : wr.cell? ⟨Bn, 0, none⟩ = some (.int .i64 (k : Int)) := by rw [hWn.cell]; rfl
    by_cases ht : x < m
    · have h1 : (x : Int) < (m : Int) := by omega
      have h2 : (x : Int) ≤ (c : Int) := by omega
      have h3 : ¬ c = x := by omega
      obtain ⟨e, he⟩ : ∃ e, e = min k (m - x) := ⟨_, rfl⟩
      have he1 : 1 ≤ e := by omega
      have he2 : x + e ≤ m := by omega
      have hmin : min (k : Int) ((m - x : Nat) : Int) = (e : Int) := by omega
      obtain ⟨ad, rfl⟩ := hA (by omega)
      have hgd : wr.grownBy wr.drew none := ⟨rfl, rfl, rfl, Nat.le_refl _, fun _ _ _ => rfl⟩
      have hjd := hJg _ _ _ hj hgd
      have hkd : KpG G n₀ W wr.drew := hkp.trans ⟨below_drew (Below.refl _ _), fun _ _ _ _ _ h => h, fun i _ h => hGo _ _ none (Nat.le_trans hX hkp.low.size) hgd (fun r e => by cases e) i h⟩
      have hlen : ys.length < m + 1 := by omega
      have hY1 := hY ys x wr.drew hjd hlen ⟨hx.out, ht⟩
      unfold encCh at hY1
      rw [← he] at hY1
      have HY1 := Lib.hid hY1
      have HE := Lib.hid he
      clear he hY1 hmin hjd hlen
      have hmin : min (k : Int) ((m - x : Nat) : Int) = (e : Int) := by rw [HE.out]; omega
      have HM := Lib.hid hmin
      clear hmin
      have cs' : wr.drew.cell? ⟨Bs, 0, none⟩ = some (.slice (some ad) m c) := cs
      have i1 : (0 : Int) ≤ (x : Int) := by omega
      have i2 : (x : Int) ≤ (x : Int) + (e : Int) := by omega
      have i3 : (x : Int) + (e : Int) ≤ (c : Int) := by omega
      have hwr : IntKind.i64.wrap ((x : Int) + (e : Int)) = (x : Int) + (e : Int) := by unfold IntKind.wrap IntKind.bits; simp [IntKind.signed]; omega
      gi_wp2_with fail
      refine wpIn_wide.2 ?_
      go_region
      rw [HM.out]
      obtain ⟨fn, tmps, assign, body, hy, hR⟩ := HY1.out
      simp only [Option.map_some] at hy
      gi_wp2_with fail
      refine hR.mono ?_
      rintro e' w3 (⟨rfl, hj3, hk3⟩ | ⟨rfl, hx3⟩)
      · have hk03 := hkd.trans hk3
        have hWn3 : Whole w3 Bn 3 #[.int .i64 (k : Int)] := hk03.same _ _ _ _ gBn hBn
        have cn3 : w3.cell? ⟨Bn, 0, none⟩ = some (.int .i64 (k : Int)) := by rw [hWn3.cell]; rfl
        have hxk : x = 0 ∨ k ≤ x := by
          rcases Nat.eq_zero_or_pos ys.length with h | h
          · left; rw [hx.out, h, Nat.zero_mul]
          · right; rw [hx.out]; exact Nat.le_mul_of_pos_left k h
        have hB2 : (x : Int) + (k : Int) ≤ 9223372036854775807 := by omega
        have hx2 : Hid (x + k = (ys ++ [x]).length * k) := by unfold Hid; rw [List.length_append, List.length_singleton, Nat.add_mul, Nat.one_mul, ← hx.out]
        clear hxk hwr i1 i2 i3
        gi_wp2_with fail
        go_roundw
        case rel => exact ⟨x + k, ys ++ [x], by go_num, hx2, by simp; omega, by omega, hj3, hk03⟩
        case measure => simp [intOf]; omega
      · gi_wp2_with fail
        refine bodyPost_ret (results_none rfl _ _ _) rfl ?_
        exact ⟨⟨_, rfl⟩, .inr ⟨(ys, x), ⟨hx.out, ht⟩, hx3⟩⟩
    · have h1 : ¬ (x : Int) < (m : Int) := by omega
      gi_wp2_with fail
      go_end0
      exact ⟨⟨_, rfl⟩, .inl ⟨ys, by unfold FinCh; rw [← hx.out]; omega, hj⟩⟩
end Go.Proofs.YtmohbkniekeafaaGreatDoor


