/- Layer 17: what arguments that are rows of numbers read as. No condition of its own. -/
/- Layer 17: the law StreamMatchesReference (written by tools/gen_str_p.py). It writes nothing that was there. -/
import Derived.Test.YtmohbkniekeafaaGreatDoorQA
import Derived.Test.YtmohbkniekeafaaGreatDoorQS
import Derived.Test.YtmohbkniekeafaaGreatDoorQStrL
import Derived.Test.YtmohbkniekeafaaGreatDoorQNF
import Derived.BigGuard
import Derived.Deep.RegionHeld3


namespace Go.Proofs.YtmohbkniekeafaaGreatDoor
open Go.ChangeShapes Go.WideShapes Go.ChangeAt Go.RowKit

theorem hv17 {z : Int} (h : 0 ≤ z ∧ z < 65536) : Value.int .u16 z = hv (UInt16.ofNat z.toNat) := by
  rw [hv, UInt16.toNat_ofNat']
  congr 1
  omega
theorem uv17 {z : Int} (h : 0 ≤ z ∧ z < 4294967296) : Value.int .u32 z = uv (UInt32.ofNat z.toNat) := by
  rw [uv, UInt32.toNat_ofNat']
  congr 1
  omega
section
variable {H : Type} {enc : TypeId × Value → H} {w : World} {base : Nat} {v : Value} {d : DataW H} {p : List MemPlace}
set_option maxRecDepth 100000 in
/-- an argument that is a row of numbers of 16 bits -/
theorem open_row16 (o : Value.okWide Tryz.prog w .any base 36 v) (h : DataW.Trod enc Tryz.prog w 0 (fun _ => true) true 36 v d p) :
    ∃ (l : List UInt16) (A : Option Addr) (c : Nat), v = .slice A l.length c ∧ Lies w w.heap.size A (l.map hv) ∧ l.length ≤ c ∧ c ≤ maxLen := by
  obtain ⟨A, n, c, rfl⟩ := okWide_slice Tryz.underlying36 o
  obtain ⟨fuel, hf⟩ := h
  have hf' : DataW.trod enc Tryz.prog w 0 (fun _ => true) true fuel 36 [.slice A n c] = some (d, p) := hf
  obtain ⟨zs, h1, h2, h3, h4, h5⟩ := open_nums Tryz.underlying36 Tryz.underlying37 (by kernel_rfl) hf'
  refine ⟨zs.map fun n => UInt16.ofNat n.toNat, A, c, by rw [List.length_map, ← h1], ?_, by rw [List.length_map, ← h1]; exact h3, h4⟩
  have : (zs.map fun n => UInt16.ofNat n.toNat).map hv = zs.map (Value.int .u16) := by
    rw [List.map_map]
    refine List.map_congr_left fun n hn => ?_
    have := wf_u16 (h5 n hn)
    simp only [Function.comp, hv, UInt16.toNat_ofNat']
    congr 1
    omega
  rw [this]
  exact h2
set_option maxRecDepth 100000 in
/-- an argument that is a row of numbers of 32 bits -/
theorem open_row32 (o : Value.okWide Tryz.prog w .any base 23 v) (h : DataW.Trod enc Tryz.prog w 0 (fun _ => true) true 23 v d p) :
    ∃ (l : List UInt32) (A : Option Addr) (c : Nat), v = .slice A l.length c ∧ Lies w w.heap.size A (l.map uv) ∧ l.length ≤ c ∧ c ≤ maxLen := by
  obtain ⟨A, n, c, rfl⟩ := okWide_slice Tryz.underlying23 o
  obtain ⟨fuel, hf⟩ := h
  have hf' : DataW.trod enc Tryz.prog w 0 (fun _ => true) true fuel 23 [.slice A n c] = some (d, p) := hf
  obtain ⟨l, h1, h2, h3, h4⟩ := open_words Tryz.underlying23 Tryz.underlying22 (by kernel_rfl) hf'
  subst h1
  exact ⟨l, A, c, rfl, h2, h3, h4⟩
end
end Go.Proofs.YtmohbkniekeafaaGreatDoor







namespace Go.Proofs.YtmohbkniekeafaaGreatDoor
open Go.ChangeShapes Go.WideShapes Go.ChangeAt Go.RowKit

set_option linter.unusedSimpArgs false
theorem sm_build (t : UInt16) (v : List UInt8) (l : List UInt32) (s : List UInt16) (hv0 : puts 4 l ++ puts 2 (wid s) = v) (n ll sl : Nat) (hn : v.length = n) (hll : l.length = ll) (hsl : s.length = sl) (h1 : ll ≤ 10000) (h2 : sl ≤ 10000) (V : World) (Al : Option Addr) (cl : Nat) (As : Option Addr) (cs : Nat) (hl : Lies V V.heap.size Al (l.map uv)) (hs : Lies V V.heap.size As (s.map hv)) :
    Calls Tryz.prog 45 #[hv t, .slice Al ll cl, .slice As sl cs] V fun e w' => Below V.heap.size V w' ∧ ∃ A' c', e = .returned (.agg #[hv t, .slice A' n c', .slice none 0 0]) ∧ w'.ownsRow V.heap.size 5 1 (.slice A' n c') n (v.map bv) := by
  subst hll
  subst hsl
  have hx : l.length * 4 + s.length * 2 = n := by rw [← hn, ← hv0, List.length_append, puts_len, puts_len, wid_len]
  have h9 := rbuild17_any t l s Al cl As cs V hl hs h1 h2
  rw [hx, hv0] at h9
  exact h9
theorem sm_made (t : UInt16) (v : List UInt8) (n : Nat) (hn : v.length = n) (hb : n ≤ 800000) (hc : chk 4 1 (.mk t v []) = 0) (V : World) (A : Option Addr) (c B : Nat) (A2 : Option Addr) (c2 B2 : Nat) (h1 : V.ownsRow B 5 1 (.slice A n c) n (v.map bv)) (h2 : V.ownsRow B2 5 1 (.slice A2 n c2) n (v.map bv)) :
    Calls Tryz.prog 44 #[.agg #[hv t, .slice A n c, .slice none 0 0], .bool true, .agg #[hv t, .slice A2 n c2, .slice none 0 0]] V fun e w' => e = .returned (.bool true) ∧ Below V.heap.size V w' := by
  subst hn
  exact made17_yes (.mk t v []) (fine17 t v hb) hc A c none 0 A2 c2 none 0 V (node17 h1) (node17 h2)
theorem sm_no (t : UInt16) (v : List UInt8) (n : Nat) (hn : v.length = n) (hb : n ≤ 800000) (hc : chk 4 1 (.mk t v []) ≠ 0) (V : World) (A2 : Option Addr) (c2 B2 : Nat) (h2 : V.ownsRow B2 5 1 (.slice A2 n c2) n (v.map bv)) :
    Calls Tryz.prog 44 #[.agg #[.int .u16 0, .slice none 0 0, .slice none 0 0], .bool false, .agg #[hv t, .slice A2 n c2, .slice none 0 0]] V fun e w' => e = .returned (.bool true) ∧ Below V.heap.size V w' := by
  subst hn
  exact made17_no (.mk t v []) (fine17 t v hb) hc A2 c2 none 0 V (node17 h2)
theorem sm_same (t : UInt16) (v : List UInt8) (n : Nat) (hn : v.length = n) (V : World) (A : Option Addr) (c B : Nat) (A2 : Option Addr) (c2 B2 : Nat) (h1 : V.ownsRow B 5 1 (.slice A n c) n (v.map bv)) (h2 : V.ownsRow B2 5 1 (.slice A2 n c2) n (v.map bv)) :
    Calls Tryz.prog 46 #[.agg #[hv t, .slice A n c, .slice none 0 0], .agg #[hv t, .slice A2 n c2, .slice none 0 0]] V fun e w' => e = .returned (.bool true) ∧ Below V.heap.size V w' := by
  subst hn
  have h9 := same17_any (.mk t v []) (.mk t v []) A c none 0 A2 c2 none 0 V (node17 h1) (node17 h2)
  rw [beq_self17] at h9
  exact h9
theorem sm_mk {n : Nd} {f : FuncId} {args : Array Value} {V : World} {m : Nat} (hm : n.v.length = m) (hc : chk 4 1 n = 0) (h : Calls Tryz.prog f args V (MkP n V)) :
    Calls Tryz.prog f args V fun e w' => Below V.heap.size V w' ∧ ∃ A' c', e = .returned (.tuple #[.agg #[hv n.t, .slice A' m c', .slice none 0 0], .bool true]) ∧ w'.ownsRow V.heap.size 5 1 (.slice A' m c') m (n.v.map bv) := by
  subst hm
  refine Calls.mono h fun e w' h => ?_
  obtain ⟨hb, ⟨_, A', c', he, ho⟩ | ⟨h1, _⟩⟩ := h
  · exact ⟨hb, A', c', he, ho⟩
  · exact absurd hc h1
theorem sm_mkno {n : Nd} {f : FuncId} {args : Array Value} {V : World} (hc : chk 4 1 n ≠ 0) (h : Calls Tryz.prog f args V (MkP n V)) :
    Calls Tryz.prog f args V fun e w' => Below V.heap.size V w' ∧ e = .returned (.tuple #[.agg #[.int .u16 0, .slice none 0 0, .slice none 0 0], .bool false]) := by
  refine Calls.mono h fun e w' h => ?_
  obtain ⟨hb, ⟨h1, _⟩ | ⟨_, he⟩⟩ := h
  · exact absurd h1 hc
  · exact ⟨hb, he⟩
theorem rsp_cons (a x : UInt32) (r : List UInt32) : puts 4 (a :: x :: r) ++ puts 2 (wid []) = (rspN a x r).v := by
  show puts 4 (a :: x :: r) ++ puts 2 (wid []) = puts 4 [a, x] ++ puts 4 r
  simp [puts, wid]
theorem rsp_bad (a x : UInt32) (r : List UInt32) (h : 1 ≤ r.length) (h2 : r.length ≠ 2) : chk 4 1 (rspN a x r) ≠ 0 := by
  intro h3
  rw [chk16 _ rfl, rspN_len] at h3
  omega
theorem elem_u3217 : Tryz.prog.elem 23 = 22 := by kernel_rfl
theorem u32size17 (W : World) : (sizeOf 22).run Tryz.prog W = .ok 1 W := by kernel_rfl
theorem slice_from32 {w : World} {B : Nat} (A : Option Addr) (c : Nat) (l : List UInt32) (k : Nat) (h : Lies w B A (l.map uv)) (hc : l.length ≤ c) (hm : c ≤ maxLen) (hk : k ≤ l.length) :
    ∃ A1 c1, (∀ W : World, (Instr.slice 23 (.slice A l.length c) (some (.int .i64 (k : Int))) none none).run Tryz.prog W = .ok (.slice A1 (l.drop k).length c1) W) ∧ Lies w B A1 ((l.drop k).map uv) ∧ (l.drop k).length ≤ c1 ∧ c1 ≤ maxLen := by
  refine ⟨if c = k then A else A.map (·.add k), c - k, fun W => ?_, ?_, by rw [List.length_drop]; omega, by omega⟩
  · rw [run_slice_l (P := Tryz.prog) W 23 A l.length c (by rw [elem_u3217]; exact Tryz.underlying23) .i64 (k : Int) (by omega) (by omega), elem_u3217, u32size17]
    simp [Result.andThen, sliced]
  · have h2 := h.drop (k := k) (c := c) (by simpa using hc)
    rwa [← List.map_drop] at h2
theorem cut_post17 {P : Program} {C : Code} {a : Act} {w : World} {Q : Exit → Act → World → Prop} (T : (Exit → Act → World → Prop) → Prop) (hT : T Q) (h : T Q → Code.wp P C Q a w) : Code.wp P C Q a w := h hT
theorem lies_n17 (w : World) (l : List UInt32) : Lies (w.alloc (.cells (l.map uv).toArray 22)) (w.alloc (.cells (l.map uv).toArray 22)).heap.size (some ⟨w.heap.size, 0, none⟩) (l.map uv) := (lies_new w l).more (by simp)
theorem row_one17 (w : World) (a : UInt32) : (w.alloc (.cells #[uv a] 22)).ownsRow w.heap.size 22 1 (.slice (some ⟨w.heap.size, 0, none⟩) 1 1) 1 [uv a] := ⟨rfl, .inr ⟨w.heap.size, 1, #[uv a], rfl, Nat.le_refl _, heap_alloc_new w _, Nat.le_refl _, by unfold maxLen; omega, rfl, rfl⟩⟩
end Go.Proofs.YtmohbkniekeafaaGreatDoor


