/- Layer 8: the law NodeWalks: how many nodes a list with few nodes has; results in a box of one cell. -/
import Derived.Test.YtdnilbebdgohnaaGreatDoorNodeWXX
import Derived.Test.YtdnilbebdgohnaaGreatDoorNodeWGH
import Derived.Test.YtdnilbebdgohnaaGreatDoorNodeRACW
import Derived.Test.YtdnilbebdgohnaaGreatDoorNodeTV
import Derived.Test.YtdnilbebdgohnaaGreatDoorNodeR
import Derived.Test.YtdnilbebdgohnaaGreatDoorNodeS
import Derived.Test.YtdnilbebdgohnaaGreatDoorNodeUO




namespace Go.Proofs.YtdnilbebdgohnaaGreatDoor
open Go.RowKit Go.Shelf

theorem cl_sum (g h : Nd → Nat) : ∀ (l : List Nd) (n : Nat), (∀ x ∈ l, g x ≤ 200 → h x ≤ g x) → cl g n l ≤ 200 → n + (l.map fun x => 1 + h x).sum ≤ cl g n l ∧ ∀ x ∈ l, g x ≤ 200
  | [], n, _, _ => ⟨by simp [cl], by simp⟩
  | x :: l, n, hh, hc => by
    unfold cl at hc ⊢
    split at hc
    · rename_i hn
      rw [if_pos hn]
      have h1 := cl_ge g l (n + 1 + x.v.length / 1000 + g x)
      have hx : g x ≤ 200 := by omega
      obtain ⟨h2, h3⟩ := cl_sum g h l _ (fun y hy => hh y (List.mem_cons_of_mem _ hy)) hc
      have h4 := hh x (by simp) hx
      refine ⟨by simp only [List.map_cons, List.sum_cons]; omega, fun y hy => ?_⟩
      rcases List.mem_cons.1 hy with rfl | hy
      · exact hx
      · exact h3 y hy
    · rename_i hn
      omega
theorem flats_len (l : List Nd) (d : Nat) : (flats l d).length = (l.map fun x => 1 + (flats x.ks (d + 1)).length).sum := by
  induction l with
  | nil => rfl
  | cons x l ih => rw [flats_cons, List.map_cons, List.sum_cons, List.length_cons, List.length_append, ih]; omega
theorem flats_mem {l : List Nd} {d : Nat} {y : Nat × Nd} (h : y ∈ flats l d) : ∃ x ∈ l, y = (d, x) ∨ y ∈ flats x.ks (d + 1) := by
  induction l with
  | nil => rw [flats] at h; cases h
  | cons x l ih =>
    rw [flats_cons, List.mem_cons, List.mem_append] at h
    rcases h with h | h | h
    · exact ⟨x, by simp, .inl h⟩
    · exact ⟨x, by simp, .inr h⟩
    · obtain ⟨z, hz, h⟩ := ih h
      exact ⟨z, List.mem_cons_of_mem _ hz, h⟩
/-- few nodes: so many come, and so deep they lie -/
theorem flats_few : ∀ (f : Nat) (l : List Nd) (d : Nat), cnt f l ≤ 200 → (flats l d).length ≤ cnt f l ∧ ∀ x ∈ flats l d, x.1 ≤ d + f
  | 0, l, _, h => by simp [cnt] at h
  | f + 1, l, d, h => by
    unfold cnt at h ⊢
    obtain ⟨h1, h2⟩ := cl_sum (fun x => cnt f x.ks) (fun x => (flats x.ks (d + 1)).length) l 0 (fun x _ hx => (flats_few f x.ks (d + 1) hx).1) h
    refine ⟨by rw [flats_len]; omega, fun y hy => ?_⟩
    obtain ⟨x, hx, rfl | hy⟩ := flats_mem hy
    · show d ≤ _; omega
    · have := (flats_few f x.ks (d + 1) (h2 x hx)).2 y hy
      omega
theorem results_cell1 {P : Program} {fn : Func} {p : Tmp} {ty : TypeId} (h : fn.results = #[.cell p ty]) (tmps : Array Value) (w : World) (g : Nat) (t : TypeId) (v : Value) (d : TypeDesc)
    (hp : tmps.getD p undef = .pointer (some ⟨g, 0, none⟩)) (hg : Boxed w g t v) (hu : P.underlying ty = some d) (hd : (match d with | .struct _ | .array _ _ => true | _ => false) = false) :
    (results fn tmps).run P w = .ok v w := by
  have hp' : tmps[p]?.getD undef = .pointer (some ⟨g, 0, none⟩) := by simpa using hp
  simp only [results, h]
  simp [hp', asAddr, run_loadVar_one w g t ty v d hg hu hd]
end Go.Proofs.YtdnilbebdgohnaaGreatDoor

/- A region that draws its order inside a round of a range over a function: what holds of it outside of rounds holds there (no operation may defer). Over whatever program. -/

namespace Go.Proofs.YtdnilbebdgohnaaGreatDoor

theorem rowsIn_round {l m : Nat} {P : Program} {row : String} {args : Array Value} {w : World} {R : Value → World → Prop} (h : Rows P row args w R) : RowsIn (Fence.wide.inRound l) m P row args w R :=
  fun c cs _ => let ⟨v, w', r, s⟩ := h c cs; ⟨v, w', r, stepsIn_wide.2 s⟩
theorem callsIn_rnd {l m : Nat} {P : Program} {f : FuncId} {args : Array Value} {w : World} {R : Ending → World → Prop} (h : Calls P f args w R) : CallsIn (Fence.wide.inRound l) m P f args w R := by
  have h1 := (callsIn_wide (n := m)).2 h
  exact ⟨h1.1, fun cs _ => h1.2 cs (by simp [Fence.room, Fence.wide])⟩
theorem wpIn_rnd {l m : Nat} {P : Program} {o : Oper} {a : Act} {w : World} {K : Act → World → Prop} {Q : Exit → Act → World → Prop} (hd : ∀ c, o.op ≠ .defer c) (h : o.wp P a w K Q) : o.wpIn (Fence.wide.inRound l) m P a w K Q := by
  refine ⟨fun _ _ => trivial, ?_⟩
  rw [Fence.inRound_round, Oper.semAt_some l _ _ hd]
  unfold Oper.wp at h
  generalize (execOp a.eval o).run P w = r at *
  cases r with
  | ok x w' =>
    cases x <;> simp only [Oper.upon, Oper.uponIn] at h ⊢ <;>
      first
        | exact h
        | exact ⟨fun e => (by cases e), callsIn_rnd h⟩
        | exact ⟨fun e => (by cases e), rowsIn_round h⟩
  | halt x w' => cases x <;> simp only [Oper.upon, Oper.uponIn] at h ⊢ <;> exact h
theorem wpAnyIn_rnd {l m : Nat} {P : Program} {ops : Array Oper} {Q : Exit → Act → World → Prop} {md : Region.Mode} (hd : ∀ (i : Nat) (o : Oper) c, ops[i]? = some o → o.op ≠ .defer c) (hq : ¬ LetsOut Q) :
    ∀ (fuel : Nat) (listed : Array Bool) (a : Act) (w : World), wpAny P md ops Q fuel listed a w → wpAnyIn (Fence.wide.inRound l) m P md ops Q fuel listed a w := by
  intro fuel
  induction fuel with
  | zero => exact fun _ _ _ h => h
  | succ fuel ih =>
    intro listed a w h
    refine ⟨h.1, fun i hi => ?_⟩
    have h2 := h.2 i hi
    unfold wpOp at h2
    unfold wpOpIn
    cases ho : ops[i]? with
    | none => simp only [ho] at h2 ⊢; exact ih _ _ _ h2
    | some o =>
      simp only [ho] at h2 ⊢
      by_cases hw : Region.wanted o (yielded ops a.tmps) = true
      · rw [if_pos hw] at h2 ⊢
        rcases h2 with h2 | h2
        · exact Oper.wpIn_mono (fun a w => ih _ a w) (wpIn_rnd (hd i o · ho) h2)
        · exact absurd h2.2 hq
      · rw [if_neg hw] at h2 ⊢
        exact ⟨fun _ _ => trivial, ih _ _ _ h2⟩
theorem region_round_held {l m : Nat} {P : Program} {id : Nat} {ops : Array Oper} {Q : Exit → Act → World → Prop} {S : World → Prop} {a : Act} {w : World} (hm : P.follows .mixedOrders = true)
    (hd : (ops.all fun o => match o.op with | .defer _ => false | _ => true) = true) (hq : ¬ LetsOut Q) (hS : S w.drew)
    (h : S w.drew → wpAnyH P .any ops Q S ops.size (Array.replicate ops.size false) a w.drew) : (Code.region id ops true).wpIn (Fence.wide.inRound l) m P Q a w := by
  refine wpIn_region_any hm (wpAnyIn_rnd (fun i o c ho e => ?_) hq _ _ _ _ (wpAny_of_held _ _ _ _ (h hS)))
  have h1 := Array.all_eq_true.1 hd i (Array.getElem?_eq_some_iff.1 ho).1
  rw [(Array.getElem?_eq_some_iff.1 ho).2, e] at h1
  cases h1
end Go.Proofs.YtdnilbebdgohnaaGreatDoor

/- Layer 8, the law NodeWalks: the statement of its round that compares, in whatever order Go carries it out. -/
namespace Go.Proofs.YtdnilbebdgohnaaGreatDoor
open Go.RowKit Go.Shelf

set_option linter.unusedSimpArgs false
def ops11W : Array Oper :=
  #[{ dst := some 34, op := Op.load 3 (Operand.tmp 8), type := 3, pos := "law.go:140", after := #[], guard := none },
    { dst := some 35, op := Op.load 22 (Operand.tmp 6), type := 22, pos := "law.go:140", after := #[], guard := none },
    { dst := some 36, op := Op.call { callee := Callee.builtin Builtin.len, args := #[Operand.tmp 35], argTypes := #[22] }, type := 3, pos := "law.go:140", after := #[{ on := 1, ground := Ground.data }], guard := none },
    { dst := some 37, op := Op.binOp BinOp.geq 3 (Operand.tmp 34) (Operand.tmp 36) 3, type := 4, pos := "law.go:140", after := #[{ on := 0, ground := Ground.data }, { on := 2, ground := Ground.data }], guard := none },
    { dst := some 38, op := Op.move (Operand.tmp 37), type := 4, pos := "law.go:140", after := #[{ on := 3, ground := Ground.data }], guard := none },
    { dst := some 39, op := Op.move (Operand.tmp 9), type := 3, pos := "law.go:140", after := #[{ on := 4, ground := Ground.guard }], guard := some (4, false) },
    { dst := some 40, op := Op.load 25 (Operand.tmp 5), type := 25, pos := "law.go:140", after := #[{ on := 4, ground := Ground.guard }], guard := some (4, false) },
    { dst := some 41, op := Op.load 3 (Operand.tmp 8), type := 3, pos := "law.go:140", after := #[{ on := 4, ground := Ground.guard }], guard := some (4, false) },
    { dst := some 42, op := Op.indexAddr 25 (Operand.tmp 40) (Operand.tmp 41), type := 0, pos := "law.go:140", after := #[{ on := 6, ground := Ground.data }, { on := 7, ground := Ground.data }, { on := 4, ground := Ground.guard }], guard := some (4, false) },
    { dst := some 43, op := Op.load 3 (Operand.tmp 42), type := 3, pos := "law.go:140", after := #[{ on := 8, ground := Ground.data }, { on := 4, ground := Ground.guard }], guard := some (4, false) },
    { dst := some 44, op := Op.binOp BinOp.neq 3 (Operand.tmp 39) (Operand.tmp 43) 3, type := 4, pos := "law.go:140", after := #[{ on := 5, ground := Ground.data }, { on := 9, ground := Ground.data }, { on := 4, ground := Ground.guard }], guard := some (4, false) },
    { dst := some 45, op := Op.pick (Operand.tmp 38) (Operand.const (Value.bool true)) (Operand.tmp 44), type := 4, pos := "law.go:140", after := #[{ on := 4, ground := Ground.data }, { on := 10, ground := Ground.data }], guard := none },
    { dst := some 46, op := Op.move (Operand.tmp 45), type := 4, pos := "law.go:140", after := #[{ on := 11, ground := Ground.data }, { on := 4, ground := Ground.chain }], guard := none },
    { dst := some 47, op := Op.load 34 (Operand.tmp 10), type := 34, pos := "law.go:140", after := #[{ on := 12, ground := Ground.guard }], guard := some (12, false) },
    { dst := some 48, op := Op.buildSlice 22 1 #[(0, Operand.tmp 47)], type := 22, pos := "law.go:140", after := #[{ on := 13, ground := Ground.data }, { on := 12, ground := Ground.guard }], guard := some (12, false) },
    { dst := some 49, op := Op.load 22 (Operand.tmp 6), type := 22, pos := "law.go:140", after := #[{ on := 12, ground := Ground.guard }], guard := some (12, false) },
    { dst := some 50, op := Op.load 3 (Operand.tmp 8), type := 3, pos := "law.go:140", after := #[{ on := 12, ground := Ground.guard }], guard := some (12, false) },
    { dst := some 51, op := Op.load 3 (Operand.tmp 8), type := 3, pos := "law.go:140", after := #[{ on := 12, ground := Ground.guard }], guard := some (12, false) },
    { dst := some 52, op := Op.binOp BinOp.add 3 (Operand.tmp 51) (Operand.const (Value.int IntKind.i64 1)) 3, type := 3, pos := "law.go:140", after := #[{ on := 17, ground := Ground.data }, { on := 12, ground := Ground.guard }], guard := some (12, false) },
    { dst := some 53, op := Op.slice 22 (Operand.tmp 49) (some (Operand.tmp 50)) (some (Operand.tmp 52)) none, type := 22, pos := "law.go:140", after := #[{ on := 15, ground := Ground.data }, { on := 16, ground := Ground.data }, { on := 18, ground := Ground.data }, { on := 12, ground := Ground.guard }], guard := some (12, false) },
    { dst := some 54, op := Op.call { callee := Callee.value (Operand.func 8), args := #[Operand.tmp 48, Operand.tmp 53], argTypes := #[22, 22] }, type := 4, pos := "law.go:140", after := #[{ on := 14, ground := Ground.data }, { on := 19, ground := Ground.data }, { on := 12, ground := Ground.chain }, { on := 12, ground := Ground.guard }], guard := some (12, false) },
    { dst := some 55, op := Op.unOp UnOp.not 4 (Operand.tmp 54), type := 4, pos := "law.go:140", after := #[{ on := 20, ground := Ground.data }, { on := 12, ground := Ground.guard }], guard := some (12, false) },
    { dst := some 56, op := Op.pick (Operand.tmp 46) (Operand.const (Value.bool true)) (Operand.tmp 55), type := 4, pos := "law.go:140", after := #[{ on := 12, ground := Ground.data }, { on := 21, ground := Ground.data }], guard := none }]
set_option maxRecDepth 100000 in
set_option maxHeartbeats 8000000 in
theorem region11W {l' m : Nat} {Q : Exit → Act → World → Prop} (hq : ¬ LetsOut Q) (hQp : ∀ c a d v w, Q (.panic c) (Act.put a d v) w → Q (.panic c) a w) (t0 t1 t2 t3 t4 t7 t11 t12 t13 t14 t15 t16 t17 t18 t19 t20 t21 t22 t23 t24 t25 t26 t27 t28 t29 t30 t31 t32 t33 t34 t35 t36 t37 t38 t39 t40 t41 t42 t43 t44 t45 t46 t47 t48 t49 t50 t51 t52 t53 t54 t55 t56 t57 t58 t59 t60 t61 t62 t63 t64 t65 t66 t67 t68 t69 t70 t71 t72 t73 t74 t75 t76 t77 t78 t79 t80 t81 t82 t83 t84 t85 t86 t87 t88 t89 t90 t91 t92 t93 t94 t95 t96 t97 t98 t99 t100 t101 t102 t103 t104 t105 t106 : Value) (nb fb db g d k L : Nat) (ad1 ad2 : Addr) (c1 c2 : Nat) (n : Nd) (A : Option Addr) (c : Nat) (KA : Option Addr) (kk : Nat) (V : World)
    (KS : Hid (∀ W, Below V.heap.size V W → W.cell? ⟨nb, 0, none⟩ = some (.int .i64 (k : Int)) ∧ W.cell? ⟨fb, 0, none⟩ = some (.slice (some ad2) L c2) ∧ W.cell? ⟨db, 0, none⟩ = some (.slice (some ad1) L c1) ∧ W.cell? (ad1.add k) = some (.int .i64 (d : Int)) ∧ W.cell? ⟨g, 0, none⟩ = some (hv n.t) ∧ W.cell? ⟨g, 1, none⟩ = some (.slice A n.v.length c) ∧ W.cell? ⟨g, 2, none⟩ = some (.slice KA n.ks.length kk))) (hk : k < L) (hL : L ≤ 200) (hc2 : L ≤ c2)
    (HSame : Hid (Calls Tryz.prog 8 #[.slice (some ⟨V.heap.size, 0, none⟩) 1 1, .slice (some (ad2.add (k * 3))) 1 (c2 - k)] (V.alloc (.cells #[hv n.t, .slice A n.v.length c, .slice KA n.ks.length kk] 34)).drew fun e w' => e = .returned (.bool true) ∧ Below V.heap.size V w'))
    (hQ : ∀ (u34 u35 u36 u37 u38 u39 u40 u41 u42 u43 u44 u45 u46 u47 u48 u49 u50 u51 u52 u53 u54 u55 : Value) (w' : World), Below V.heap.size V w' → Q .normal { tmps := #[t0, t1, t2, t3, t4, .pointer (some ⟨db, 0, none⟩), .pointer (some ⟨fb, 0, none⟩), t7, .pointer (some ⟨nb, 0, none⟩), .int .i64 (d : Int), .pointer (some ⟨g, 0, none⟩), t11, t12, t13, t14, t15, t16, t17, t18, t19, t20, t21, t22, t23, t24, t25, t26, t27, t28, t29, t30, t31, t32, t33, u34, u35, u36, u37, u38, u39, u40, u41, u42, u43, u44, u45, u46, u47, u48, u49, u50, u51, u52, u53, u54, u55, .bool false, t57, t58, t59, t60, t61, t62, t63, t64, t65, t66, t67, t68, t69, t70, t71, t72, t73, t74, t75, t76, t77, t78, t79, t80, t81, t82, t83, t84, t85, t86, t87, t88, t89, t90, t91, t92, t93, t94, t95, t96, t97, t98, t99, t100, t101, t102, t103, t104, t105, t106], defers := [] } w') :
    (Code.region 11 ops11W true).wpIn (Fence.wide.inRound l') m Tryz.prog Q { tmps := #[t0, t1, t2, t3, t4, .pointer (some ⟨db, 0, none⟩), .pointer (some ⟨fb, 0, none⟩), t7, .pointer (some ⟨nb, 0, none⟩), .int .i64 (d : Int), .pointer (some ⟨g, 0, none⟩), t11, t12, t13, t14, t15, t16, t17, t18, t19, t20, t21, t22, t23, t24, t25, t26, t27, t28, t29, t30, t31, t32, t33, t34, t35, t36, t37, t38, t39, t40, t41, t42, t43, t44, t45, t46, t47, t48, t49, t50, t51, t52, t53, t54, t55, t56, t57, t58, t59, t60, t61, t62, t63, t64, t65, t66, t67, t68, t69, t70, t71, t72, t73, t74, t75, t76, t77, t78, t79, t80, t81, t82, t83, t84, t85, t86, t87, t88, t89, t90, t91, t92, t93, t94, t95, t96, t97, t98, t99, t100, t101, t102, t103, t104, t105, t106], defers := [] } V := by
  have hkL : (k : Int) < (L : Int) := by omega
  have hk0 : (0 : Int) ≤ (k : Int) := by omega
  have hk1 : (k : Int) ≤ (k : Int) + 1 := by omega
  have hk2 : (k : Int) + 1 ≤ (c2 : Int) := by omega
  have hge : ¬ (L : Int) ≤ (k : Int) := by omega
  have hwr : IntKind.i64.wrap ((k : Int) + 1) = (k : Int) + 1 := by unfold IntKind.wrap IntKind.bits; simp; omega
  have htn : ((k : Int) + 1).toNat = k + 1 := by omega
  have hk3 : (0 : Int) ≤ (k : Int) + 1 := by omega
  have hne : ¬ c2 = k := by omega
  have h11 : k + 1 - k = 1 := by omega
  have HQ := Lib.hid hQ
  clear hQ
  unfold ops11W
  refine region_round_held (S := (fun W => W.cell? ⟨nb, 0, none⟩ = some (.int .i64 (k : Int)) ∧ W.cell? ⟨fb, 0, none⟩ = some (.slice (some ad2) L c2) ∧ W.cell? ⟨db, 0, none⟩ = some (.slice (some ad1) L c1) ∧ W.cell? (ad1.add k) = some (.int .i64 (d : Int)) ∧ W.cell? ⟨g, 0, none⟩ = some (hv n.t) ∧ W.cell? ⟨g, 1, none⟩ = some (.slice A n.v.length c) ∧ W.cell? ⟨g, 2, none⟩ = some (.slice KA n.ks.length kk))) (by kernel_rfl) (by kernel_rfl) hq (KS.out _ (below_drew (Below.refl _ _))) (fun hHeld => ?_)
  refine take_at (i := 0) (v := ?_) (some 34) rfl (by kernel_rfl) (by kernel_rfl) (by kernel_rfl) (fun _ _ _ h => hQp _ _ _ _ _ h) (by kernel_rfl) (Or.inl ⟨by kernel_rfl, ?_⟩) (by assumption) ?_
  rotate_left
  · (intro w hSw; (try dsimp only at hSw); go_simp <;> with_reducible rfl)
  simp only [Act.put, List.setIfInBounds_toArray, List.set_cons_zero, List.set_cons_succ]
  refine take_at (i := 1) (v := ?_) (some 35) rfl (by kernel_rfl) (by kernel_rfl) (by kernel_rfl) (fun _ _ _ h => hQp _ _ _ _ _ h) (by kernel_rfl) (Or.inl ⟨by kernel_rfl, ?_⟩) (by assumption) ?_
  rotate_left
  · (intro w hSw; (try dsimp only at hSw); go_simp <;> with_reducible rfl)
  simp only [Act.put, List.setIfInBounds_toArray, List.set_cons_zero, List.set_cons_succ]
  refine wpAnyH_ready (rs := [2]) (by kernel_rfl) (by simp) ?_
  refine AllReadyH.cons rfl (fun K hK => ?_) AllReadyH.nil
  go_simp
  clear hHeld
  refine hK.out _ _ (KS.out _ (below_drew (Below.refl _ _))) (fun hHeld => ?_)
  clear hK K
  try simp only [Act.put, List.setIfInBounds_toArray, List.set_cons_zero, List.set_cons_succ]
  refine take_at (i := 3) (v := ?_) (some 37) rfl (by kernel_rfl) (by kernel_rfl) (by kernel_rfl) (fun _ _ _ h => hQp _ _ _ _ _ h) (by kernel_rfl) (Or.inl ⟨by kernel_rfl, ?_⟩) (by assumption) ?_
  rotate_left
  · (intro w hSw; (try dsimp only at hSw); go_simp <;> with_reducible rfl)
  simp only [Act.put, List.setIfInBounds_toArray, List.set_cons_zero, List.set_cons_succ]
  refine take_at (i := 4) (v := ?_) (some 38) rfl (by kernel_rfl) (by kernel_rfl) (by kernel_rfl) (fun _ _ _ h => hQp _ _ _ _ _ h) (by kernel_rfl) (Or.inl ⟨by kernel_rfl, ?_⟩) (by assumption) ?_
  rotate_left
  · (intro w hSw; (try dsimp only at hSw); go_simp <;> with_reducible rfl)
  simp only [Act.put, List.setIfInBounds_toArray, List.set_cons_zero, List.set_cons_succ]
  refine take_at (i := 5) (v := ?_) (some 39) rfl (by kernel_rfl) (by kernel_rfl) (by kernel_rfl) (fun _ _ _ h => hQp _ _ _ _ _ h) (by kernel_rfl) (Or.inl ⟨by kernel_rfl, ?_⟩) (by assumption) ?_
  rotate_left
  · (intro w hSw; (try dsimp only at hSw); go_simp <;> with_reducible rfl)
  simp only [Act.put, List.setIfInBounds_toArray, List.set_cons_zero, List.set_cons_succ]
  refine take_at (i := 6) (v := ?_) (some 40) rfl (by kernel_rfl) (by kernel_rfl) (by kernel_rfl) (fun _ _ _ h => hQp _ _ _ _ _ h) (by kernel_rfl) (Or.inl ⟨by kernel_rfl, ?_⟩) (by assumption) ?_
  rotate_left
  · (intro w hSw; (try dsimp only at hSw); go_simp <;> with_reducible rfl)
  simp only [Act.put, List.setIfInBounds_toArray, List.set_cons_zero, List.set_cons_succ]
  refine take_at (i := 7) (v := ?_) (some 41) rfl (by kernel_rfl) (by kernel_rfl) (by kernel_rfl) (fun _ _ _ h => hQp _ _ _ _ _ h) (by kernel_rfl) (Or.inl ⟨by kernel_rfl, ?_⟩) (by assumption) ?_
  rotate_left
  · (intro w hSw; (try dsimp only at hSw); go_simp <;> with_reducible rfl)
  simp only [Act.put, List.setIfInBounds_toArray, List.set_cons_zero, List.set_cons_succ]
  refine take_at (i := 8) (v := ?_) (some 42) rfl (by kernel_rfl) (by kernel_rfl) (by kernel_rfl) (fun _ _ _ h => hQp _ _ _ _ _ h) (by kernel_rfl) (Or.inl ⟨by kernel_rfl, ?_⟩) (by assumption) ?_
  rotate_left
  · (intro w hSw; (try dsimp only at hSw); go_simp <;> with_reducible rfl)
  simp only [Act.put, List.setIfInBounds_toArray, List.set_cons_zero, List.set_cons_succ]
  refine take_at (i := 9) (v := ?_) (some 43) rfl (by kernel_rfl) (by kernel_rfl) (by kernel_rfl) (fun _ _ _ h => hQp _ _ _ _ _ h) (by kernel_rfl) (Or.inl ⟨by kernel_rfl, ?_⟩) (by assumption) ?_
  rotate_left
  · (intro w hSw; (try dsimp only at hSw); go_simp <;> with_reducible rfl)
  simp only [Act.put, List.setIfInBounds_toArray, List.set_cons_zero, List.set_cons_succ]
  refine take_at (i := 10) (v := ?_) (some 44) rfl (by kernel_rfl) (by kernel_rfl) (by kernel_rfl) (fun _ _ _ h => hQp _ _ _ _ _ h) (by kernel_rfl) (Or.inl ⟨by kernel_rfl, ?_⟩) (by assumption) ?_
  rotate_left
  · (intro w hSw; (try dsimp only at hSw); go_simp <;> with_reducible rfl)
  simp only [Act.put, List.setIfInBounds_toArray, List.set_cons_zero, List.set_cons_succ]
  refine take_at (i := 11) (v := ?_) (some 45) rfl (by kernel_rfl) (by kernel_rfl) (by kernel_rfl) (fun _ _ _ h => hQp _ _ _ _ _ h) (by kernel_rfl) (Or.inl ⟨by kernel_rfl, ?_⟩) (by assumption) ?_
  rotate_left
  · (intro w hSw; (try dsimp only at hSw); go_simp <;> with_reducible rfl)
  simp only [Act.put, List.setIfInBounds_toArray, List.set_cons_zero, List.set_cons_succ]
  refine take_at (i := 12) (v := ?_) (some 46) rfl (by kernel_rfl) (by kernel_rfl) (by kernel_rfl) (fun _ _ _ h => hQp _ _ _ _ _ h) (by kernel_rfl) (Or.inl ⟨by kernel_rfl, ?_⟩) (by assumption) ?_
  rotate_left
  · (intro w hSw; (try dsimp only at hSw); go_simp <;> with_reducible rfl)
  simp only [Act.put, List.setIfInBounds_toArray, List.set_cons_zero, List.set_cons_succ]
  refine take_at (i := 13) (v := ?_) (some 47) rfl (by kernel_rfl) (by kernel_rfl) (by kernel_rfl) (fun _ _ _ h => hQp _ _ _ _ _ h) (by kernel_rfl) (Or.inl ⟨by kernel_rfl, ?_⟩) (by assumption) ?_
  rotate_left
  · (intro w hSw; (try dsimp only at hSw); go_simp <;> with_reducible rfl)
  simp only [Act.put, List.setIfInBounds_toArray, List.set_cons_zero, List.set_cons_succ]
  refine take_at (i := 15) (v := ?_) (some 49) rfl (by kernel_rfl) (by kernel_rfl) (by kernel_rfl) (fun _ _ _ h => hQp _ _ _ _ _ h) (by kernel_rfl) (Or.inl ⟨by kernel_rfl, ?_⟩) (by assumption) ?_
  rotate_left
  · (intro w hSw; (try dsimp only at hSw); go_simp <;> with_reducible rfl)
  simp only [Act.put, List.setIfInBounds_toArray, List.set_cons_zero, List.set_cons_succ]
  refine take_at (i := 16) (v := ?_) (some 50) rfl (by kernel_rfl) (by kernel_rfl) (by kernel_rfl) (fun _ _ _ h => hQp _ _ _ _ _ h) (by kernel_rfl) (Or.inl ⟨by kernel_rfl, ?_⟩) (by assumption) ?_
  rotate_left
  · (intro w hSw; (try dsimp only at hSw); go_simp <;> with_reducible rfl)
  simp only [Act.put, List.setIfInBounds_toArray, List.set_cons_zero, List.set_cons_succ]
  refine take_at (i := 17) (v := ?_) (some 51) rfl (by kernel_rfl) (by kernel_rfl) (by kernel_rfl) (fun _ _ _ h => hQp _ _ _ _ _ h) (by kernel_rfl) (Or.inl ⟨by kernel_rfl, ?_⟩) (by assumption) ?_
  rotate_left
  · (intro w hSw; (try dsimp only at hSw); go_simp <;> with_reducible rfl)
  simp only [Act.put, List.setIfInBounds_toArray, List.set_cons_zero, List.set_cons_succ]
  refine take_at (i := 18) (v := ?_) (some 52) rfl (by kernel_rfl) (by kernel_rfl) (by kernel_rfl) (fun _ _ _ h => hQp _ _ _ _ _ h) (by kernel_rfl) (Or.inl ⟨by kernel_rfl, ?_⟩) (by assumption) ?_
  rotate_left
  · (intro w hSw; (try dsimp only at hSw); go_simp <;> with_reducible rfl)
  simp only [Act.put, List.setIfInBounds_toArray, List.set_cons_zero, List.set_cons_succ]
  refine take_at (i := 19) (v := ?_) (some 53) rfl (by kernel_rfl) (by kernel_rfl) (by kernel_rfl) (fun _ _ _ h => hQp _ _ _ _ _ h) (by kernel_rfl) (Or.inl ⟨by kernel_rfl, ?_⟩) (by assumption) ?_
  rotate_left
  · (intro w hSw; (try dsimp only at hSw); go_simp <;> with_reducible rfl)
  simp only [Act.put, List.setIfInBounds_toArray, List.set_cons_zero, List.set_cons_succ]
  refine wpAnyH_ready (rs := [14]) (by kernel_rfl) (by simp) ?_
  refine AllReadyH.cons rfl (fun K hK => ?_) AllReadyH.nil
  go_simp
  clear hHeld
  refine hK.out _ _ (KS.out _ (below_drew ((Below.refl _ _).alloc (Nat.le_refl _) (.cells #[hv n.t, .slice A n.v.length c, .slice KA n.ks.length kk] 34)))) (fun hHeld => ?_)
  clear hK K
  try simp only [Act.put, List.setIfInBounds_toArray, List.set_cons_zero, List.set_cons_succ]
  refine wpAnyH_ready (rs := [20]) (by kernel_rfl) (by simp) ?_
  refine AllReadyH.cons rfl (fun K hK => ?_) AllReadyH.nil
  go_simp
  go_at_call 8; (with_reducible refine HSame.out.mono ?_); rintro e w8 ⟨rfl, b8⟩; have hS8 := KS.out _ b8
  go_wp2_with fail
  clear hHeld
  refine hK.out _ _ hS8 (fun hHeld => ?_)
  clear hK K
  try simp only [Act.put, List.setIfInBounds_toArray, List.set_cons_zero, List.set_cons_succ]
  refine take_at (i := 21) (v := ?_) (some 55) rfl (by kernel_rfl) (by kernel_rfl) (by kernel_rfl) (fun _ _ _ h => hQp _ _ _ _ _ h) (by kernel_rfl) (Or.inl ⟨by kernel_rfl, ?_⟩) (by assumption) ?_
  rotate_left
  · (intro w hSw; (try dsimp only at hSw); go_simp <;> with_reducible rfl)
  simp only [Act.put, List.setIfInBounds_toArray, List.set_cons_zero, List.set_cons_succ]
  refine take_at (i := 22) (v := ?_) (some 56) rfl (by kernel_rfl) (by kernel_rfl) (by kernel_rfl) (fun _ _ _ h => hQp _ _ _ _ _ h) (by kernel_rfl) (Or.inl ⟨by kernel_rfl, ?_⟩) (by assumption) ?_
  rotate_left
  · (intro w hSw; (try dsimp only at hSw); go_simp <;> with_reducible rfl)
  simp only [Act.put, List.setIfInBounds_toArray, List.set_cons_zero, List.set_cons_succ]
  refine wpAnyH_done (by kernel_rfl) ?_ _
  exact HQ.out _ _ _ _ _ _ _ _ _ _ _ _ _ _ _ _ _ _ _ _ _ _ _ b8
end Go.Proofs.YtdnilbebdgohnaaGreatDoor
/- Layer 8: the law NodeWalks, for whatever list. It writes nothing that was there. -/
namespace Go.Proofs.YtdnilbebdgohnaaGreatDoor
open Go.RowKit Go.Shelf

attribute [local go_sem] Oper.semAt_some

section
variable {w w' : World} {B B' : Nat} {A : Option Addr} {ns : List Nd}
/-- a piece of the list (with its cells) -/
theorem Nodes.one1 (h : Nodes w B A ns) {k : Nat} {n : Nd} (hn : ns[k]? = some n) : ∃ ad A' c' K' k', A = some ad ∧ ad.block < B ∧ Node w B A' c' K' k' n ∧ Nodes w B (some (ad.add (k * 3))) [n] := by
  have hk := (List.getElem?_eq_some_iff.1 hn).1
  obtain ⟨ad, A', c', K', k', n', ha, hb, hn', h0, h1, h2, hN⟩ := h.at_ hk
  obtain rfl : n' = n := by have := hn'.out; rw [hn] at this; cases this; rfl
  refine ⟨ad, A', c', K', k', ha, hb, hN, .mk [hv n'.t, .slice A' n'.v.length c', .slice K' n'.ks.length k'] (fun _ => K') (fun _ => k') (fun _ => ⟨_, rfl, by rw [blk_add]; exact hb, fun j u hu => ?_⟩) rfl (fun i n hn => ?_) (fun i n hn => ?_)⟩
  · match j, hu with
    | 0, hu => simp only [List.getElem?_cons_zero, Option.some.injEq] at hu; subst hu; simpa [Addr.add] using h0
    | 1, hu => simp only [List.getElem?_cons_succ, List.getElem?_cons_zero, Option.some.injEq] at hu; subst hu; exact h1
    | 2, hu => simp only [List.getElem?_cons_succ, List.getElem?_cons_zero, Option.some.injEq] at hu; subst hu; exact h2
    | j + 3, hu => simp at hu
  · match i, hn with
    | 0, hn => simp only [List.getElem?_cons_zero, Option.some.injEq] at hn; subst hn; exact ⟨rfl, ⟨_, rfl, A', c', rfl, hN.data, hN.dc, hN.dm⟩, rfl, hN.kc, hN.km⟩
    | i + 1, hn => simp at hn
  · match i, hn with
    | 0, hn => simp only [List.getElem?_cons_zero, Option.some.injEq] at hn; subst hn; exact hN.kids
    | i + 1, hn => simp at hn
end
/-- what the law's loop holds: the number of rounds in its box; nothing below was written -/
structure LkI (w1 : World) (nb : Nat) (k : Nat) (V : World) : Prop where
  low : Below nb w1 V
  n : Boxed V nb 3 (.int .i64 (k : Int))
def LkJ (w1 : World) (nb s : Nat) (ys : List Yn) (V : World) : Prop := LkI w1 nb ys.length V ∧ ys.length ≤ s
def LkX (w1 : World) (nb s : Nat) (p : List Yn × Yn) (V : World) : Prop := LkI w1 nb (p.1.length + 1) V ∧ p.1.length = s
theorem LkI.own {w1 : World} {nb k X : Nat} {A B : World} {row : Option Nat} (h : LkI w1 nb k A) (hX : nb ≤ X) (hg : A.grownBy B row) (hr : ∀ r, row = some r → X ≤ r ∧ ∃ o : Obj, A.heap[r]? = some o ∧ o.isCells = false) : LkI w1 nb k B := by
  have hn := h.n
  have hlt := boxed_lt hn
  refine ⟨h.low.grown hg (Nat.le_of_lt hlt) (fun r e => Nat.le_trans hX (hr r e).1), hn.kept hg fun e => ?_⟩
  obtain ⟨_, o, ho, hoc⟩ := hr nb e.symm
  have hn' : A.heap[nb]? = some (.cells #[.int .i64 (k : Int)] 3 (0, 0)) := hn
  rw [hn'] at ho
  cases ho
  cases hoc
theorem lkJ_own {w1 : World} {nb s X : Nat} (hX : nb ≤ X) : OwnFrom X (LkJ w1 nb s) := by
  rintro ys A B row ⟨h1, h2⟩ hg hr
  exact ⟨h1.own hX hg hr, h2⟩
theorem lkX_own {w1 : World} {nb s X : Nat} (hX : nb ≤ X) : OwnFrom X (LkX w1 nb s) := by
  rintro ys A B row ⟨h1, h2⟩ hg hr
  exact ⟨h1.own hX hg hr, h2⟩
def LkG (nb : Nat) : World → Nat → Prop := fun _ i => i = nb
theorem lkG_own (nb X : Nat) : GOwn X (LkG nb) := fun _ _ _ _ _ _ _ h => h
/-- a round: what is new lies behind, the number is written -/
theorem lk_kpg {nb n₀ : Nat} {V W : World} (hb : Below V.heap.size V W) (hn : nb < V.heap.size) (h0 : n₀ ≤ nb) (u : Value) : KpG (LkG nb) n₀ V (W.setCell ⟨nb, 0, none⟩ u) :=
  ⟨(hb.mono (by omega)).setCell h0 _, fun i cs t z hg hi => (Below.heap_setCell _ ⟨nb, 0, none⟩ _ i (show i ≠ nb from hg)).trans ((hb.block i (Array.getElem?_eq_some_iff.1 hi).1).trans hi), fun i _ h => h⟩
theorem NodesS.of_nodes {w : World} {B : Nat} {A : Option Addr} {ns : List Nd} (h : Nodes w B A ns) : NodesS w (fun b => b < B) A ns := by
  induction h with
  | mk vs K c lies len each kids ih => exact .mk vs K c lies len each ih
theorem eql_walk (g : Nat) (w : World) : (binOp .eql 29 (.func (.func 22) #[] #[.pointer (some ⟨g, 0, none⟩)]) .nilFunc).run Tryz.prog w = .ok (.bool false) w := by kernel_rfl
attribute [local go_sem, local simp] eql_walk
/-- the elements of the list that the law has laid for itself -/
theorem Rows2.nodes {W : World} {L : Nat} {S : Nat → Prop} {u : Value} {B : Option Addr} {c : Nat} {l : List (Nat × Nd)} (h : Rows2 W L S u (.slice B l.length c) l) (hS : ∀ b, S b → b < W.heap.size) : Nodes W W.heap.size B (l.map Prod.snd) ∧ l.length ≤ c ∧ c ≤ maxLen := by
  obtain ⟨us, h1, h2, Ks, cs, h3⟩ := h.ns
  have h4 : NodesS W (fun b => b < W.heap.size) B (l.map Prod.snd) := (h3.turn (fun _ _ => rfl) hS).nodesS (fun hne => by
    obtain ⟨ad, q1, q2, q3⟩ := lies_own3 h1 hne
    exact ⟨ad, q1, q2.2, q3⟩)
  exact ⟨h4.nodes fun _ hb => hb, own_cap3 h1⟩
set_option maxRecDepth 100000 in
set_option maxHeartbeats 8000000 in
theorem walks_law (ns : List Nd) (A : Option Addr) (c : Nat) (s : UInt8) (w : World) (h : Nodes w w.heap.size A ns) (hc : ns.length ≤ c) (hm : c ≤ maxLen) (hl : ns.length ≤ 9223372036854775807) (hb : ∀ n ∈ ns, Bnd n) (hh : Handle w) :
    Calls Tryz.prog 3 #[.slice A ns.length c, .int .u8 (s.toNat : Int)] w fun e w' => e = .returned (.bool true) ∧ Below w.heap.size w w' := by
  have hb0 : Below w.heap.size w ((w.alloc (.cells #[.int .u8 (s.toNat : Int)] 5)).alloc (.cells #[.bool false] 4)) := ((Below.refl _ w).alloc (Nat.le_refl _) _).alloc (by simp) _
  have x0 := (Boxed.new w 5 (.int .u8 (s.toNat : Int))).alloc (.cells #[.bool false] 4)
  have x1 := Boxed.new (w.alloc (.cells #[.int .u8 (s.toNat : Int)] 5)) 4 (.bool false)
  simp only [World.size_alloc] at x1
  have hsz0 : ((w.alloc (.cells #[.int .u8 (s.toNat : Int)] 5)).alloc (.cells #[.bool false] 4)).heap.size = w.heap.size + 1 + 1 := by simp
  have hN0 := h.on hb0
  have HH := Lib.hid (hh.below hb0 hh.lt)
  have HB0 := Lib.hid hb0
  have HB := Lib.hid hb
  have HL := Lib.hid hl
  have hsb : s.toNat < 256 := s.toNat_lt
  clear hb hl hh h
  refine (callsIn_wide (n := 6)).1 ?_
  refine callsIn_of_wp_marks Tryz.func3 rfl trivial ?_ rfl
  simp only [Tryz.ntmps3, List.size_toArray, List.length_cons, List.length_nil, Nat.reduceAdd, Nat.reduceSub, Array.replicate_succ, Array.replicate_zero, List.push_toArray, List.append_toArray, List.nil_append, List.cons_append]
  gi_wp2_with fail
  generalize (w.alloc (.cells #[.int .u8 (s.toNat : Int)] 5)).alloc (.cells #[.bool false] 4) = w0 at *
  refine ⟨trivial, (callsIn_wide.2 (awake_any w0 HH.out)).mono ?_⟩
  rintro e w1 ⟨rfl, b1⟩
  have hF := few_any A c ns w1 (hN0.on b1) HL.out HB.out
  have H1 := Lib.hid (HH.out.below b1 HH.out.lt)
  have y0 : Boxed w1 w.heap.size 5 (.int .u8 (s.toNat : Int)) := Whole.below x0 b1 (by omega)
  have y1 : Boxed w1 (w.heap.size + 1) 4 (.bool false) := Whole.below x1 b1 (by omega)
  cases hcf : decide (cnt 21 ns ≤ 200) with
  | false =>
    rw [hcf] at hF
    clear hcf
    gi_wp2_with fail
    refine ⟨trivial, (callsIn_wide.2 hF).mono ?_⟩
    rintro e w2 ⟨rfl, b2⟩
    have z1 : Boxed w2 (w.heap.size + 1) 4 (.bool false) := Whole.below y1 b2 (by have := b1.size; omega)
    have H2 := H1.out.below b2 H1.out.lt
    gi_wp2_with fail
    refine ⟨trivial, (callsIn_wide.2 (awake_any w2 H2)).mono ?_⟩
    rintro e w3 ⟨rfl, b3⟩
    have z3 : Boxed w3 (w.heap.size + 1) 4 (.bool false) := Whole.below z1 b3 (by have := b1.size; have := b2.size; omega)
    have q0 := z3.cell
    have q1 := z3.frozen
    have B3 := HB0.out.trans (((b1.trans (b2.mono b1.size)).trans (b3.mono (b1.trans (b2.mono b1.size)).size)).mono HB0.out.size)
    gi_wp2_with fail
    refine ⟨_, results_cell1 rfl _ _ (w.heap.size + 1) 4 (.bool true) _ rfl (z3.set (.bool true)) Tryz.underlying4 rfl, ?_⟩
    exact ⟨rfl, B3.setCell (by simp) _⟩
  | true =>
    obtain ⟨hn2, hsz, hfine⟩ := few_fine 21 ns (of_decide_eq_true hcf)
    obtain ⟨hfl, hfd⟩ := flats_few 21 ns 1 (of_decide_eq_true hcf)
    have hfl2 : (flats ns 1).length ≤ 200 := Nat.le_trans hfl (of_decide_eq_true hcf)
    have HFD := Lib.hid (show ∀ x ∈ flats ns 1, x.1 ≤ 1000000 from fun x hx => by have := hfd x hx; omega)
    have HF2 := Lib.hid (show ∀ x ∈ ns, Few2 x from fun x hx => Fine.few2 x (hfine x hx))
    have HF1 := Lib.hid (show ∀ x ∈ ns, Few1 x from fun x hx => Fine.few1 x (hfine x hx))
    rw [hcf] at hF
    clear hcf hfine hfd hfl hsz
    gi_wp2_with fail
    refine ⟨trivial, (callsIn_wide.2 hF).mono ?_⟩
    rintro e w2 ⟨rfl, b2⟩
    have b02 := b1.trans (b2.mono b1.size)
    have hN2 := hN0.on b02
    have hL2 := list_any ns 1 A c (fun b => b < w2.heap.size) w2 (NodesS.of_nodes hN2) (fun _ h => h) HFD.out (by omega) (by omega) (by omega) HF2.out
    rw [show ((1 : Nat) : Int) = 1 from rfl] at hL2
    gi_wp2_with fail
    refine ⟨trivial, (callsIn_wide.2 hL2).mono ?_⟩
    rintro e w3 ⟨A1, c1, A2, c2, rfl, hR3, b3⟩
    have b03 := b02.trans (b3.mono b02.size)
    have hs0 := b02.size
    have hs3 := b3.size
    have hb4 : Below w3.heap.size w3 ((w3.alloc (.cells #[.slice A1 (flats ns 1).length c1] 25)).alloc (.cells #[.slice A2 (flats ns 1).length c2] 22)) := ((Below.refl _ w3).alloc (Nat.le_refl _) _).alloc (by simp) _
    have e0 := (Boxed.new w3 25 (.slice A1 (flats ns 1).length c1)).alloc (.cells #[.slice A2 (flats ns 1).length c2] 22)
    have e1 := Boxed.new (w3.alloc (.cells #[.slice A1 (flats ns 1).length c1] 25)) 22 (.slice A2 (flats ns 1).length c2)
    simp only [World.size_alloc] at e1
    have hsz4 : ((w3.alloc (.cells #[.slice A1 (flats ns 1).length c1] 25)).alloc (.cells #[.slice A2 (flats ns 1).length c2] 22)).heap.size = w3.heap.size + 1 + 1 := by simp
    have b04 := b03.trans (hb4.mono b03.size)
    have hW := walk_any A c ns _ (hN0.on b04) (by omega) HF2.out
    gi_wp2_with fail
    generalize (w3.alloc (.cells #[.slice A1 (flats ns 1).length c1] 25)).alloc (.cells #[.slice A2 (flats ns 1).length c2] 22) = w4 at *
    refine ⟨trivial, (callsIn_wide.2 hW).mono ?_⟩
    rintro e w5 ⟨g, A', c', rfl, hWg, hNW, hc', hm', hgg, b5⟩
    have b05 := b04.trans (b5.mono b04.size)
    have hs5 := b5.size
    have hgl := hWg.lt
    have hI0 : LkI w5 w5.heap.size 0 (w5.alloc (.cells #[.int .i64 0] 3)) := ⟨(Below.refl _ w5).alloc (Nat.le_refl _) _, Boxed.new w5 3 (.int .i64 0)⟩
    have hsz6 : (w5.alloc (.cells #[.int .i64 0] 3)).heap.size = w5.heap.size + 1 := by simp
    gi_wp2_with fail
    generalize (w5.alloc (.cells #[.int .i64 0] 3)) = w6 at *
    -- what lies below the number of rounds
    have hFl := hR3.nodes (fun b hb => Nat.lt_of_lt_of_le hb hs3)
    have hDp := own_liesW hR3.ds (fun e => by simp [dvals, List.eq_nil_of_length_eq_zero e])
    have k35 : ∀ V, Below w5.heap.size w5 V → Below w3.heap.size w3 V := fun V hV => hb4.trans ((b5.trans (hV.mono hs5)).mono (by omega))
    have KB : Hid (∀ V, Below w5.heap.size w5 V → Boxed V w.heap.size 5 (.int .u8 (s.toNat : Int)) ∧ Boxed V (w.heap.size + 1) 4 (.bool false) ∧ Boxed V w3.heap.size 25 (.slice A1 (flats ns 1).length c1) ∧ Boxed V (w3.heap.size + 1) 22 (.slice A2 (flats ns 1).length c2) ∧
        Lies V w3.heap.size A1 (dvals (flats ns 1)) ∧ Nodes V w3.heap.size A2 ((flats ns 1).map Prod.snd)) := fun V hV => by
      have h0 : Below w1.heap.size w1 V := (b2.trans (b3.mono b2.size)).trans ((k35 V hV).mono (b2.trans (b3.mono b2.size)).size)
      have h4 := b5.trans (hV.mono hs5)
      have hs1 := b1.size
      exact ⟨Whole.below y0 h0 (by omega), Whole.below y1 h0 (by omega), Whole.below e0 h4 (by omega), Whole.below e1 h4 (by omega), hDp.keep fun _ hp => (k35 V hV).cell hp, hFl.1.keep fun _ hp => (k35 V hV).cell hp⟩
    have HC2 := Lib.hid hFl.2
    have HB05 := Lib.hid b05
    have HNW := Lib.hid hNW
    clear hR3 hFl hDp k35 e0 e1 x0 x1 y0 y1 hW hL2 hF hNW
    refine each_leave (.exit 0) (F := Fence.wide) (n := 6) (P := Tryz.prog) rfl (by omega) (gf := 22) (lb := #[.pointer (some ⟨g, 0, none⟩)]) rfl trivial (enters_of Tryz.func22 (by kernel_rfl) rfl)
      (encs := encN) (Kp := KpG (LkG w5.heap.size) w5.heap.size) (G := LkG w5.heap.size) (Row := fun pre W x => RowN (LkG w5.heap.size) W x ∧ Nxt (flats ns 1) pre x) (Fin := FinW ns) (FinX := FinWX ns) (N := 200) ?hseq (fun _ => rfl)
      KpG.trans ?hKb (LkJ w5 w5.heap.size s.toNat) (lkJ_own (by omega)) (LkX w5 w5.heap.size s.toNat) (lkX_own (by omega)) ⟨hI0, Nat.zero_le _⟩ (fun _ _ h i hi => by cases hi; exact boxed_lt h.1.n)
      (fun pre x a' V => ∃ gx, a' = { tmps := #[.slice A ns.length c, .int .u8 (s.toNat : Int), undef, .pointer (some ⟨w.heap.size, 0, none⟩), .pointer (some ⟨w.heap.size + 1, 0, none⟩), .pointer (some ⟨w3.heap.size, 0, none⟩), .pointer (some ⟨w3.heap.size + 1, 0, none⟩), .func (.func 22) #[] #[.pointer (some ⟨g, 0, none⟩)], .pointer (some ⟨w5.heap.size, 0, none⟩), .int .i64 (x.d : Int), .pointer (some ⟨gx, 0, none⟩), undef, undef, undef, .bool true, .bool false, .bool false, .slice A ns.length c, .bool true, .bool false, .bool false, undef, .tuple #[.slice A1 (flats ns 1).length c1, .slice A2 (flats ns 1).length c2], .slice A ns.length c, .tuple #[.slice A1 (flats ns 1).length c1, .slice A2 (flats ns 1).length c2], .slice A1 (flats ns 1).length c1, .slice A2 (flats ns 1).length c2, .slice A ns.length c, .func (.func 22) #[] #[.pointer (some ⟨g, 0, none⟩)], .func (.func 22) #[] #[.pointer (some ⟨g, 0, none⟩)], .bool false, .func (.func 22) #[] #[.pointer (some ⟨g, 0, none⟩)], .int .i64 (x.d : Int), ndV x.n x.A x.c x.K x.k, undef, undef, undef, undef, undef, undef, undef, undef, undef, undef, undef, undef, undef, undef, undef, undef, undef, undef, undef, undef, undef, undef, undef, undef, undef, undef, undef, undef, undef, undef, undef, undef, undef, undef, undef, undef, undef, undef, undef, undef, undef, undef, undef, undef, undef, undef, undef, undef, undef, undef, undef, undef, undef, undef, undef, undef, undef, undef, undef, undef, undef, undef, undef, undef, undef, undef, undef, undef, undef, undef, undef, undef, undef], defers := [] } ∧
        Whole V gx 34 #[hv x.n.t, .slice x.A x.n.v.length x.c, .slice x.K x.n.ks.length x.k] ∧ LkJ w5 w5.heap.size s.toNat pre V ∧ RowN (LkG w5.heap.size) V x ∧ Nxt (flats ns 1) pre x) ?hAx
      ?assign ?body ?done ?stop
    case hseq =>
      intro l J Jx V hV hJo hJxo hJG hY hj
      have h5 : Below w5.heap.size w5 V := hI0.low.trans (hV.mono (by omega))
      have hVs := hV.size
      refine walkit_in l g w5.heap.size 200 A' c' ns (fun b => b < w5.heap.size) (LkG w5.heap.size) V (lkG_own _ _) J Jx hJo hJxo hJG (fun pre x W1 h1 h2 h3 h4 => hY pre x W1 h1 h2 ⟨h3, h4⟩) (Whole.below hWg h5 hgl) (fun b hb => ⟨by omega, fun e => by have e' : b = w5.heap.size := e; omega⟩)
        (NodesS.of_nodes (HNW.out.keep fun _ hp => h5.cell hp)) hc' hm' HFD.out HF2.out (by omega) hfl2 (by omega) hj
    case hKb =>
      intro V l o o' hl ho hoc
      have hlt := (Array.getElem?_eq_some_iff.1 ho).1
      refine ⟨(Below.refl _ V).grown (grownBy_putObj' V l o') (by omega) (fun k e => by cases e; omega), fun i cs t z _ hi => ?_, fun i _ hi => hi⟩
      rw [World.putObj_heap_other (fun e => ?_)]
      · exact hi
      · subst e
        rw [hi] at ho
        cases ho
        cases hoc
    case hAx =>
      rintro pre x a' s X Y row ⟨gx, ha, hw, hi, hr1, hr2⟩ hg hr
      have hXs := boxed_lt hi.1.n
      refine ⟨gx, ha, (hg.block gx hw.lt (fun e => ?_)).trans hw, lkJ_own (by omega) _ _ _ _ hi hg hr, rowN_own (lkG_own _ _) (by omega) hg hr hr1, hr2⟩
      obtain ⟨_, o, ho, hoc⟩ := hr gx e.symm
      unfold Whole at hw
      rw [hw] at ho
      cases ho
      cases hoc
    case assign =>
      intro l' pre x V K hi ⟨hrx, hnx⟩ hK
      have hk : ∀ o, KeepsFrom w6.heap.size V (V.alloc o) := fun o => (KeepsOthers.alloc V o).from _
      simp only [encN, ndV]
      gi_wp2
      have hb := (Below.refl V.heap.size V).alloc (Nat.le_refl _) (.cells #[hv x.n.t, .slice x.A x.n.v.length x.c, .slice x.K x.n.ks.length x.k] 34)
      have hgr := grown_of_below hb
      have hXs := boxed_lt hi.1.n
      exact hK _ _ (hk _) ⟨hb.mono (by omega), fun i _ _ _ _ h2 => (hb.block i (Array.getElem?_eq_some_iff.1 h2).1).trans h2, fun i _ h2 => h2⟩
        ⟨V.heap.size, rfl, Whole.new _ _ _, lkJ_own (Nat.le_refl w5.heap.size) _ _ _ none hi hgr (fun _ e => by cases e), rowN_own (lkG_own _ w5.heap.size) (by omega) hgr (fun _ e => by cases e) hrx, hnx⟩
    case body =>
      rintro l' pre x a' V ⟨gx, rfl, hw, hi, ⟨S1, hH1, hN1, hF1⟩, hnx⟩ hlen
      obtain ⟨post, hp⟩ := hnx
      have hlow := hi.1.low
      obtain ⟨k0, k1, k2, k3, k4, k5⟩ := KB.out V hlow
      have hVs := boxed_lt hi.1.n
      have hfe : (flats ns 1)[pre.length]? = some (x.d, x.n) := by
        rw [hp, List.getElem?_append_right (by simp), List.length_map, Nat.sub_self]
        rfl
      have hlt : pre.length < (flats ns 1).length := (List.getElem?_eq_some_iff.1 hfe).1
      obtain ⟨ad1, hA1, hb1, hc1⟩ := k4 (fun e => by rw [dvals, List.map_eq_nil_iff] at e; rw [e] at hlt; simp at hlt)
      have hd1 := hc1 pre.length (.int .i64 (x.d : Int)) (by rw [dvals, List.getElem?_map, hfe]; rfl)
      have hfn : ((flats ns 1).map Prod.snd)[pre.length]? = some x.n := by rw [List.getElem?_map, hfe]; rfl
      obtain ⟨ad2, A2', cc2, K2', kk2, hA2, hb2, hN2', hone⟩ := k5.one1 hfn
      rw [hA1] at k2
      rw [hA2] at k3
      have hNx : Node V V.heap.size x.A x.c x.K x.k x.n := hN1.node (fun b hb => (hH1 b hb).1)
      have hal := (Below.refl _ V).alloc (Nat.le_refl _) (.cells #[hv x.n.t, .slice x.A x.n.v.length x.c, .slice x.K x.n.ks.length x.k] 34)
      have hSame : Calls Tryz.prog 8 #[.slice (some ⟨V.heap.size, 0, none⟩) 1 1, .slice (some (ad2.add (pre.length * 3))) 1 (c2 - pre.length)] (V.alloc (.cells #[hv x.n.t, .slice x.A x.n.v.length x.c, .slice x.K x.n.ks.length x.k] 34)).drew fun e w' => e = .returned (.bool true) ∧ Below V.heap.size V w' := by
        have h1 := hNx.list1 34
        have h2 := (hone.more (show w3.heap.size ≤ V.heap.size by omega)).on hal
        refine (rsame_any [x.n] [x.n] (some ⟨V.heap.size, 0, none⟩) (some (ad2.add (pre.length * 3))) 1 (c2 - pre.length) (V.alloc (.cells #[hv x.n.t, .slice x.A x.n.v.length x.c, .slice x.K x.n.ks.length x.k] 34)).drew ((h1.more (by simp)).keep fun _ _ => rfl) (h2.keep fun _ _ => rfl) (by simp) (by simp)).mono fun e w' h => ⟨?_, hal.trans ((below_undrew h.2).mono hal.size)⟩
        rw [h.1, beqL_true rfl]
      have HSame := Lib.hid hSame
      clear hSame
      have KS : Hid (∀ W, Below V.heap.size V W → W.cell? ⟨w5.heap.size, 0, none⟩ = some (.int .i64 (pre.length : Int)) ∧ W.cell? ⟨w3.heap.size + 1, 0, none⟩ = some (.slice (some ad2) (flats ns 1).length c2) ∧ W.cell? ⟨w3.heap.size, 0, none⟩ = some (.slice (some ad1) (flats ns 1).length c1) ∧ W.cell? (ad1.add pre.length) = some (.int .i64 (x.d : Int)) ∧
          W.cell? ⟨gx, 0, none⟩ = some (hv x.n.t) ∧ W.cell? ⟨gx, 1, none⟩ = some (.slice x.A x.n.v.length x.c) ∧ W.cell? ⟨gx, 2, none⟩ = some (.slice x.K x.n.ks.length x.k)) := fun W hW => by
        have hw8 := Whole.below hw hW hw.lt
        exact ⟨Boxed.cell (t := 3) (Whole.below hi.1.n hW hVs), Boxed.cell (t := 22) (Whole.below k3 hW (by omega)), Boxed.cell (t := 25) (Whole.below k2 hW (by omega)), (hW.cell (by rw [blk_add]; omega)).trans hd1, by rw [hw8.cell]; rfl, by rw [hw8.cell]; rfl, by rw [hw8.cell]; rfl⟩
      have HI := Lib.hid hi
      have HN := Lib.hid hi.1.n
      have HK0 := Lib.hid k0
      have HLT := Lib.hid hlt
      clear hi k1 k2 k3 k4 k5 hd1 hone hN2' hc1 hal hNx hfe hfn hp k0
      gi_wp2_with fail
      refine region11W ?hq ?hQp _ _ _ _ _ _ _ _ _ _ _ _ _ _ _ _ _ _ _ _ _ _ _ _ _ _ _ _ _ _ _ _ _ _ _ _ _ _ _ _ _ _ _ _ _ _ _ _ _ _ _ _ _ _ _ _ _ _ _ _ _ _ _ _ _ _ _ _ _ _ _ _ _ _ _ _ _ _ _ _ _ _ _ _ _ _ _ _ _ _ _ _ _ _ _ _ _ _ _ _ _ _ w5.heap.size (w3.heap.size + 1) w3.heap.size gx x.d pre.length (flats ns 1).length ad1 ad2 c1 c2 x.n x.A x.c x.K x.k V KS HLT.out hfl2 HC2.out.1 HSame ?_
      case hq => rintro ⟨a, w, h⟩; exact h
      case hQp => exact fun c a d v w h => h
      intro u34 u35 u36 u37 u38 u39 u40 u41 u42 u43 u44 u45 u46 u47 u48 u49 u50 u51 u52 u53 u54 u55 w8 b8
      have n8 : Boxed w8 w5.heap.size 3 (.int .i64 (pre.length : Int)) := Whole.below HN.out b8 hVs
      have s8 : Boxed w8 w.heap.size 5 (.int .u8 (s.toNat : Int)) := Whole.below HK0.out b8 (by omega)
      have n9 := n8.set (.int .i64 ((pre.length : Int) + 1))
      have q0 := n8.cell
      have q1 := n8.frozen
      have q2 := n9.cell
      have q3 := (s8.other (B' := w5.heap.size) (by omega) (.int .i64 ((pre.length : Int) + 1))).cell
      have hkf : KeepsFrom w6.heap.size V (w8.setCell ⟨w5.heap.size, 0, none⟩ (.int .i64 ((pre.length : Int) + 1))) := KeepsFrom.trans ⟨b8.size, fun k o _ hk ho => (b8.block k (Array.getElem?_eq_some_iff.1 hk).1).trans hk⟩ ((KeepsOthers.setCell _ _ _).from _)
      have hkp := lk_kpg (n₀ := w5.heap.size) b8 hVs (Nat.le_refl _) (.int .i64 ((pre.length : Int) + 1))
      have hlk : LkI w5 w5.heap.size (pre.length + 1) (w8.setCell ⟨w5.heap.size, 0, none⟩ (.int .i64 ((pre.length : Int) + 1))) := ⟨(hlow.trans (b8.mono (Nat.le_of_lt hVs))).setCell (Nat.le_refl _) _, n9⟩
      have hps := HI.out.2
      have HX := Lib.hid (show KeepsFrom w6.heap.size V (w8.setCell ⟨w5.heap.size, 0, none⟩ (.int .i64 ((pre.length : Int) + 1))) ∧ KpG (LkG w5.heap.size) w5.heap.size V (w8.setCell ⟨w5.heap.size, 0, none⟩ (.int .i64 ((pre.length : Int) + 1))) ∧ LkI w5 w5.heap.size (pre.length + 1) (w8.setCell ⟨w5.heap.size, 0, none⟩ (.int .i64 ((pre.length : Int) + 1))) from ⟨hkf, hkp, hlk⟩)
      clear hkf hkp hlk n8 s8 n9
      by_cases hst : s.toNat < pre.length + 1
      · have hst1 : (s.toNat : Int) < (pre.length : Int) + 1 := by omega
        gi_wp2_with fail
        exact ⟨rfl, HX.out.1, HX.out.2.2, by show pre.length = s.toNat; omega⟩
      · have hst1 : ¬ (s.toNat : Int) < (pre.length : Int) + 1 := by omega
        gi_wp2_with fail
        refine ⟨by first | exact HX.out.1 | (have h9 := HX.out.1; rw [hsz6] at h9; exact h9), HX.out.2.1, ?_, ?_⟩
        · rw [List.length_append]; exact HX.out.2.2
        · rw [List.length_append]; simp; omega
    case done =>
      rintro D xs V hD hF hi hKD
      have hlen : xs.length = (flats ns 1).length := by have := congrArg List.length (show xs.map Yn.key = flats ns 1 from hF); simpa using this
      have hH := hi.2
      have hlk := hi.1
      rw [hlen] at hlk hH
      have hm1 : ((flats ns 1).length : Int) < (s.toNat : Int) + 1 := by omega
      have hm2 : min ((flats ns 1).length : Int) ((s.toNat : Int) + 1) = ((flats ns 1).length : Int) := by omega
      clear hi hlen
      obtain ⟨k0, k1, _, k3, _, _⟩ := KB.out V hlk.low
      have hs1 := b1.size
      have hVn := boxed_lt hlk.n
      have bV : Below w0.heap.size w0 V := (b04.trans (b5.mono b04.size)).trans (hlk.low.mono (by omega))
      have HNV : Hid (∀ W, Below V.heap.size V W → Nodes W W.heap.size A ns) := fun W hW => hN0.on (bV.trans (hW.mono bV.size))
      have HR := Lib.hid k1
      have q0 := hlk.n.cell
      have q1 := k3.cell
      have q2 := k0.cell
      have HKD := Lib.hid hKD
      have HBV := Lib.hid (HB0.out.trans (bV.mono HB0.out.size))
      clear hlk k0 k1 k3 hKD hF hH
      gi_wp2_with fail
      gi_loopw [11] (fun i wr => ∃ k : Nat, k ≤ ns.length ∧ i = .int .i64 k ∧ Below V.heap.size V wr) (fun i _ => ns.length - (intOf i).toNat)
      case atStart => exact ⟨0, Nat.zero_le _, rfl, Below.refl _ _⟩
      case round =>
        obtain ⟨k, hk, rfl, hbel⟩ := hrel
        by_cases hlt : k < ns.length
        · obtain ⟨ad, A3, cc3, K3, kk3, n, hAe, hbA, hn, d0, d1, d2, hN3⟩ := (HNV.out wr hbel).at_ hlt
          obtain ⟨ad', _, _, _, _, hAe', _, _, hone⟩ := (HNV.out wr hbel).one1 hn.out
          obtain rfl : ad' = ad := by rw [hAe] at hAe'; cases hAe'; rfl
          have hf2 := HF2.out n (List.mem_of_getElem? hn.out)
          have hf1 := HF1.out n (List.mem_of_getElem? hn.out)
          have hC := rclone_any [n] (some (ad'.add (k * 3))) (c - k) wr hone (by intro m hm; rw [List.mem_singleton.1 hm]; exact hf2) (by simp)
          simp only [List.length_singleton] at hC
          have hkL : (k : Int) < (ns.length : Int) := by omega
          have hk0 : (0 : Int) ≤ (k : Int) := by omega
          have hk1 : (k : Int) ≤ (k : Int) + 1 := by omega
          have hk2 : (k : Int) + 1 ≤ (c : Int) := by omega
          have hwr : IntKind.i64.wrap ((k : Int) + 1) = (k : Int) + 1 := by unfold maxLen at hm; unfold IntKind.wrap IntKind.bits; simp; omega
          have htn : ((k : Int) + 1).toNat = k + 1 := by omega
          have hk3 : (0 : Int) ≤ (k : Int) + 1 := by omega
          have hne : ¬ c = k := by omega
          have h11 : k + 1 - k = 1 := by omega
          rw [hAe]
          gi_wp2_with fail
          refine ⟨trivial, (callsIn_wide.2 hC).mono ?_⟩
          rintro e v1 ⟨A5, c5, rfl, hN5, hc5, hm5, g1⟩
          obtain ⟨ad5, A6, c6, K6, k6, n6, hAe5, hb5, hn6, p0, p1, p2, hN6⟩ := hN5.at_ (k := 0) (by simp)
          obtain rfl : n6 = n := by have := hn6.out; simp at this; exact this.symm
          have hg1 := g1.size
          have hcl := nclone_any n6 hf2 A6 c6 K6 k6 v1 (hN6.node fun b hb => hb.2.1)
          have p0' : v1.cell? ad5 = some (hv n6.t) := by simpa [Addr.add] using p0
          have p1' : v1.cell? ⟨ad5.block, ad5.off + 1, none⟩ = some (.slice A6 n6.v.length c6) := by simpa [Addr.add] using p1
          have p2' : v1.cell? ⟨ad5.block, ad5.off + 2, none⟩ = some (.slice K6 n6.ks.length k6) := by simpa [Addr.add] using p2
          rw [hAe5] at hN5
          rw [hAe5]
          clear p0 p1 p2 hC hAe' hAe5
          gi_wp2_with fail
          refine ⟨trivial, (callsIn_wide.2 hcl).mono ?_⟩
          rintro e v2 ⟨A7, c7, K7, k7, rfl, hN7, g2⟩
          have hg2 := g2.size
          have g3 := g2.alloc g2.size (.cells #[hv n6.t, .slice A7 n6.v.length c7, .slice K7 n6.ks.length k7] 34)
          have hch := change_any [n6] (some ad5) c5 (NewL wr v1) (v2.alloc (.cells #[hv n6.t, .slice A7 n6.v.length c7, .slice K7 n6.ks.length k7] 34)) ((hN5.turn (fun p hp => g3.cell hp.2.1) (fun _ h => h)).sh) (fun b hb => hb.2.2.same (g3.block b hb.2.1)) (by intro m hm; rw [List.mem_singleton.1 hm]; exact hf2) (by simp)
          simp only [List.length_singleton] at hch
          clear p0' p1' p2' hcl
          gi_wp2_with fail
          refine ⟨trivial, (callsIn_wide.2 hch).mono ?_⟩
          rintro e v4 ⟨rfl, hkin⟩
          have hbw : Whole v4 v2.heap.size 34 #[hv n6.t, .slice A7 n6.v.length c7, .slice K7 n6.ks.length k7] := (hkin.out v2.heap.size (fun h => by have := h.2.1; omega)).trans (Whole.new v2 34 #[hv n6.t, .slice A7 n6.v.length c7, .slice K7 n6.ks.length k7])
          have hv4 : v4.heap.size = v2.heap.size + 1 := by rw [hkin.size]; simp
          have B4 : Below wr.heap.size wr v4 := (g1.trans (g3.mono hg1)).trans (hkin.below (fun b hb => hb.1))
          have hN4 : Node v4 v4.heap.size A7 c7 K7 k7 n6 := (hN7.turn (S' := fun b => b < v4.heap.size) (fun p hp => (World.cell?_of_block (hkin.out p.block (fun h => by have := h.2.1; have := hp.1; omega))).trans (World.cell?_alloc_lt v2 _ p hp.2)) (fun b hb => by have := hb.2; omega)).node fun _ h => h
          have hL4 : Node v4 wr.heap.size A3 cc3 K3 kk3 n6 := hN3.below B4
          have hO4 := (hone.bel B4)
          have KS : Hid (∀ W, Below v4.heap.size v4 W → W.cell? ⟨v2.heap.size, 0, none⟩ = some (hv n6.t) ∧ W.cell? ⟨v2.heap.size, 1, none⟩ = some (.slice A7 n6.v.length c7) ∧ W.cell? ⟨v2.heap.size, 2, none⟩ = some (.slice K7 n6.ks.length k7) ∧ W.cell? (ad'.add (k * 3)) = some (hv n6.t) ∧ W.cell? ⟨(ad'.add (k * 3)).block, (ad'.add (k * 3)).off + 1, none⟩ = some (.slice A3 n6.v.length cc3) ∧ W.cell? ⟨(ad'.add (k * 3)).block, (ad'.add (k * 3)).off + 2, none⟩ = some (.slice K3 n6.ks.length kk3)) := fun W hW => by
            have hw := Whole.below hbw hW hbw.lt
            have h0 := B4.trans (hW.mono B4.size)
            exact ⟨by rw [hw.cell]; rfl, by rw [hw.cell]; rfl, by rw [hw.cell]; rfl, (h0.cell (by rw [blk_add]; exact hbA)).trans d0, (h0.cell (p := ⟨(ad'.add (k * 3)).block, (ad'.add (k * 3)).off + 1, none⟩) (by show (ad'.add (k * 3)).block < _; rw [blk_add]; exact hbA)).trans d1, (h0.cell (p := ⟨(ad'.add (k * 3)).block, (ad'.add (k * 3)).off + 2, none⟩) (by show (ad'.add (k * 3)).block < _; rw [blk_add]; exact hbA)).trans d2⟩
          have HSN : Hid (∀ W, Below v4.heap.size v4 W → Calls Tryz.prog 12 #[.agg #[hv n6.t, .slice A7 n6.v.length c7, .slice K7 n6.ks.length k7], .agg #[hv n6.t, .slice A3 n6.v.length cc3, .slice K3 n6.ks.length kk3]] W fun e w' => e = .returned (.bool true) ∧ Below v4.heap.size v4 w' ∧ Below W.heap.size W w') := fun W hW => by
            refine (nsame_any n6 n6 hf1 A7 c7 K7 k7 A3 cc3 K3 kk3 W (hN4.on hW) ((hL4.more B4.size).on hW)).mono fun e w' h => ⟨?_, hW.trans (h.2.mono hW.size), h.2⟩
            rw [h.1, (Nd.beq_eq n6 n6).2 rfl]
          have HSR : Hid (∀ W g1, Below v4.heap.size v4 W → Whole W g1 34 #[hv n6.t, .slice A7 n6.v.length c7, .slice K7 n6.ks.length k7] → Calls Tryz.prog 8 #[.slice (some ⟨g1, 0, none⟩) 1 1, .slice (some (ad'.add (k * 3))) 1 (c - k)] W fun e w' => e = .returned (.bool true) ∧ Below v4.heap.size v4 w') := fun W g1 hW q1 => by
            refine (rsame_any [n6] [n6] (some ⟨g1, 0, none⟩) (some (ad'.add (k * 3))) 1 (c - k) W (list1_of q1 (hN4.on hW)) ((hO4.more B4.size).on hW) (by simp) (by simp)).mono fun e w' h => ⟨?_, hW.trans (h.2.mono hW.size)⟩
            rw [h.1, beqL_true rfl]
          obtain ⟨s0, s1, s2, s3, s4, s5⟩ := KS.out v4 (Below.refl _ _)
          have HB4 := Lib.hid (hbel.trans (B4.mono hbel.size))
          clear hkin hbw hN4 hL4 hO4 g1 g2 g3 hch hN5 hN7 hone hN3 hN6 d0 d1 d2 B4
          gi_wp2_with fail
          refine wpIn_wide.2 ?_
          go_region_held3 (fun W => W.cell? ⟨v2.heap.size, 0, none⟩ = some (hv n6.t) ∧ W.cell? ⟨v2.heap.size, 1, none⟩ = some (.slice A7 n6.v.length c7) ∧ W.cell? ⟨v2.heap.size, 2, none⟩ = some (.slice K7 n6.ks.length k7) ∧ W.cell? (ad'.add (k * 3)) = some (hv n6.t) ∧ W.cell? ⟨(ad'.add (k * 3)).block, (ad'.add (k * 3)).off + 1, none⟩ = some (.slice A3 n6.v.length cc3) ∧ W.cell? ⟨(ad'.add (k * 3)).block, (ad'.add (k * 3)).off + 2, none⟩ = some (.slice K3 n6.ks.length kk3))
            (first | exact KS.out _ (below_drew (Below.refl _ _)) | exact KS.out _ R5 | exact KS.out _ (R5.alloc R5.size _) | exact KS.out _ R6 | fail)
            (first
            | (go_at_call 12; (with_reducible refine (HSN.out _ (below_drew (Below.refl _ _))).mono ?_); rintro e z5 ⟨rfl, R5, b5⟩)
            | (go_at_call 8; (with_reducible refine (HSR.out _ _ (R5.alloc R5.size _) (Whole.new _ _ _)).mono ?_); rintro e z6 ⟨rfl, R6⟩)
            | fail)
          gi_wp2_with fail
          exact ⟨⟨k + 1, by omega, by go_num, HB4.out.trans (R6.mono HB4.out.size)⟩, by simp [intOf]; omega⟩
        · have ht : ¬ (k : Int) < (ns.length : Int) := by omega
          have rr : Boxed wr (w.heap.size + 1) 4 (.bool false) := Whole.below HR.out hbel (by omega)
          have r0 := rr.cell
          have r1 := rr.frozen
          gi_wp2_with fail
          have hDV := (Array.getElem?_eq_some_iff.1 HKD.out).1
          have hK2 : (wr.setCell ⟨w.heap.size + 1, 0, none⟩ (.bool true)).heap[D]? = some (.deferred (some [])) := (KeepsOthers.setCell _ _ _).same D _ ((hbel.block D hDV).trans HKD.out) rfl
          refine ⟨by simp, .inl ⟨_, _, rfl, run_takeDeferred hK2, ?_⟩⟩
          refine ⟨_, results_cell1 rfl _ _ (w.heap.size + 1) 4 (.bool true) _ rfl ((World.putObj_heap_other (by omega)).trans (rr.set (.bool true))) Tryz.underlying4 rfl, ?_⟩
          have hfin := (HBV.out.trans (hbel.mono HBV.out.size)).setCell (p := ⟨w.heap.size + 1, 0, none⟩) (by simp) (.bool true)
          exact ⟨rfl, hfin.grown (grownBy_putObj' _ D _) hfin.size (fun k e => by cases e; omega)⟩
    case stop =>
      rintro D p V hD hF hi hKD
      obtain ⟨post, hp⟩ := hF
      have hlen := congrArg List.length hp
      rw [List.length_append, List.length_cons, List.length_map, hi.2] at hlen
      have hlk := hi.1
      rw [hi.2] at hlk
      have hm1 : ¬ ((flats ns 1).length : Int) < (s.toNat : Int) + 1 := by omega
      have hm2 : min ((flats ns 1).length : Int) ((s.toNat : Int) + 1) = (s.toNat : Int) + 1 := by omega
      have hF := trivial
      have hH := trivial
      clear hi hlen hp
      obtain ⟨k0, k1, _, k3, _, _⟩ := KB.out V hlk.low
      have hs1 := b1.size
      have hVn := boxed_lt hlk.n
      have bV : Below w0.heap.size w0 V := (b04.trans (b5.mono b04.size)).trans (hlk.low.mono (by omega))
      have HNV : Hid (∀ W, Below V.heap.size V W → Nodes W W.heap.size A ns) := fun W hW => hN0.on (bV.trans (hW.mono bV.size))
      have HR := Lib.hid k1
      have q0 := hlk.n.cell
      have q1 := k3.cell
      have q2 := k0.cell
      have HKD := Lib.hid hKD
      have HBV := Lib.hid (HB0.out.trans (bV.mono HB0.out.size))
      clear hlk k0 k1 k3 hKD hF hH
      gi_wp2_with fail
      gi_loopw [11] (fun i wr => ∃ k : Nat, k ≤ ns.length ∧ i = .int .i64 k ∧ Below V.heap.size V wr) (fun i _ => ns.length - (intOf i).toNat)
      case atStart => exact ⟨0, Nat.zero_le _, rfl, Below.refl _ _⟩
      case round =>
        obtain ⟨k, hk, rfl, hbel⟩ := hrel
        by_cases hlt : k < ns.length
        · obtain ⟨ad, A3, cc3, K3, kk3, n, hAe, hbA, hn, d0, d1, d2, hN3⟩ := (HNV.out wr hbel).at_ hlt
          obtain ⟨ad', _, _, _, _, hAe', _, _, hone⟩ := (HNV.out wr hbel).one1 hn.out
          obtain rfl : ad' = ad := by rw [hAe] at hAe'; cases hAe'; rfl
          have hf2 := HF2.out n (List.mem_of_getElem? hn.out)
          have hf1 := HF1.out n (List.mem_of_getElem? hn.out)
          have hC := rclone_any [n] (some (ad'.add (k * 3))) (c - k) wr hone (by intro m hm; rw [List.mem_singleton.1 hm]; exact hf2) (by simp)
          simp only [List.length_singleton] at hC
          have hkL : (k : Int) < (ns.length : Int) := by omega
          have hk0 : (0 : Int) ≤ (k : Int) := by omega
          have hk1 : (k : Int) ≤ (k : Int) + 1 := by omega
          have hk2 : (k : Int) + 1 ≤ (c : Int) := by omega
          have hwr : IntKind.i64.wrap ((k : Int) + 1) = (k : Int) + 1 := by unfold maxLen at hm; unfold IntKind.wrap IntKind.bits; simp; omega
          have htn : ((k : Int) + 1).toNat = k + 1 := by omega
          have hk3 : (0 : Int) ≤ (k : Int) + 1 := by omega
          have hne : ¬ c = k := by omega
          have h11 : k + 1 - k = 1 := by omega
          rw [hAe]
          gi_wp2_with fail
          refine ⟨trivial, (callsIn_wide.2 hC).mono ?_⟩
          rintro e v1 ⟨A5, c5, rfl, hN5, hc5, hm5, g1⟩
          obtain ⟨ad5, A6, c6, K6, k6, n6, hAe5, hb5, hn6, p0, p1, p2, hN6⟩ := hN5.at_ (k := 0) (by simp)
          obtain rfl : n6 = n := by have := hn6.out; simp at this; exact this.symm
          have hg1 := g1.size
          have hcl := nclone_any n6 hf2 A6 c6 K6 k6 v1 (hN6.node fun b hb => hb.2.1)
          have p0' : v1.cell? ad5 = some (hv n6.t) := by simpa [Addr.add] using p0
          have p1' : v1.cell? ⟨ad5.block, ad5.off + 1, none⟩ = some (.slice A6 n6.v.length c6) := by simpa [Addr.add] using p1
          have p2' : v1.cell? ⟨ad5.block, ad5.off + 2, none⟩ = some (.slice K6 n6.ks.length k6) := by simpa [Addr.add] using p2
          rw [hAe5] at hN5
          rw [hAe5]
          clear p0 p1 p2 hC hAe' hAe5
          gi_wp2_with fail
          refine ⟨trivial, (callsIn_wide.2 hcl).mono ?_⟩
          rintro e v2 ⟨A7, c7, K7, k7, rfl, hN7, g2⟩
          have hg2 := g2.size
          have g3 := g2.alloc g2.size (.cells #[hv n6.t, .slice A7 n6.v.length c7, .slice K7 n6.ks.length k7] 34)
          have hch := change_any [n6] (some ad5) c5 (NewL wr v1) (v2.alloc (.cells #[hv n6.t, .slice A7 n6.v.length c7, .slice K7 n6.ks.length k7] 34)) ((hN5.turn (fun p hp => g3.cell hp.2.1) (fun _ h => h)).sh) (fun b hb => hb.2.2.same (g3.block b hb.2.1)) (by intro m hm; rw [List.mem_singleton.1 hm]; exact hf2) (by simp)
          simp only [List.length_singleton] at hch
          clear p0' p1' p2' hcl
          gi_wp2_with fail
          refine ⟨trivial, (callsIn_wide.2 hch).mono ?_⟩
          rintro e v4 ⟨rfl, hkin⟩
          have hbw : Whole v4 v2.heap.size 34 #[hv n6.t, .slice A7 n6.v.length c7, .slice K7 n6.ks.length k7] := (hkin.out v2.heap.size (fun h => by have := h.2.1; omega)).trans (Whole.new v2 34 #[hv n6.t, .slice A7 n6.v.length c7, .slice K7 n6.ks.length k7])
          have hv4 : v4.heap.size = v2.heap.size + 1 := by rw [hkin.size]; simp
          have B4 : Below wr.heap.size wr v4 := (g1.trans (g3.mono hg1)).trans (hkin.below (fun b hb => hb.1))
          have hN4 : Node v4 v4.heap.size A7 c7 K7 k7 n6 := (hN7.turn (S' := fun b => b < v4.heap.size) (fun p hp => (World.cell?_of_block (hkin.out p.block (fun h => by have := h.2.1; have := hp.1; omega))).trans (World.cell?_alloc_lt v2 _ p hp.2)) (fun b hb => by have := hb.2; omega)).node fun _ h => h
          have hL4 : Node v4 wr.heap.size A3 cc3 K3 kk3 n6 := hN3.below B4
          have hO4 := (hone.bel B4)
          have KS : Hid (∀ W, Below v4.heap.size v4 W → W.cell? ⟨v2.heap.size, 0, none⟩ = some (hv n6.t) ∧ W.cell? ⟨v2.heap.size, 1, none⟩ = some (.slice A7 n6.v.length c7) ∧ W.cell? ⟨v2.heap.size, 2, none⟩ = some (.slice K7 n6.ks.length k7) ∧ W.cell? (ad'.add (k * 3)) = some (hv n6.t) ∧ W.cell? ⟨(ad'.add (k * 3)).block, (ad'.add (k * 3)).off + 1, none⟩ = some (.slice A3 n6.v.length cc3) ∧ W.cell? ⟨(ad'.add (k * 3)).block, (ad'.add (k * 3)).off + 2, none⟩ = some (.slice K3 n6.ks.length kk3)) := fun W hW => by
            have hw := Whole.below hbw hW hbw.lt
            have h0 := B4.trans (hW.mono B4.size)
            exact ⟨by rw [hw.cell]; rfl, by rw [hw.cell]; rfl, by rw [hw.cell]; rfl, (h0.cell (by rw [blk_add]; exact hbA)).trans d0, (h0.cell (p := ⟨(ad'.add (k * 3)).block, (ad'.add (k * 3)).off + 1, none⟩) (by show (ad'.add (k * 3)).block < _; rw [blk_add]; exact hbA)).trans d1, (h0.cell (p := ⟨(ad'.add (k * 3)).block, (ad'.add (k * 3)).off + 2, none⟩) (by show (ad'.add (k * 3)).block < _; rw [blk_add]; exact hbA)).trans d2⟩
          have HSN : Hid (∀ W, Below v4.heap.size v4 W → Calls Tryz.prog 12 #[.agg #[hv n6.t, .slice A7 n6.v.length c7, .slice K7 n6.ks.length k7], .agg #[hv n6.t, .slice A3 n6.v.length cc3, .slice K3 n6.ks.length kk3]] W fun e w' => e = .returned (.bool true) ∧ Below v4.heap.size v4 w' ∧ Below W.heap.size W w') := fun W hW => by
            refine (nsame_any n6 n6 hf1 A7 c7 K7 k7 A3 cc3 K3 kk3 W (hN4.on hW) ((hL4.more B4.size).on hW)).mono fun e w' h => ⟨?_, hW.trans (h.2.mono hW.size), h.2⟩
            rw [h.1, (Nd.beq_eq n6 n6).2 rfl]
          have HSR : Hid (∀ W g1, Below v4.heap.size v4 W → Whole W g1 34 #[hv n6.t, .slice A7 n6.v.length c7, .slice K7 n6.ks.length k7] → Calls Tryz.prog 8 #[.slice (some ⟨g1, 0, none⟩) 1 1, .slice (some (ad'.add (k * 3))) 1 (c - k)] W fun e w' => e = .returned (.bool true) ∧ Below v4.heap.size v4 w') := fun W g1 hW q1 => by
            refine (rsame_any [n6] [n6] (some ⟨g1, 0, none⟩) (some (ad'.add (k * 3))) 1 (c - k) W (list1_of q1 (hN4.on hW)) ((hO4.more B4.size).on hW) (by simp) (by simp)).mono fun e w' h => ⟨?_, hW.trans (h.2.mono hW.size)⟩
            rw [h.1, beqL_true rfl]
          obtain ⟨s0, s1, s2, s3, s4, s5⟩ := KS.out v4 (Below.refl _ _)
          have HB4 := Lib.hid (hbel.trans (B4.mono hbel.size))
          clear hkin hbw hN4 hL4 hO4 g1 g2 g3 hch hN5 hN7 hone hN3 hN6 d0 d1 d2 B4
          gi_wp2_with fail
          refine wpIn_wide.2 ?_
          go_region_held3 (fun W => W.cell? ⟨v2.heap.size, 0, none⟩ = some (hv n6.t) ∧ W.cell? ⟨v2.heap.size, 1, none⟩ = some (.slice A7 n6.v.length c7) ∧ W.cell? ⟨v2.heap.size, 2, none⟩ = some (.slice K7 n6.ks.length k7) ∧ W.cell? (ad'.add (k * 3)) = some (hv n6.t) ∧ W.cell? ⟨(ad'.add (k * 3)).block, (ad'.add (k * 3)).off + 1, none⟩ = some (.slice A3 n6.v.length cc3) ∧ W.cell? ⟨(ad'.add (k * 3)).block, (ad'.add (k * 3)).off + 2, none⟩ = some (.slice K3 n6.ks.length kk3))
            (first | exact KS.out _ (below_drew (Below.refl _ _)) | exact KS.out _ R5 | exact KS.out _ (R5.alloc R5.size _) | exact KS.out _ R6 | fail)
            (first
            | (go_at_call 12; (with_reducible refine (HSN.out _ (below_drew (Below.refl _ _))).mono ?_); rintro e z5 ⟨rfl, R5, b5⟩)
            | (go_at_call 8; (with_reducible refine (HSR.out _ _ (R5.alloc R5.size _) (Whole.new _ _ _)).mono ?_); rintro e z6 ⟨rfl, R6⟩)
            | fail)
          gi_wp2_with fail
          exact ⟨⟨k + 1, by omega, by go_num, HB4.out.trans (R6.mono HB4.out.size)⟩, by simp [intOf]; omega⟩
        · have ht : ¬ (k : Int) < (ns.length : Int) := by omega
          have rr : Boxed wr (w.heap.size + 1) 4 (.bool false) := Whole.below HR.out hbel (by omega)
          have r0 := rr.cell
          have r1 := rr.frozen
          gi_wp2_with fail
          have hDV := (Array.getElem?_eq_some_iff.1 HKD.out).1
          have hK2 : (wr.setCell ⟨w.heap.size + 1, 0, none⟩ (.bool true)).heap[D]? = some (.deferred (some [])) := (KeepsOthers.setCell _ _ _).same D _ ((hbel.block D hDV).trans HKD.out) rfl
          refine ⟨by simp, .inl ⟨_, _, rfl, run_takeDeferred hK2, ?_⟩⟩
          refine ⟨_, results_cell1 rfl _ _ (w.heap.size + 1) 4 (.bool true) _ rfl ((World.putObj_heap_other (by omega)).trans (rr.set (.bool true))) Tryz.underlying4 rfl, ?_⟩
          have hfin := (HBV.out.trans (hbel.mono HBV.out.size)).setCell (p := ⟨w.heap.size + 1, 0, none⟩) (by simp) (.bool true)
          exact ⟨rfl, hfin.grown (grownBy_putObj' _ D _) hfin.size (fun k e => by cases e; omega)⟩
open Go.ChangeShapes Go.WideShapes Go.ChangeAt
set_option maxRecDepth 100000 in
theorem law_NodeWalks {H : Type} {enc : TypeId × Value → H} {W : World} {base : Nat} {v0 v1 : Value} {d0 d1 : DataW H} {p0 p1 : List MemPlace}
    (o0 : Value.okWide Tryz.prog W .any base 22 v0) (h0 : DataW.Trod enc Tryz.prog W 0 (fun _ => true) true 22 v0 d0 p0) (s0 : Small Tryz.prog 22 d0)
    (o1 : Value.okWide Tryz.prog W .any base 5 v1) (h1 : DataW.Trod enc Tryz.prog W 0 (fun _ => true) true 5 v1 d1 p1) (_s1 : Small Tryz.prog 5 d1) (hL : laidMetH Tryz.prog laidL W) :
    Calls Tryz.prog 3 #[v0, v1] W fun e w' => e = .returned (.bool true) ∧ Below W.heap.size W w' := by
  obtain ⟨A, c, ns, rfl, hN, hc, hm, hb⟩ := open_nodes o0 h0 s0
  obtain ⟨n, rfl, _, _, wn⟩ := open_int Tryz.underlying5 o1 h1
  have hb8 := wf_u8 wn
  have hn : n = (((UInt8.ofNat n.toNat).toNat : Nat) : Int) := by rw [UInt8.toNat_ofNat']; omega
  rw [hn]
  exact walks_law ns A c _ W hN hc hm (by unfold maxLen at hm; omega) hb (handle_of_laid hL)
end Go.Proofs.YtdnilbebdgohnaaGreatDoor
