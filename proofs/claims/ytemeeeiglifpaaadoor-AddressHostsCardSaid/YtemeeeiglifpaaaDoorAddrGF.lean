/- Layer 9: one statement of All, inside a round: a node is appended to the list, in whatever order Go carries it out. It writes the list alone. -/
import Derived.Test.YtemeeeiglifpaaaDoorNodeNO
import Derived.Test.YtemeeeiglifpaaaDoorRegR
import Derived.Test.YtemeeeiglifpaaaDoorAddrGA
import Derived.Test.YtemeeeiglifpaaaDoorNodeWX
import Derived.Test.YtemeeeiglifpaaaDoorAddrGE

namespace Go.Proofs.YtemeeeiglifpaaaDoor
open Go.RowKit Go.Shelf

attribute [local go_sem] Oper.semAt_some

def ops8A : Array Oper :=
  #[{ dst := some 24, op := Op.load 25 (Operand.tmp 3), type := 25, pos := "address.go:121", after := #[], guard := none },
    { dst := some 25, op := Op.load 27 (Operand.tmp 6), type := 27, pos := "address.go:121", after := #[], guard := none },
    { dst := some 26, op := Op.call { callee := Callee.builtin Builtin.len, args := #[Operand.tmp 24], argTypes := #[25] }, type := 3, pos := "address.go:121", after := #[{ on := 0, ground := Ground.data }], guard := none },
    { dst := some 27, op := Op.buildSlice 25 1 #[(0, Operand.const (Value.agg #[Value.int IntKind.u16 0, Value.slice none 0 0, Value.slice none 0 0]))], type := 25, pos := "address.go:121", after := #[], guard := none },
    { dst := some 28, op := Op.call { callee := Callee.builtin Builtin.append, args := #[Operand.tmp 24, Operand.tmp 27], argTypes := #[25, 25] }, type := 25, pos := "address.go:121", after := #[{ on := 0, ground := Ground.data }, { on := 3, ground := Ground.data }, { on := 0, ground := Ground.phase }, { on := 1, ground := Ground.phase }, { on := 2, ground := Ground.phase }, { on := 3, ground := Ground.phase }], guard := none },
    { dst := some 29, op := Op.indexAddr 25 (Operand.tmp 28) (Operand.tmp 26), type := 0, pos := "address.go:121", after := #[{ on := 4, ground := Ground.data }, { on := 2, ground := Ground.data }, { on := 0, ground := Ground.phase }, { on := 1, ground := Ground.phase }, { on := 2, ground := Ground.phase }, { on := 3, ground := Ground.phase }, { on := 4, ground := Ground.phase }, { on := 7, ground := Ground.gcOnly Departure.appendInPlace }], guard := none },
    { dst := none, op := Op.store 27 (Operand.tmp 29) (Operand.tmp 25), type := 0, pos := "address.go:121", after := #[{ on := 5, ground := Ground.data }, { on := 1, ground := Ground.data }, { on := 4, ground := Ground.chain }, { on := 0, ground := Ground.phase }, { on := 1, ground := Ground.phase }, { on := 2, ground := Ground.phase }, { on := 3, ground := Ground.phase }, { on := 4, ground := Ground.phase }, { on := 7, ground := Ground.gcOnly Departure.appendInPlace }], guard := none },
    { dst := none, op := Op.store 25 (Operand.tmp 3) (Operand.tmp 28), type := 0, pos := "address.go:121", after := #[{ on := 4, ground := Ground.data }, { on := 4, ground := Ground.chain }, { on := 6, ground := Ground.textOnly Departure.appendInPlace }, { on := 0, ground := Ground.phase }, { on := 1, ground := Ground.phase }, { on := 2, ground := Ground.phase }, { on := 3, ground := Ground.phase }, { on := 4, ground := Ground.phase }, { on := 5, ground := Ground.textOnly Departure.appendInPlace }, { on := 6, ground := Ground.textOnly Departure.appendInPlace }], guard := none }]
theorem wpListIn_append_toldA {F : Fence} {N : Nat} {P : Program} (w : World) {ops : Array Oper} {rest : List Oper} {o : Oper} {a : Act} {Q : Exit → Act → World → Prop}
    (hgd : o.guard = none) (s x : Operand) (t : TypeId) (hop : o.op = .call { callee := .builtin .append, args := #[s, x], argTypes := #[t, t] })
    (base : Nat) (e : TypeId) (z : Value) (size bytes : Nat) (ht : P.underlying t = some (.slice e)) (hi : (P.info? e).map (fun i => (i.zero, i.size, i.bytes)) = some (some z, size, bytes))
    (hzs : z.cells.size = size) (hsz : 0 < size)
    (v : Value) (n : Nat) (xs : List Value) (hs : a.eval s = v) (hown : w.ownsRow base e size v n xs)
    (ad : Addr) (m c : Nat) (hm : 0 < m) (news : List Value) (hx : a.eval x = .slice (some ad) m c) (hl : news.length = m * size) (hnews : ∀ j u, news[j]? = some u → w.cell? (ad.add j) = some u) (h1 : ∀ u ∈ news, u.oneCell' = true)
    (h63 : n + m ≤ maxLen) (hbytes : (n + m) * bytes ≤ 140737488355328) (hbase : base ≤ w.heap.size)
    (h : ∀ v' w', w'.ownsRow base e size v' (n + m) (xs ++ news) → w.grownBy w' v.ownBlock → (v'.ownBlock = some w.heap.size ∨ (v'.ownBlock = v.ownBlock ∧ ∃ g, v.ownBlock = some g)) → wpListIn F N P ops Q rest (a.put o.dst v') w') : wpListIn F N P ops Q (o :: rest) a w := by
  obtain ⟨i, hi0, hi1, hi2, hi3⟩ := info_parts hi
  refine wpListIn_plain hgd fun K hK' => ?_
  obtain ⟨v', w', hr, h2, h3, h4⟩ := run_append_told (P := P) w base t o.type e i z size bytes ht hi0 hi1 hi2 hi3 hzs hsz v n xs hown ad m c hm news hl hnews h1 h63 hbytes hbase
  unfold Oper.wpIn
  refine ⟨by simp [Oper.about, hop, resolve, Target.leads, Sem.run_pure], ?_⟩
  rw [Oper.semAt_plain F _ _ (by rw [hop]; intro c hc'; cases hc')]
  simp only [execOp, hop, resolve, invoke, builtin, Sem.run_bind, Sem.run_pure, Result.andThen_ok, List.map_toArray, List.map_cons, List.map_nil, hs, hx, hr]
  exact hK' _ _ (h v' w' h2 h3 h4)
theorem setCell_commA (w : World) (p q : Addr) (u v : Value) (h : p.block ≠ q.block) : (w.setCell p u).setCell q v = (w.setCell q v).setCell p u := by
  unfold World.setCell
  simp only [World.mk.injEq, and_true]
  apply Array.ext_getElem?
  intro i
  rw [Array.getElem?_modify, Array.getElem?_modify, Array.getElem?_modify, Array.getElem?_modify]
  by_cases h1 : p.block = i
  · have h2 : ¬ q.block = i := fun e => h (h1.trans e.symm)
    simp only [h1, h2, if_true, if_false]
  · simp only [h1, if_false]
set_option maxRecDepth 100000 in
set_option maxHeartbeats 4000000 in
theorem region8A {l m : Nat} {Q : Exit → Act → World → Prop} (t0 t1 t2 t4 t5 t7 t8 t9 t10 t11 t12 t13 t14 t15 t16 t17 t18 t19 t20 t21 t22 t23 t24 t25 t26 t27 t28 t29 t30 t31 t32 t33 t34 t35 t36 t37 t38 t39 : Value) (Bl gb k c1 L : Nat) (A1 : Option Addr) (us : List Value) (x : Int) (Ad : Option Addr) (nd cd : Nat) (Ak : Option Addr) (nk ck : Nat) (w : World)
    (hl : Boxed w Bl 25 (.slice A1 k c1)) (hn : Whole w gb 27 #[.int .u16 x, .slice Ad nd cd, .slice Ak nk ck]) (hown : w.ownsRow L 27 3 (.slice A1 k c1) k us) (hk : k ≤ 100000000) (hL : L ≤ w.heap.size)
    (hQ : ∀ (u24 u25 u26 u27 u28 u29 : Value) (g4 c4 : Nat) (W4 Wf : World), W4.ownsRow L 27 3 (.slice (some ⟨g4, 0, none⟩) (k + 1) c4) (k + 1) (us ++ [.int .u16 0, .slice none 0 0, .slice none 0 0]) → (w.drew.alloc (.cells #[.int .u16 0, .slice none 0 0, .slice none 0 0] 27)).grownBy W4 (Value.slice A1 k c1).ownBlock → ((Value.slice (some ⟨g4, 0, none⟩) (k + 1) c4).ownBlock = some (w.heap.size + 1) ∨ ((Value.slice (some ⟨g4, 0, none⟩) (k + 1) c4).ownBlock = (Value.slice A1 k c1).ownBlock ∧ ∃ g, (Value.slice A1 k c1).ownBlock = some g)) → Wf = (((W4.setCell ⟨g4, k * 3, none⟩ (.int .u16 x)).setCell ⟨g4, k * 3 + 1, none⟩ (.slice Ad nd cd)).setCell ⟨g4, k * 3 + 2, none⟩ (.slice Ak nk ck)).setCell ⟨Bl, 0, none⟩ (.slice (some ⟨g4, 0, none⟩) (k + 1) c4) → Q .normal { tmps := #[t0, t1, t2, .pointer (some ⟨Bl, 0, none⟩), t4, t5, .pointer (some ⟨gb, 0, none⟩), t7, t8, t9, t10, t11, t12, t13, t14, t15, t16, t17, t18, t19, t20, t21, t22, t23, u24, u25, u26, u27, u28, u29, t30, t31, t32, t33, t34, t35, t36, t37, t38, t39], defers := [] } Wf) :
    (Code.region 8 ops8A true).wpIn (Fence.wide.inRound l) m Tryd.prog Q { tmps := #[t0, t1, t2, .pointer (some ⟨Bl, 0, none⟩), t4, t5, .pointer (some ⟨gb, 0, none⟩), t7, t8, t9, t10, t11, t12, t13, t14, t15, t16, t17, t18, t19, t20, t21, t22, t23, t24, t25, t26, t27, t28, t29, t30, t31, t32, t33, t34, t35, t36, t37, t38, t39], defers := [] } w := by
  have e0 := hl.cell
  have n0 : w.cell? ⟨gb, 0, none⟩ = some (.int .u16 x) := by rw [hn.cell]; rfl
  have n1 : w.cell? ⟨gb, 1, none⟩ = some (.slice Ad nd cd) := by rw [hn.cell]; rfl
  have n2 : w.cell? ⟨gb, 2, none⟩ = some (.slice Ak nk ck) := by rw [hn.cell]; rfl
  have hBlt := boxed_lt hl
  have hglt := hn.lt
  have hne0 : Bl ≠ w.heap.size := by omega
  have hne1 : gb ≠ w.heap.size := by omega
  have h4 : wpAnyIn (Fence.wide.inRound l) m Tryd.prog .any ops8A Q 4 #[true, true, true, true, false, false, false, false] { tmps := #[t0, t1, t2, .pointer (some ⟨Bl, 0, none⟩), t4, t5, .pointer (some ⟨gb, 0, none⟩), t7, t8, t9, t10, t11, t12, t13, t14, t15, t16, t17, t18, t19, t20, t21, t22, t23, .slice A1 k c1, .agg #[.int .u16 x, .slice Ad nd cd, .slice Ak nk ck], .int .i64 (k : Int), .slice (some ⟨w.heap.size, 0, none⟩) 1 1, t28, t29, t30, t31, t32, t33, t34, t35, t36, t37, t38, t39], defers := [] } (w.drew.alloc (.cells #[.int .u16 0, .slice none 0 0, .slice none 0 0] 27)) := by
    have hbx : Boxed (w.drew.alloc (.cells #[.int .u16 0, .slice none 0 0, .slice none 0 0] 27)) Bl 25 (.slice A1 k c1) := hl.alloc _
    have ho4 : (w.drew.alloc (.cells #[.int .u16 0, .slice none 0 0, .slice none 0 0] 27)).ownsRow L 27 3 (.slice A1 k c1) k us := hown.alloc _
    have hnew : ∀ j u, [Value.int .u16 0, .slice none 0 0, .slice none 0 0][j]? = some u → (w.drew.alloc (.cells #[.int .u16 0, .slice none 0 0, .slice none 0 0] 27)).cell? ((⟨w.heap.size, 0, none⟩ : Addr).add j) = some u := fun j u hu => by
      have hc := (Whole.new w.drew 27 #[.int .u16 0, .slice none 0 0, .slice none 0 0]).cell j
      rw [show w.drew.heap.size = w.heap.size from rfl] at hc
      rw [add_row, hc]
      simpa using hu
    have hsz4 : (w.drew.alloc (.cells #[.int .u16 0, .slice none 0 0, .slice none 0 0] 27)).heap.size = w.heap.size + 1 := by simp
    have HNW := Lib.hid hnew
    clear hnew
    generalize (w.drew.alloc (.cells #[.int .u16 0, .slice none 0 0, .slice none 0 0] 27)) = w4 at *
    dsimp only
    refine any_node (fuel := 3) [4] (by kernel_rfl) (by simp) ?_
    intro i hi
    simp only [List.mem_cons, List.not_mem_nil, or_false] at hi
    subst hi
    refine op_of_list ({ dst := some 28, op := Op.call { callee := Callee.builtin Builtin.append, args := #[Operand.tmp 24, Operand.tmp 27], argTypes := #[25, 25] }, type := 25, pos := "address.go:121", after := #[{ on := 0, ground := Ground.data }, { on := 3, ground := Ground.data }, { on := 0, ground := Ground.phase }, { on := 1, ground := Ground.phase }, { on := 2, ground := Ground.phase }, { on := 3, ground := Ground.phase }], guard := none } : Oper) rfl rfl ?_
    gi_wp2_with (gi_at_builtin; refine wpListIn_append_toldA _ rfl (.tmp 24) (.tmp 27) 25 rfl L 27 _ 3 56 Tryd.underlying25 ndinfo rfl (by omega) _ _ _ rfl ho4 _ 1 1 (by omega) [.int .u16 0, .slice none 0 0, .slice none 0 0] rfl rfl HNW.out (by intro u hu; simp at hu; rcases hu with rfl | rfl | rfl <;> rfl) (by unfold maxLen; omega) (by omega) (by omega) ?_; intro v' W4 hown4 hgrow4 hblk4)
    obtain ⟨g4, c4, rfl⟩ : ∃ g4 c4, v' = .slice (some ⟨g4, 0, none⟩) (k + 1) c4 := by
      rcases hown4.2 with ⟨_, e2⟩ | ⟨g, cap, cur, e1, _⟩
      · omega
      · exact ⟨g, cap, e1⟩
    try simp only [Act.put, List.setIfInBounds_toArray, List.set_cons_succ, List.set_cons_zero]
    have hb4 : Boxed W4 Bl 25 (.slice A1 k c1) := hbx.kept hgrow4 (hbx.not_row (by decide) ho4)
    have hgb : g4 ≠ Bl := fun e => hb4.not_row (by decide) hown4 (by rw [e]; rfl)
    have hbg : Bl ≠ g4 := fun e => hgb e.symm
    have bc := hb4.cell
    have bf := hb4.frozen
    have hul : us.length = k * 3 := hown.1
    have q0 : W4.cell? ⟨g4, k * 3, none⟩ = some (.int .u16 0) := by
      have := hown4.cells (g := g4) rfl (k * 3) (.int .u16 0) (by rw [List.getElem?_append_right (by omega), hul, Nat.sub_self]; rfl)
      rwa [add_row] at this
    have q1 : W4.cell? ⟨g4, k * 3 + 1, none⟩ = some (.slice none 0 0) := by
      have := hown4.cells (g := g4) rfl (k * 3 + 1) (.slice none 0 0) (by rw [List.getElem?_append_right (by omega), hul, show k * 3 + 1 - k * 3 = 1 by omega]; rfl)
      rwa [add_row] at this
    have q2 : W4.cell? ⟨g4, k * 3 + 2, none⟩ = some (.slice none 0 0) := by
      have := hown4.cells (g := g4) rfl (k * 3 + 2) (.slice none 0 0) (by rw [List.getElem?_append_right (by omega), hul, show k * 3 + 2 - k * 3 = 2 by omega]; rfl)
      rwa [add_row] at this
    have hfz : ∀ i, W4.frozen? ⟨g4, i, none⟩ = false := fun i => by
      rcases hown4.2 with ⟨_, e2⟩ | ⟨g, cap, cur, e1, _, e3, _⟩
      · omega
      · simp only [Value.slice.injEq, Option.some.injEq, Addr.mk.injEq] at e1
        obtain ⟨⟨rfl, _⟩, _⟩ := e1
        exact frozen_of_row W4 _ i cur _ e3
    have z0 := hfz (k * 3)
    have z1 := hfz (k * 3 + 1)
    have z2 := hfz (k * 3 + 2)
    have HU := Lib.hid hul
    have hblk5 : (Value.slice (some ⟨g4, 0, none⟩) (k + 1) c4).ownBlock = some (w.heap.size + 1) ∨ ((Value.slice (some ⟨g4, 0, none⟩) (k + 1) c4).ownBlock = (Value.slice A1 k c1).ownBlock ∧ ∃ g, (Value.slice A1 k c1).ownBlock = some g) := by rw [hsz4] at hblk4; exact hblk4
    clear hul
    refine any_node (fuel := 2) [5, 7] (by kernel_rfl) (by simp) ?_
    intro i hi
    simp only [List.mem_cons, List.not_mem_nil, or_false] at hi
    rcases hi with rfl | rfl
    · refine op_of_list ({ dst := some 29, op := Op.indexAddr 25 (Operand.tmp 28) (Operand.tmp 26), type := 0, pos := "address.go:121", after := #[{ on := 4, ground := Ground.data }, { on := 2, ground := Ground.data }, { on := 0, ground := Ground.phase }, { on := 1, ground := Ground.phase }, { on := 2, ground := Ground.phase }, { on := 3, ground := Ground.phase }, { on := 4, ground := Ground.phase }, { on := 7, ground := Ground.gcOnly Departure.appendInPlace }], guard := none } : Oper) rfl rfl ?_
      gi_wp2_with fail
      (try simp only [List.setIfInBounds_toArray, List.set_cons_succ, List.set_cons_zero])
      refine any_node (fuel := 1) [6, 7] (by kernel_rfl) (by simp) ?_
      intro i hi
      simp only [List.mem_cons, List.not_mem_nil, or_false] at hi
      rcases hi with rfl | rfl
      · refine op_of_list ({ dst := none, op := Op.store 27 (Operand.tmp 29) (Operand.tmp 25), type := 0, pos := "address.go:121", after := #[{ on := 5, ground := Ground.data }, { on := 1, ground := Ground.data }, { on := 4, ground := Ground.chain }, { on := 0, ground := Ground.phase }, { on := 1, ground := Ground.phase }, { on := 2, ground := Ground.phase }, { on := 3, ground := Ground.phase }, { on := 4, ground := Ground.phase }, { on := 7, ground := Ground.gcOnly Departure.appendInPlace }], guard := none } : Oper) rfl rfl ?_
        gi_wp2_with fail
        (try simp only [List.setIfInBounds_toArray, List.set_cons_succ, List.set_cons_zero])
        refine any_node (fuel := 0) [7] (by kernel_rfl) (by simp) ?_
        intro i hi
        simp only [List.mem_cons, List.not_mem_nil, or_false] at hi
        subst hi
        · refine op_of_list ({ dst := none, op := Op.store 25 (Operand.tmp 3) (Operand.tmp 28), type := 0, pos := "address.go:121", after := #[{ on := 4, ground := Ground.data }, { on := 4, ground := Ground.chain }, { on := 6, ground := Ground.textOnly Departure.appendInPlace }, { on := 0, ground := Ground.phase }, { on := 1, ground := Ground.phase }, { on := 2, ground := Ground.phase }, { on := 3, ground := Ground.phase }, { on := 4, ground := Ground.phase }, { on := 5, ground := Ground.textOnly Departure.appendInPlace }, { on := 6, ground := Ground.textOnly Departure.appendInPlace }], guard := none } : Oper) rfl rfl ?_
          gi_wp2_with fail
          (try simp only [List.setIfInBounds_toArray, List.set_cons_succ, List.set_cons_zero])
          exact any_end (by kernel_rfl) (hQ _ _ _ _ _ _ _ _ _ _ hown4 hgrow4 hblk5 (by first | rfl | (rw [setCell_commA W4 ⟨Bl, 0, none⟩ ⟨g4, k * 3, none⟩ _ _ hbg, setCell_commA _ ⟨Bl, 0, none⟩ ⟨g4, k * 3 + 1, none⟩ _ _ hbg, setCell_commA _ ⟨Bl, 0, none⟩ ⟨g4, k * 3 + 2, none⟩ _ _ hbg])))
      · refine op_of_list ({ dst := none, op := Op.store 25 (Operand.tmp 3) (Operand.tmp 28), type := 0, pos := "address.go:121", after := #[{ on := 4, ground := Ground.data }, { on := 4, ground := Ground.chain }, { on := 6, ground := Ground.textOnly Departure.appendInPlace }, { on := 0, ground := Ground.phase }, { on := 1, ground := Ground.phase }, { on := 2, ground := Ground.phase }, { on := 3, ground := Ground.phase }, { on := 4, ground := Ground.phase }, { on := 5, ground := Ground.textOnly Departure.appendInPlace }, { on := 6, ground := Ground.textOnly Departure.appendInPlace }], guard := none } : Oper) rfl rfl ?_
        gi_wp2_with fail
        (try simp only [List.setIfInBounds_toArray, List.set_cons_succ, List.set_cons_zero])
        refine any_node (fuel := 0) [6] (by kernel_rfl) (by simp) ?_
        intro i hi
        simp only [List.mem_cons, List.not_mem_nil, or_false] at hi
        subst hi
        · refine op_of_list ({ dst := none, op := Op.store 27 (Operand.tmp 29) (Operand.tmp 25), type := 0, pos := "address.go:121", after := #[{ on := 5, ground := Ground.data }, { on := 1, ground := Ground.data }, { on := 4, ground := Ground.chain }, { on := 0, ground := Ground.phase }, { on := 1, ground := Ground.phase }, { on := 2, ground := Ground.phase }, { on := 3, ground := Ground.phase }, { on := 4, ground := Ground.phase }, { on := 7, ground := Ground.gcOnly Departure.appendInPlace }], guard := none } : Oper) rfl rfl ?_
          gi_wp2_with fail
          (try simp only [List.setIfInBounds_toArray, List.set_cons_succ, List.set_cons_zero])
          exact any_end (by kernel_rfl) (hQ _ _ _ _ _ _ _ _ _ _ hown4 hgrow4 hblk5 (by first | rfl | (rw [setCell_commA W4 ⟨Bl, 0, none⟩ ⟨g4, k * 3, none⟩ _ _ hbg, setCell_commA _ ⟨Bl, 0, none⟩ ⟨g4, k * 3 + 1, none⟩ _ _ hbg, setCell_commA _ ⟨Bl, 0, none⟩ ⟨g4, k * 3 + 2, none⟩ _ _ hbg])))
    · refine op_of_list ({ dst := none, op := Op.store 25 (Operand.tmp 3) (Operand.tmp 28), type := 0, pos := "address.go:121", after := #[{ on := 4, ground := Ground.data }, { on := 4, ground := Ground.chain }, { on := 6, ground := Ground.textOnly Departure.appendInPlace }, { on := 0, ground := Ground.phase }, { on := 1, ground := Ground.phase }, { on := 2, ground := Ground.phase }, { on := 3, ground := Ground.phase }, { on := 4, ground := Ground.phase }, { on := 5, ground := Ground.textOnly Departure.appendInPlace }, { on := 6, ground := Ground.textOnly Departure.appendInPlace }], guard := none } : Oper) rfl rfl ?_
      gi_wp2_with fail
      (try simp only [List.setIfInBounds_toArray, List.set_cons_succ, List.set_cons_zero])
      refine any_node (fuel := 1) [5] (by kernel_rfl) (by simp) ?_
      intro i hi
      simp only [List.mem_cons, List.not_mem_nil, or_false] at hi
      subst hi
      · refine op_of_list ({ dst := some 29, op := Op.indexAddr 25 (Operand.tmp 28) (Operand.tmp 26), type := 0, pos := "address.go:121", after := #[{ on := 4, ground := Ground.data }, { on := 2, ground := Ground.data }, { on := 0, ground := Ground.phase }, { on := 1, ground := Ground.phase }, { on := 2, ground := Ground.phase }, { on := 3, ground := Ground.phase }, { on := 4, ground := Ground.phase }, { on := 7, ground := Ground.gcOnly Departure.appendInPlace }], guard := none } : Oper) rfl rfl ?_
        gi_wp2_with fail
        (try simp only [List.setIfInBounds_toArray, List.set_cons_succ, List.set_cons_zero])
        refine any_node (fuel := 0) [6] (by kernel_rfl) (by simp) ?_
        intro i hi
        simp only [List.mem_cons, List.not_mem_nil, or_false] at hi
        subst hi
        · refine op_of_list ({ dst := none, op := Op.store 27 (Operand.tmp 29) (Operand.tmp 25), type := 0, pos := "address.go:121", after := #[{ on := 5, ground := Ground.data }, { on := 1, ground := Ground.data }, { on := 4, ground := Ground.chain }, { on := 0, ground := Ground.phase }, { on := 1, ground := Ground.phase }, { on := 2, ground := Ground.phase }, { on := 3, ground := Ground.phase }, { on := 4, ground := Ground.phase }, { on := 7, ground := Ground.gcOnly Departure.appendInPlace }], guard := none } : Oper) rfl rfl ?_
          gi_wp2_with fail
          (try simp only [List.setIfInBounds_toArray, List.set_cons_succ, List.set_cons_zero])
          exact any_end (by kernel_rfl) (hQ _ _ _ _ _ _ _ _ _ _ hown4 hgrow4 hblk5 (by first | rfl | (rw [setCell_commA W4 ⟨Bl, 0, none⟩ ⟨g4, k * 3, none⟩ _ _ hbg, setCell_commA _ ⟨Bl, 0, none⟩ ⟨g4, k * 3 + 1, none⟩ _ _ hbg, setCell_commA _ ⟨Bl, 0, none⟩ ⟨g4, k * 3 + 2, none⟩ _ _ hbg])))
  refine wpIn_region_any (by kernel_rfl) ?_
  change wpAnyIn (Fence.wide.inRound l) m Tryd.prog .any ops8A Q 8 #[false, false, false, false, false, false, false, false] { tmps := #[t0, t1, t2, .pointer (some ⟨Bl, 0, none⟩), t4, t5, .pointer (some ⟨gb, 0, none⟩), t7, t8, t9, t10, t11, t12, t13, t14, t15, t16, t17, t18, t19, t20, t21, t22, t23, t24, t25, t26, t27, t28, t29, t30, t31, t32, t33, t34, t35, t36, t37, t38, t39], defers := [] } w.drew
  dsimp only
  refine any_node (fuel := 7) [0, 1, 3] (by kernel_rfl) (by simp) ?_
  intro i hi
  simp only [List.mem_cons, List.not_mem_nil, or_false] at hi
  rcases hi with rfl | rfl | rfl
  · refine op_of_list ({ dst := some 24, op := Op.load 25 (Operand.tmp 3), type := 25, pos := "address.go:121", after := #[], guard := none } : Oper) rfl rfl ?_
    gi_wp2_with fail
    (try simp only [List.setIfInBounds_toArray, List.set_cons_zero])
    refine any_node (fuel := 6) [1, 2, 3] (by kernel_rfl) (by simp) ?_
    intro i hi
    simp only [List.mem_cons, List.not_mem_nil, or_false] at hi
    rcases hi with rfl | rfl | rfl
    · refine op_of_list ({ dst := some 25, op := Op.load 27 (Operand.tmp 6), type := 27, pos := "address.go:121", after := #[], guard := none } : Oper) rfl rfl ?_
      gi_wp2_with fail
      (try simp only [List.setIfInBounds_toArray, List.set_cons_succ, List.set_cons_zero])
      refine any_node (fuel := 5) [2, 3] (by kernel_rfl) (by simp) ?_
      intro i hi
      simp only [List.mem_cons, List.not_mem_nil, or_false] at hi
      rcases hi with rfl | rfl
      · refine op_of_list ({ dst := some 26, op := Op.call { callee := Callee.builtin Builtin.len, args := #[Operand.tmp 24], argTypes := #[25] }, type := 3, pos := "address.go:121", after := #[{ on := 0, ground := Ground.data }], guard := none } : Oper) rfl rfl ?_
        gi_wp2_with fail
        (try simp only [List.setIfInBounds_toArray, List.set_cons_succ, List.set_cons_zero])
        refine any_node (fuel := 4) [3] (by kernel_rfl) (by simp) ?_
        intro i hi
        simp only [List.mem_cons, List.not_mem_nil, or_false] at hi
        subst hi
        · refine op_of_list ({ dst := some 27, op := Op.buildSlice 25 1 #[(0, Operand.const (Value.agg #[Value.int IntKind.u16 0, Value.slice none 0 0, Value.slice none 0 0]))], type := 25, pos := "address.go:121", after := #[], guard := none } : Oper) rfl rfl ?_
          gi_wp2_with fail
          (try simp only [List.setIfInBounds_toArray, List.set_cons_succ, List.set_cons_zero])
          exact h4
      · refine op_of_list ({ dst := some 27, op := Op.buildSlice 25 1 #[(0, Operand.const (Value.agg #[Value.int IntKind.u16 0, Value.slice none 0 0, Value.slice none 0 0]))], type := 25, pos := "address.go:121", after := #[], guard := none } : Oper) rfl rfl ?_
        gi_wp2_with fail
        (try simp only [List.setIfInBounds_toArray, List.set_cons_succ, List.set_cons_zero])
        refine any_node (fuel := 4) [2] (by kernel_rfl) (by simp) ?_
        intro i hi
        simp only [List.mem_cons, List.not_mem_nil, or_false] at hi
        subst hi
        · refine op_of_list ({ dst := some 26, op := Op.call { callee := Callee.builtin Builtin.len, args := #[Operand.tmp 24], argTypes := #[25] }, type := 3, pos := "address.go:121", after := #[{ on := 0, ground := Ground.data }], guard := none } : Oper) rfl rfl ?_
          gi_wp2_with fail
          (try simp only [List.setIfInBounds_toArray, List.set_cons_succ, List.set_cons_zero])
          exact h4
    · refine op_of_list ({ dst := some 26, op := Op.call { callee := Callee.builtin Builtin.len, args := #[Operand.tmp 24], argTypes := #[25] }, type := 3, pos := "address.go:121", after := #[{ on := 0, ground := Ground.data }], guard := none } : Oper) rfl rfl ?_
      gi_wp2_with fail
      (try simp only [List.setIfInBounds_toArray, List.set_cons_succ, List.set_cons_zero])
      refine any_node (fuel := 5) [1, 3] (by kernel_rfl) (by simp) ?_
      intro i hi
      simp only [List.mem_cons, List.not_mem_nil, or_false] at hi
      rcases hi with rfl | rfl
      · refine op_of_list ({ dst := some 25, op := Op.load 27 (Operand.tmp 6), type := 27, pos := "address.go:121", after := #[], guard := none } : Oper) rfl rfl ?_
        gi_wp2_with fail
        (try simp only [List.setIfInBounds_toArray, List.set_cons_succ, List.set_cons_zero])
        refine any_node (fuel := 4) [3] (by kernel_rfl) (by simp) ?_
        intro i hi
        simp only [List.mem_cons, List.not_mem_nil, or_false] at hi
        subst hi
        · refine op_of_list ({ dst := some 27, op := Op.buildSlice 25 1 #[(0, Operand.const (Value.agg #[Value.int IntKind.u16 0, Value.slice none 0 0, Value.slice none 0 0]))], type := 25, pos := "address.go:121", after := #[], guard := none } : Oper) rfl rfl ?_
          gi_wp2_with fail
          (try simp only [List.setIfInBounds_toArray, List.set_cons_succ, List.set_cons_zero])
          exact h4
      · refine op_of_list ({ dst := some 27, op := Op.buildSlice 25 1 #[(0, Operand.const (Value.agg #[Value.int IntKind.u16 0, Value.slice none 0 0, Value.slice none 0 0]))], type := 25, pos := "address.go:121", after := #[], guard := none } : Oper) rfl rfl ?_
        gi_wp2_with fail
        (try simp only [List.setIfInBounds_toArray, List.set_cons_succ, List.set_cons_zero])
        refine any_node (fuel := 4) [1] (by kernel_rfl) (by simp) ?_
        intro i hi
        simp only [List.mem_cons, List.not_mem_nil, or_false] at hi
        subst hi
        · refine op_of_list ({ dst := some 25, op := Op.load 27 (Operand.tmp 6), type := 27, pos := "address.go:121", after := #[], guard := none } : Oper) rfl rfl ?_
          gi_wp2_with fail
          (try simp only [List.setIfInBounds_toArray, List.set_cons_succ, List.set_cons_zero])
          exact h4
    · refine op_of_list ({ dst := some 27, op := Op.buildSlice 25 1 #[(0, Operand.const (Value.agg #[Value.int IntKind.u16 0, Value.slice none 0 0, Value.slice none 0 0]))], type := 25, pos := "address.go:121", after := #[], guard := none } : Oper) rfl rfl ?_
      gi_wp2_with fail
      (try simp only [List.setIfInBounds_toArray, List.set_cons_succ, List.set_cons_zero])
      refine any_node (fuel := 5) [1, 2] (by kernel_rfl) (by simp) ?_
      intro i hi
      simp only [List.mem_cons, List.not_mem_nil, or_false] at hi
      rcases hi with rfl | rfl
      · refine op_of_list ({ dst := some 25, op := Op.load 27 (Operand.tmp 6), type := 27, pos := "address.go:121", after := #[], guard := none } : Oper) rfl rfl ?_
        gi_wp2_with fail
        (try simp only [List.setIfInBounds_toArray, List.set_cons_succ, List.set_cons_zero])
        refine any_node (fuel := 4) [2] (by kernel_rfl) (by simp) ?_
        intro i hi
        simp only [List.mem_cons, List.not_mem_nil, or_false] at hi
        subst hi
        · refine op_of_list ({ dst := some 26, op := Op.call { callee := Callee.builtin Builtin.len, args := #[Operand.tmp 24], argTypes := #[25] }, type := 3, pos := "address.go:121", after := #[{ on := 0, ground := Ground.data }], guard := none } : Oper) rfl rfl ?_
          gi_wp2_with fail
          (try simp only [List.setIfInBounds_toArray, List.set_cons_succ, List.set_cons_zero])
          exact h4
      · refine op_of_list ({ dst := some 26, op := Op.call { callee := Callee.builtin Builtin.len, args := #[Operand.tmp 24], argTypes := #[25] }, type := 3, pos := "address.go:121", after := #[{ on := 0, ground := Ground.data }], guard := none } : Oper) rfl rfl ?_
        gi_wp2_with fail
        (try simp only [List.setIfInBounds_toArray, List.set_cons_succ, List.set_cons_zero])
        refine any_node (fuel := 4) [1] (by kernel_rfl) (by simp) ?_
        intro i hi
        simp only [List.mem_cons, List.not_mem_nil, or_false] at hi
        subst hi
        · refine op_of_list ({ dst := some 25, op := Op.load 27 (Operand.tmp 6), type := 27, pos := "address.go:121", after := #[], guard := none } : Oper) rfl rfl ?_
          gi_wp2_with fail
          (try simp only [List.setIfInBounds_toArray, List.set_cons_succ, List.set_cons_zero])
          exact h4
  · refine op_of_list ({ dst := some 25, op := Op.load 27 (Operand.tmp 6), type := 27, pos := "address.go:121", after := #[], guard := none } : Oper) rfl rfl ?_
    gi_wp2_with fail
    (try simp only [List.setIfInBounds_toArray, List.set_cons_succ, List.set_cons_zero])
    refine any_node (fuel := 6) [0, 3] (by kernel_rfl) (by simp) ?_
    intro i hi
    simp only [List.mem_cons, List.not_mem_nil, or_false] at hi
    rcases hi with rfl | rfl
    · refine op_of_list ({ dst := some 24, op := Op.load 25 (Operand.tmp 3), type := 25, pos := "address.go:121", after := #[], guard := none } : Oper) rfl rfl ?_
      gi_wp2_with fail
      (try simp only [List.setIfInBounds_toArray, List.set_cons_zero])
      refine any_node (fuel := 5) [2, 3] (by kernel_rfl) (by simp) ?_
      intro i hi
      simp only [List.mem_cons, List.not_mem_nil, or_false] at hi
      rcases hi with rfl | rfl
      · refine op_of_list ({ dst := some 26, op := Op.call { callee := Callee.builtin Builtin.len, args := #[Operand.tmp 24], argTypes := #[25] }, type := 3, pos := "address.go:121", after := #[{ on := 0, ground := Ground.data }], guard := none } : Oper) rfl rfl ?_
        gi_wp2_with fail
        (try simp only [List.setIfInBounds_toArray, List.set_cons_succ, List.set_cons_zero])
        refine any_node (fuel := 4) [3] (by kernel_rfl) (by simp) ?_
        intro i hi
        simp only [List.mem_cons, List.not_mem_nil, or_false] at hi
        subst hi
        · refine op_of_list ({ dst := some 27, op := Op.buildSlice 25 1 #[(0, Operand.const (Value.agg #[Value.int IntKind.u16 0, Value.slice none 0 0, Value.slice none 0 0]))], type := 25, pos := "address.go:121", after := #[], guard := none } : Oper) rfl rfl ?_
          gi_wp2_with fail
          (try simp only [List.setIfInBounds_toArray, List.set_cons_succ, List.set_cons_zero])
          exact h4
      · refine op_of_list ({ dst := some 27, op := Op.buildSlice 25 1 #[(0, Operand.const (Value.agg #[Value.int IntKind.u16 0, Value.slice none 0 0, Value.slice none 0 0]))], type := 25, pos := "address.go:121", after := #[], guard := none } : Oper) rfl rfl ?_
        gi_wp2_with fail
        (try simp only [List.setIfInBounds_toArray, List.set_cons_succ, List.set_cons_zero])
        refine any_node (fuel := 4) [2] (by kernel_rfl) (by simp) ?_
        intro i hi
        simp only [List.mem_cons, List.not_mem_nil, or_false] at hi
        subst hi
        · refine op_of_list ({ dst := some 26, op := Op.call { callee := Callee.builtin Builtin.len, args := #[Operand.tmp 24], argTypes := #[25] }, type := 3, pos := "address.go:121", after := #[{ on := 0, ground := Ground.data }], guard := none } : Oper) rfl rfl ?_
          gi_wp2_with fail
          (try simp only [List.setIfInBounds_toArray, List.set_cons_succ, List.set_cons_zero])
          exact h4
    · refine op_of_list ({ dst := some 27, op := Op.buildSlice 25 1 #[(0, Operand.const (Value.agg #[Value.int IntKind.u16 0, Value.slice none 0 0, Value.slice none 0 0]))], type := 25, pos := "address.go:121", after := #[], guard := none } : Oper) rfl rfl ?_
      gi_wp2_with fail
      (try simp only [List.setIfInBounds_toArray, List.set_cons_succ, List.set_cons_zero])
      refine any_node (fuel := 5) [0] (by kernel_rfl) (by simp) ?_
      intro i hi
      simp only [List.mem_cons, List.not_mem_nil, or_false] at hi
      subst hi
      · refine op_of_list ({ dst := some 24, op := Op.load 25 (Operand.tmp 3), type := 25, pos := "address.go:121", after := #[], guard := none } : Oper) rfl rfl ?_
        gi_wp2_with fail
        (try simp only [List.setIfInBounds_toArray, List.set_cons_zero])
        refine any_node (fuel := 4) [2] (by kernel_rfl) (by simp) ?_
        intro i hi
        simp only [List.mem_cons, List.not_mem_nil, or_false] at hi
        subst hi
        · refine op_of_list ({ dst := some 26, op := Op.call { callee := Callee.builtin Builtin.len, args := #[Operand.tmp 24], argTypes := #[25] }, type := 3, pos := "address.go:121", after := #[{ on := 0, ground := Ground.data }], guard := none } : Oper) rfl rfl ?_
          gi_wp2_with fail
          (try simp only [List.setIfInBounds_toArray, List.set_cons_succ, List.set_cons_zero])
          exact h4
  · refine op_of_list ({ dst := some 27, op := Op.buildSlice 25 1 #[(0, Operand.const (Value.agg #[Value.int IntKind.u16 0, Value.slice none 0 0, Value.slice none 0 0]))], type := 25, pos := "address.go:121", after := #[], guard := none } : Oper) rfl rfl ?_
    gi_wp2_with fail
    (try simp only [List.setIfInBounds_toArray, List.set_cons_succ, List.set_cons_zero])
    refine any_node (fuel := 6) [0, 1] (by kernel_rfl) (by simp) ?_
    intro i hi
    simp only [List.mem_cons, List.not_mem_nil, or_false] at hi
    rcases hi with rfl | rfl
    · refine op_of_list ({ dst := some 24, op := Op.load 25 (Operand.tmp 3), type := 25, pos := "address.go:121", after := #[], guard := none } : Oper) rfl rfl ?_
      gi_wp2_with fail
      (try simp only [List.setIfInBounds_toArray, List.set_cons_zero])
      refine any_node (fuel := 5) [1, 2] (by kernel_rfl) (by simp) ?_
      intro i hi
      simp only [List.mem_cons, List.not_mem_nil, or_false] at hi
      rcases hi with rfl | rfl
      · refine op_of_list ({ dst := some 25, op := Op.load 27 (Operand.tmp 6), type := 27, pos := "address.go:121", after := #[], guard := none } : Oper) rfl rfl ?_
        gi_wp2_with fail
        (try simp only [List.setIfInBounds_toArray, List.set_cons_succ, List.set_cons_zero])
        refine any_node (fuel := 4) [2] (by kernel_rfl) (by simp) ?_
        intro i hi
        simp only [List.mem_cons, List.not_mem_nil, or_false] at hi
        subst hi
        · refine op_of_list ({ dst := some 26, op := Op.call { callee := Callee.builtin Builtin.len, args := #[Operand.tmp 24], argTypes := #[25] }, type := 3, pos := "address.go:121", after := #[{ on := 0, ground := Ground.data }], guard := none } : Oper) rfl rfl ?_
          gi_wp2_with fail
          (try simp only [List.setIfInBounds_toArray, List.set_cons_succ, List.set_cons_zero])
          exact h4
      · refine op_of_list ({ dst := some 26, op := Op.call { callee := Callee.builtin Builtin.len, args := #[Operand.tmp 24], argTypes := #[25] }, type := 3, pos := "address.go:121", after := #[{ on := 0, ground := Ground.data }], guard := none } : Oper) rfl rfl ?_
        gi_wp2_with fail
        (try simp only [List.setIfInBounds_toArray, List.set_cons_succ, List.set_cons_zero])
        refine any_node (fuel := 4) [1] (by kernel_rfl) (by simp) ?_
        intro i hi
        simp only [List.mem_cons, List.not_mem_nil, or_false] at hi
        subst hi
        · refine op_of_list ({ dst := some 25, op := Op.load 27 (Operand.tmp 6), type := 27, pos := "address.go:121", after := #[], guard := none } : Oper) rfl rfl ?_
          gi_wp2_with fail
          (try simp only [List.setIfInBounds_toArray, List.set_cons_succ, List.set_cons_zero])
          exact h4
    · refine op_of_list ({ dst := some 25, op := Op.load 27 (Operand.tmp 6), type := 27, pos := "address.go:121", after := #[], guard := none } : Oper) rfl rfl ?_
      gi_wp2_with fail
      (try simp only [List.setIfInBounds_toArray, List.set_cons_succ, List.set_cons_zero])
      refine any_node (fuel := 5) [0] (by kernel_rfl) (by simp) ?_
      intro i hi
      simp only [List.mem_cons, List.not_mem_nil, or_false] at hi
      subst hi
      · refine op_of_list ({ dst := some 24, op := Op.load 25 (Operand.tmp 3), type := 25, pos := "address.go:121", after := #[], guard := none } : Oper) rfl rfl ?_
        gi_wp2_with fail
        (try simp only [List.setIfInBounds_toArray, List.set_cons_zero])
        refine any_node (fuel := 4) [2] (by kernel_rfl) (by simp) ?_
        intro i hi
        simp only [List.mem_cons, List.not_mem_nil, or_false] at hi
        subst hi
        · refine op_of_list ({ dst := some 26, op := Op.call { callee := Callee.builtin Builtin.len, args := #[Operand.tmp 24], argTypes := #[25] }, type := 3, pos := "address.go:121", after := #[{ on := 0, ground := Ground.data }], guard := none } : Oper) rfl rfl ?_
          gi_wp2_with fail
          (try simp only [List.setIfInBounds_toArray, List.set_cons_succ, List.set_cons_zero])
          exact h4
end Go.Proofs.YtemeeeiglifpaaaDoor

/- Layer 9: one statement of All, inside a round: the class inside is appended to the classes, in whatever order Go carries it out. It writes the classes alone. -/


namespace Go.Proofs.YtemeeeiglifpaaaDoor
open Go.RowKit Go.Shelf

set_option linter.unusedSimpArgs false
theorem iinfoA : (Tryd.prog.info? 3).map (fun i => (i.zero, i.size, i.bytes)) = some (some (.int .i64 0), 1, 8) := by kernel_rfl
theorem step_append_toldA {P : Program} {w : World} {ops : Array Oper} {o : Oper} {a : Act} {K : Act → World → Prop} {Q : Exit → Act → World → Prop} {E : Prop} (hgd : o.guard = none) (s x : Operand) (t : TypeId)
    (ho : o.op = .call { callee := .builtin .append, args := #[s, x], argTypes := #[t, t] })
    (base : Nat) (e : TypeId) (z : Value) (size bytes : Nat) (ht : P.underlying t = some (.slice e)) (hi : (P.info? e).map (fun i => (i.zero, i.size, i.bytes)) = some (some z, size, bytes))
    (hzs : z.cells.size = size) (hsz : 0 < size)
    (v : Value) (n : Nat) (xs : List Value) (hs : a.eval s = v) (hown : w.ownsRow base e size v n xs)
    (ad : Addr) (m c : Nat) (hm : 0 < m) (news : List Value) (hx : a.eval x = .slice (some ad) m c) (hl : news.length = m * size) (hnews : ∀ j u, news[j]? = some u → w.cell? (ad.add j) = some u) (h1 : ∀ u ∈ news, u.oneCell' = true)
    (h63 : n + m ≤ maxLen) (hbytes : (n + m) * bytes ≤ 140737488355328) (hbase : base ≤ w.heap.size)
    (h : ∀ v' w', w'.ownsRow base e size v' (n + m) (xs ++ news) → w.grownBy w' v.ownBlock → (v'.ownBlock = some w.heap.size ∨ (v'.ownBlock = v.ownBlock ∧ ∃ g, v.ownBlock = some g)) → K (a.put o.dst v') w') :
    if Region.wanted o (yielded ops a.tmps) = true then Oper.wp P o a w K Q else E := by
  have hw : Region.wanted o (yielded ops a.tmps) = true := by simp [Region.wanted, hgd]
  rw [if_pos hw]
  obtain ⟨i, hi0, hi1, hi2, hi3⟩ := info_parts hi
  obtain ⟨v', w', hr, h2, h3, h4⟩ := run_append_told (P := P) w base t o.type e i z size bytes ht hi0 hi1 hi2 hi3 hzs hsz v n xs hown ad m c hm news hl hnews h1 h63 hbytes hbase
  unfold Oper.wp
  simp only [execOp, ho, resolve, invoke, builtin, Sem.run_bind, Sem.run_pure, Result.andThen_ok, List.map_toArray, List.map_cons, List.map_nil, hs, hx, hr]
  exact h v' w' h2 h3 h4
def ops9A : Array Oper :=
  #[{ dst := some 30, op := Op.load 47 (Operand.tmp 4), type := 47, pos := "address.go:123", after := #[], guard := none },
    { dst := some 31, op := Op.move (Operand.tmp 5), type := 3, pos := "address.go:123", after := #[], guard := none },
    { dst := some 32, op := Op.slice 47 (Operand.tmp 30) none (some (Operand.tmp 31)) none, type := 47, pos := "address.go:123", after := #[{ on := 0, ground := Ground.data }, { on := 1, ground := Ground.data }], guard := none },
    { dst := some 33, op := Op.move (Operand.tmp 7), type := 3, pos := "address.go:123", after := #[], guard := none },
    { dst := some 34, op := Op.fieldAddr 27 (Operand.tmp 6) 0, type := 0, pos := "address.go:123", after := #[], guard := none },
    { dst := some 35, op := Op.load 23 (Operand.tmp 34), type := 23, pos := "address.go:123", after := #[{ on := 4, ground := Ground.data }], guard := none },
    { dst := some 36, op := Op.call { callee := Callee.value (Operand.func 40), args := #[Operand.tmp 33, Operand.tmp 35], argTypes := #[3, 23] }, type := 3, pos := "address.go:123", after := #[{ on := 3, ground := Ground.data }, { on := 5, ground := Ground.data }], guard := none },
    { dst := some 37, op := Op.buildSlice 47 1 #[(0, Operand.tmp 36)], type := 47, pos := "address.go:123", after := #[{ on := 6, ground := Ground.data }], guard := none },
    { dst := some 38, op := Op.call { callee := Callee.builtin Builtin.append, args := #[Operand.tmp 32, Operand.tmp 37], argTypes := #[47, 47] }, type := 47, pos := "address.go:123", after := #[{ on := 2, ground := Ground.data }, { on := 7, ground := Ground.data }, { on := 6, ground := Ground.chain }], guard := none },
    { dst := none, op := Op.store 47 (Operand.tmp 4) (Operand.tmp 38), type := 0, pos := "address.go:123", after := #[{ on := 8, ground := Ground.data }, { on := 8, ground := Ground.chain }, { on := 0, ground := Ground.phase }, { on := 1, ground := Ground.phase }, { on := 2, ground := Ground.phase }, { on := 3, ground := Ground.phase }, { on := 4, ground := Ground.phase }, { on := 5, ground := Ground.phase }, { on := 6, ground := Ground.phase }, { on := 7, ground := Ground.phase }, { on := 8, ground := Ground.phase }], guard := none }]
set_option maxRecDepth 100000 in
set_option maxHeartbeats 8000000 in
theorem region9A {l' m : Nat} {Q : Exit → Act → World → Prop} (hq : ¬ LetsOut Q) (hQp : ∀ c a d v w, Q (.panic c) (Act.put a d v) w → Q (.panic c) a w) (t0 t1 t2 t3 t8 t9 t10 t11 t12 t13 t14 t15 t16 t17 t18 t19 t20 t21 t22 t23 t24 t25 t26 t27 t28 t29 t30 t31 t32 t33 t34 t35 t36 t37 t38 t39 : Value) (Bc gb gC k cc L : Nat) (tt : UInt16) (x : Int) (hx : x = (if tt = 49155 then 2 else 1)) (V : World)
    (hbx : Boxed V Bc 47 (.slice (some ⟨gC, 0, none⟩) k cc)) (hn0 : V.cell? ⟨gb, 0, none⟩ = some (hv tt)) (hown : V.ownsRow L 3 1 (.slice (some ⟨gC, 0, none⟩) 1 cc) 1 [.int .i64 1]) (hk1 : 1 ≤ k) (hkc : k ≤ cc) (hL : L ≤ V.heap.size)
    (hQ : ∀ (u30 u31 u32 u33 u34 u35 u36 u37 u38 : Value) (g4 c4 : Nat) (W4 : World), W4.ownsRow L 3 1 (.slice (some ⟨g4, 0, none⟩) 2 c4) 2 ([.int .i64 1] ++ [.int .i64 x]) → (V.drew.alloc (.cells #[.int .i64 x] 3)).grownBy W4 (some gC) → (g4 = V.heap.size + 1 ∨ g4 = gC) → Q .normal { tmps := #[t0, t1, t2, t3, .pointer (some ⟨Bc, 0, none⟩), .int .i64 1, .pointer (some ⟨gb, 0, none⟩), .int .i64 1, t8, t9, t10, t11, t12, t13, t14, t15, t16, t17, t18, t19, t20, t21, t22, t23, t24, t25, t26, t27, t28, t29, u30, u31, u32, u33, u34, u35, u36, u37, u38, t39], defers := [] } (W4.setCell ⟨Bc, 0, none⟩ (.slice (some ⟨g4, 0, none⟩) 2 c4))) :
    (Code.region 9 ops9A true).wpIn (Fence.wide.inRound l') m Tryd.prog Q { tmps := #[t0, t1, t2, t3, .pointer (some ⟨Bc, 0, none⟩), .int .i64 1, .pointer (some ⟨gb, 0, none⟩), .int .i64 1, t8, t9, t10, t11, t12, t13, t14, t15, t16, t17, t18, t19, t20, t21, t22, t23, t24, t25, t26, t27, t28, t29, t30, t31, t32, t33, t34, t35, t36, t37, t38, t39], defers := [] } V := by
  have HIn := Lib.hid (show ∀ w : World, Calls Tryd.prog 40 #[.int .i64 1, hv tt] w fun e w' => e = .returned (.int .i64 x) ∧ w = w' from fun w => by rw [hx]; exact insideA_any tt w)
  have HQ := Lib.hid hQ
  have HBA := Lib.hid (show Boxed (V.drew.alloc (.cells #[.int .i64 x] 3)) Bc 47 (.slice (some ⟨gC, 0, none⟩) k cc) from Boxed.alloc (W := V.drew) hbx _)
  have HOA := Lib.hid (show (V.drew.alloc (.cells #[.int .i64 x] 3)).ownsRow L 3 1 (.slice (some ⟨gC, 0, none⟩) 1 cc) 1 [.int .i64 1] from World.ownsRow.alloc (w := V.drew) hown _)
  have HNW := Lib.hid (show ∀ j u, [Value.int .i64 x][j]? = some u → (V.drew.alloc (.cells #[.int .i64 x] 3)).cell? ((⟨V.heap.size, 0, none⟩ : Addr).add j) = some u from fun j u hu => by
    have hc := (Whole.new V.drew 3 #[.int .i64 x]).cell j
    rw [show V.drew.heap.size = V.heap.size from rfl] at hc
    rw [add_row, hc]
    simpa using hu)
  have e0 := hbx.cell
  have hBlt := boxed_lt hbx
  have hglt := World.block_lt_of_cell? V _ hn0
  have hne0 : Bc ≠ V.heap.size := by omega
  have hne1 : gb ≠ V.heap.size := by simp only at hglt; omega
  have hk1' : (1 : Int) ≤ (k : Int) := by omega
  have hkc' : (1 : Int) ≤ (cc : Int) := by omega
  have z1 := HBA.out.cell
  have z2 : (V.drew.alloc (.cells #[.int .i64 x] 3)).cell? ⟨gb, 0, none⟩ = some (hv tt) := (World.cell?_alloc_lt V.drew _ ⟨gb, 0, none⟩ hglt).trans hn0
  clear hQ hx hbx hown hglt
  have h13 : wpAny Tryd.prog .any ops9A Q 2 #[true, true, true, true, true, true, true, true, false, false] { tmps := #[t0, t1, t2, t3, .pointer (some ⟨Bc, 0, none⟩), .int .i64 1, .pointer (some ⟨gb, 0, none⟩), .int .i64 1, t8, t9, t10, t11, t12, t13, t14, t15, t16, t17, t18, t19, t20, t21, t22, t23, t24, t25, t26, t27, t28, t29, .slice (some ⟨gC, 0, none⟩) k cc, .int .i64 1, .slice (some ⟨gC, 0, none⟩) 1 cc, .int .i64 1, .pointer (some ⟨gb, 0, none⟩), hv tt, .int .i64 x, .slice (some ⟨V.heap.size, 0, none⟩) 1 1, t38, t39], defers := [] } (V.drew.alloc (.cells #[.int .i64 x] 3)) := by
    unfold ops9A
    refine wpAny_ready (rs := [8]) (by kernel_rfl) (by simp) ?_
    refine AllReady.cons rfl (fun K hK => ?_) AllReady.nil
    refine step_append_toldA rfl (.tmp 32) (.tmp 37) 47 rfl L 3 _ 1 8 Tryd.underlying47 iinfoA rfl (by omega) (.slice (some ⟨gC, 0, none⟩) 1 cc) _ _ rfl HOA.out ⟨V.heap.size, 0, none⟩ 1 1 (by omega) [.int .i64 x] rfl rfl HNW.out (by intro u hu; rw [List.mem_singleton.1 hu]; rfl) (by simp [maxLen]) (by omega) (by simp; omega) ?_
    intro v4 W4 hown4 hgrow4 hblk4
    refine hK _ _ ?_
    clear hK K
    obtain ⟨g4, c4, rfl⟩ : ∃ g4 c4, v4 = .slice (some ⟨g4, 0, none⟩) 2 c4 := by
      rcases hown4.2 with ⟨_, e2⟩ | ⟨g, cap, cur, e1, _⟩
      · omega
      · exact ⟨g, cap, e1⟩
    try simp only [Act.put, List.setIfInBounds_toArray, List.set_cons_zero, List.set_cons_succ]
    have hb4 : Boxed W4 Bc 47 (.slice (some ⟨gC, 0, none⟩) k cc) := HBA.out.kept hgrow4 (HBA.out.not_row (by decide) HOA.out)
    have bc := hb4.cell
    have bf := hb4.frozen
    refine wpAny_ready (rs := [9]) (by kernel_rfl) (by simp) ?_
    refine AllReady.cons rfl (fun K hK => ?_) AllReady.nil
    go_simp
    refine hK _ _ ?_
    clear hK K
    refine wpAny_done (by kernel_rfl) ?_ _
    exact HQ.out _ _ _ _ _ _ _ _ _ g4 c4 W4 hown4 hgrow4 (hblk4.imp (fun h => by simpa [Value.ownBlock] using h) (fun h => by have := h.1; simpa [Value.ownBlock] using this))
  have h12 : wpAny Tryd.prog .any ops9A Q 3 #[true, true, true, true, true, true, true, false, false, false] { tmps := #[t0, t1, t2, t3, .pointer (some ⟨Bc, 0, none⟩), .int .i64 1, .pointer (some ⟨gb, 0, none⟩), .int .i64 1, t8, t9, t10, t11, t12, t13, t14, t15, t16, t17, t18, t19, t20, t21, t22, t23, t24, t25, t26, t27, t28, t29, .slice (some ⟨gC, 0, none⟩) k cc, .int .i64 1, .slice (some ⟨gC, 0, none⟩) 1 cc, .int .i64 1, .pointer (some ⟨gb, 0, none⟩), hv tt, .int .i64 x, t37, t38, t39], defers := [] } V.drew := by
    unfold ops9A
    refine wpAny_ready (rs := [7]) (by kernel_rfl) (by simp) ?_
    refine AllReady.cons rfl (fun K hK => ?_) AllReady.nil
    go_simp
    refine hK _ _ ?_
    clear hK K
    try simp only [Act.put, List.setIfInBounds_toArray, List.set_cons_zero, List.set_cons_succ]
    exact h13
  have h11 : wpAny Tryd.prog .any ops9A Q 4 #[true, true, true, true, true, true, false, false, false, false] { tmps := #[t0, t1, t2, t3, .pointer (some ⟨Bc, 0, none⟩), .int .i64 1, .pointer (some ⟨gb, 0, none⟩), .int .i64 1, t8, t9, t10, t11, t12, t13, t14, t15, t16, t17, t18, t19, t20, t21, t22, t23, t24, t25, t26, t27, t28, t29, .slice (some ⟨gC, 0, none⟩) k cc, .int .i64 1, .slice (some ⟨gC, 0, none⟩) 1 cc, .int .i64 1, .pointer (some ⟨gb, 0, none⟩), hv tt, t36, t37, t38, t39], defers := [] } V.drew := by
    unfold ops9A
    refine wpAny_ready (rs := [6]) (by kernel_rfl) (by simp) ?_
    refine AllReady.cons rfl (fun K hK => ?_) AllReady.nil
    go_simp
    go_at_call 40
    refine (HIn.out _).mono ?_
    rintro e w1 ⟨rfl, rfl⟩
    go_wp2_with fail
    try simp only [Act.put, List.setIfInBounds_toArray, List.set_cons_zero, List.set_cons_succ]
    first | exact h12 | (refine hK _ _ ?_; clear hK K; (try simp only [Act.put, List.setIfInBounds_toArray, List.set_cons_zero, List.set_cons_succ]); exact h12)
  have h10 : wpAny Tryd.prog .any ops9A Q 5 #[true, true, true, true, true, false, false, false, false, false] { tmps := #[t0, t1, t2, t3, .pointer (some ⟨Bc, 0, none⟩), .int .i64 1, .pointer (some ⟨gb, 0, none⟩), .int .i64 1, t8, t9, t10, t11, t12, t13, t14, t15, t16, t17, t18, t19, t20, t21, t22, t23, t24, t25, t26, t27, t28, t29, .slice (some ⟨gC, 0, none⟩) k cc, .int .i64 1, .slice (some ⟨gC, 0, none⟩) 1 cc, .int .i64 1, .pointer (some ⟨gb, 0, none⟩), t35, t36, t37, t38, t39], defers := [] } V.drew := by
    unfold ops9A
    refine wpAny_ready (rs := [5]) (by kernel_rfl) (by simp) ?_
    refine AllReady.cons rfl (fun K hK => ?_) AllReady.nil
    go_simp
    refine hK _ _ ?_
    clear hK K
    try simp only [Act.put, List.setIfInBounds_toArray, List.set_cons_zero, List.set_cons_succ]
    exact h11
  have h03 : wpAny Tryd.prog .any ops9A Q 4 #[false, true, false, true, true, true, true, true, false, false] { tmps := #[t0, t1, t2, t3, .pointer (some ⟨Bc, 0, none⟩), .int .i64 1, .pointer (some ⟨gb, 0, none⟩), .int .i64 1, t8, t9, t10, t11, t12, t13, t14, t15, t16, t17, t18, t19, t20, t21, t22, t23, t24, t25, t26, t27, t28, t29, t30, .int .i64 1, t32, .int .i64 1, .pointer (some ⟨gb, 0, none⟩), hv tt, .int .i64 x, .slice (some ⟨V.heap.size, 0, none⟩) 1 1, t38, t39], defers := [] } (V.drew.alloc (.cells #[.int .i64 x] 3)) := by
    unfold ops9A
    refine wpAny_ready (rs := [0]) (by kernel_rfl) (by simp) ?_
    refine AllReady.cons rfl (fun K hK => ?_) AllReady.nil
    go_simp
    refine hK _ _ ?_
    clear hK K
    try simp only [Act.put, List.setIfInBounds_toArray, List.set_cons_zero, List.set_cons_succ]
    refine wpAny_take (i := 2) (v := ?_) rfl (by kernel_rfl) (by kernel_rfl) (by kernel_rfl) (fun _ _ _ h => hQp _ _ _ _ _ h) (Or.inl ⟨by kernel_rfl, ?_⟩) ?_
    rotate_left
    · (intro w; go_simp <;> with_reducible rfl)
    try simp only [Act.put, List.setIfInBounds_toArray, List.set_cons_zero, List.set_cons_succ]
    exact h13
  have h02 : wpAny Tryd.prog .any ops9A Q 5 #[false, true, false, true, true, true, true, false, false, false] { tmps := #[t0, t1, t2, t3, .pointer (some ⟨Bc, 0, none⟩), .int .i64 1, .pointer (some ⟨gb, 0, none⟩), .int .i64 1, t8, t9, t10, t11, t12, t13, t14, t15, t16, t17, t18, t19, t20, t21, t22, t23, t24, t25, t26, t27, t28, t29, t30, .int .i64 1, t32, .int .i64 1, .pointer (some ⟨gb, 0, none⟩), hv tt, .int .i64 x, t37, t38, t39], defers := [] } V.drew := by
    unfold ops9A
    refine wpAny_ready (rs := [0, 7]) (by kernel_rfl) (by simp) ?_
    refine AllReady.cons rfl (fun K hK => ?_) ?_
    · go_simp
      refine hK _ _ ?_
      clear hK K
      try simp only [Act.put, List.setIfInBounds_toArray, List.set_cons_zero, List.set_cons_succ]
      refine wpAny_take (i := 2) (v := ?_) rfl (by kernel_rfl) (by kernel_rfl) (by kernel_rfl) (fun _ _ _ h => hQp _ _ _ _ _ h) (Or.inl ⟨by kernel_rfl, ?_⟩) ?_
      rotate_left
      · (intro w; go_simp <;> with_reducible rfl)
      try simp only [Act.put, List.setIfInBounds_toArray, List.set_cons_zero, List.set_cons_succ]
      exact h12
    refine AllReady.cons rfl (fun K hK => ?_) AllReady.nil
    go_simp
    refine hK _ _ ?_
    clear hK K
    try simp only [Act.put, List.setIfInBounds_toArray, List.set_cons_zero, List.set_cons_succ]
    exact h03
  have h01 : wpAny Tryd.prog .any ops9A Q 6 #[false, true, false, true, true, true, false, false, false, false] { tmps := #[t0, t1, t2, t3, .pointer (some ⟨Bc, 0, none⟩), .int .i64 1, .pointer (some ⟨gb, 0, none⟩), .int .i64 1, t8, t9, t10, t11, t12, t13, t14, t15, t16, t17, t18, t19, t20, t21, t22, t23, t24, t25, t26, t27, t28, t29, t30, .int .i64 1, t32, .int .i64 1, .pointer (some ⟨gb, 0, none⟩), hv tt, t36, t37, t38, t39], defers := [] } V.drew := by
    unfold ops9A
    refine wpAny_ready (rs := [0, 6]) (by kernel_rfl) (by simp) ?_
    refine AllReady.cons rfl (fun K hK => ?_) ?_
    · go_simp
      refine hK _ _ ?_
      clear hK K
      try simp only [Act.put, List.setIfInBounds_toArray, List.set_cons_zero, List.set_cons_succ]
      refine wpAny_take (i := 2) (v := ?_) rfl (by kernel_rfl) (by kernel_rfl) (by kernel_rfl) (fun _ _ _ h => hQp _ _ _ _ _ h) (Or.inl ⟨by kernel_rfl, ?_⟩) ?_
      rotate_left
      · (intro w; go_simp <;> with_reducible rfl)
      try simp only [Act.put, List.setIfInBounds_toArray, List.set_cons_zero, List.set_cons_succ]
      exact h11
    refine AllReady.cons rfl (fun K hK => ?_) AllReady.nil
    go_simp
    go_at_call 40
    refine (HIn.out _).mono ?_
    rintro e w1 ⟨rfl, rfl⟩
    go_wp2_with fail
    try simp only [Act.put, List.setIfInBounds_toArray, List.set_cons_zero, List.set_cons_succ]
    first | exact h02 | (refine hK _ _ ?_; clear hK K; (try simp only [Act.put, List.setIfInBounds_toArray, List.set_cons_zero, List.set_cons_succ]); exact h02)
  have h00 : wpAny Tryd.prog .any ops9A Q 7 #[false, true, false, true, true, false, false, false, false, false] { tmps := #[t0, t1, t2, t3, .pointer (some ⟨Bc, 0, none⟩), .int .i64 1, .pointer (some ⟨gb, 0, none⟩), .int .i64 1, t8, t9, t10, t11, t12, t13, t14, t15, t16, t17, t18, t19, t20, t21, t22, t23, t24, t25, t26, t27, t28, t29, t30, .int .i64 1, t32, .int .i64 1, .pointer (some ⟨gb, 0, none⟩), t35, t36, t37, t38, t39], defers := [] } V.drew := by
    unfold ops9A
    refine wpAny_ready (rs := [0, 5]) (by kernel_rfl) (by simp) ?_
    refine AllReady.cons rfl (fun K hK => ?_) ?_
    · go_simp
      refine hK _ _ ?_
      clear hK K
      try simp only [Act.put, List.setIfInBounds_toArray, List.set_cons_zero, List.set_cons_succ]
      refine wpAny_take (i := 2) (v := ?_) rfl (by kernel_rfl) (by kernel_rfl) (by kernel_rfl) (fun _ _ _ h => hQp _ _ _ _ _ h) (Or.inl ⟨by kernel_rfl, ?_⟩) ?_
      rotate_left
      · (intro w; go_simp <;> with_reducible rfl)
      try simp only [Act.put, List.setIfInBounds_toArray, List.set_cons_zero, List.set_cons_succ]
      exact h10
    refine AllReady.cons rfl (fun K hK => ?_) AllReady.nil
    go_simp
    refine hK _ _ ?_
    clear hK K
    try simp only [Act.put, List.setIfInBounds_toArray, List.set_cons_zero, List.set_cons_succ]
    exact h01
  refine wpIn_region_any (by kernel_rfl) (wpAnyIn_rnd (fun i o c ho e => ?_) hq _ _ _ _ ?_)
  · have h1 := Array.all_eq_true.1 (show (ops9A.all fun o => match o.op with | .defer _ => false | _ => true) = true by kernel_rfl) i (Array.getElem?_eq_some_iff.1 ho).1
    rw [(Array.getElem?_eq_some_iff.1 ho).2, e] at h1
    cases h1
  change wpAny Tryd.prog .any ops9A Q 10 #[false, false, false, false, false, false, false, false, false, false] { tmps := #[t0, t1, t2, t3, .pointer (some ⟨Bc, 0, none⟩), .int .i64 1, .pointer (some ⟨gb, 0, none⟩), .int .i64 1, t8, t9, t10, t11, t12, t13, t14, t15, t16, t17, t18, t19, t20, t21, t22, t23, t24, t25, t26, t27, t28, t29, t30, t31, t32, t33, t34, t35, t36, t37, t38, t39], defers := [] } V.drew
  unfold ops9A at h00 ⊢
  refine wpAny_take (i := 1) (v := ?_) rfl (by kernel_rfl) (by kernel_rfl) (by kernel_rfl) (fun _ _ _ h => hQp _ _ _ _ _ h) (Or.inl ⟨by kernel_rfl, ?_⟩) ?_
  rotate_left
  · (intro w; go_simp <;> with_reducible rfl)
  try simp only [Act.put, List.setIfInBounds_toArray, List.set_cons_zero, List.set_cons_succ]
  refine wpAny_take (i := 3) (v := ?_) rfl (by kernel_rfl) (by kernel_rfl) (by kernel_rfl) (fun _ _ _ h => hQp _ _ _ _ _ h) (Or.inl ⟨by kernel_rfl, ?_⟩) ?_
  rotate_left
  · (intro w; go_simp <;> with_reducible rfl)
  try simp only [Act.put, List.setIfInBounds_toArray, List.set_cons_zero, List.set_cons_succ]
  refine wpAny_take (i := 4) (v := ?_) rfl (by kernel_rfl) (by kernel_rfl) (by kernel_rfl) (fun _ _ _ h => hQp _ _ _ _ _ h) (Or.inl ⟨by kernel_rfl, ?_⟩) ?_
  rotate_left
  · (intro w; go_simp <;> with_reducible rfl)
  try simp only [Act.put, List.setIfInBounds_toArray, List.set_cons_zero, List.set_cons_succ]
  exact h00
end Go.Proofs.YtemeeeiglifpaaaDoor

/- Layer 9: All at a list of two nodes without kids, of which the first is an address and the second is none: one node. It writes nothing that was there. -/



namespace Go.Proofs.YtemeeeiglifpaaaDoor
open Go.RowKit Go.Shelf

attribute [local go_sem] Oper.semAt_some
set_option linter.unusedSimpArgs false

/-- Walk, told that its clones are new -/
theorem walkS_any (A : Option Addr) (c : Nat) (ns : List Nd) (w : World) (h : Nodes w w.heap.size A ns) (hl : ns.length ≤ 100000000) (hf : ∀ n ∈ ns, Few2 n) :
    Calls Tryd.prog 38 #[.slice A ns.length c] w fun e w' => ∃ g A' c', e = .returned (.func (.func 52) #[] #[.pointer (some ⟨g, 0, none⟩)]) ∧ Whole w' g 25 #[.slice A' ns.length c'] ∧ NodesS w' (NewS w w') A' ns ∧ ns.length ≤ c' ∧ c' ≤ maxLen ∧ w.heap.size ≤ g ∧ Below w.heap.size w w' := by
  have b0 : Below w.heap.size w (w.alloc (.cells #[.slice A ns.length c] 25)) := (Below.refl _ w).alloc (Nat.le_refl _) _
  have hC := clones_any ns hf A c _ (h.on b0) hl
  have hW := Whole.new w 25 #[.slice A ns.length c]
  go_enter Tryd.func38, Tryd.ntmps38
  go_wp2_with fail
  refine hC.mono ?_
  rintro e w2 ⟨A2, c2, rfl, hN, m1, m2, b2⟩
  have hW2 := hW.below b2 (by simp)
  have d0 := hW2.cell 0
  have d1 := hW2.frozen 0
  simp only [List.getElem?_toArray, List.getElem?_cons_zero] at d0
  have b2' := b0.trans (b2.mono (by simp))
  have hsz : w.heap.size + 1 ≤ w2.heap.size := by have := b2.size; simpa using this
  go_wp2_with fail
  go_ret
  refine ⟨w.heap.size, A2, c2, rfl, hW2.set_ 0 _, ?_, m1, m2, Nat.le_refl _, b2'.setCell (Nat.le_refl _) _⟩
  exact hN.turn (fun p hp => World.cell?_setCell_other _ _ _ _ (fun e => by have := hp.1; rw [← e] at this; simp at this; omega)) (fun b hb => ⟨by have := hb.1; simp at this; omega, by have := hb.2; simpa [World.setCell] using this⟩)

theorem set3_takeA {us : List Value} {cur : Array Value} {k : Nat} {z0 z1 z2 : Value} (hu : us.length = k * 3) (h : cur.toList.take ((k + 1) * 3) = us ++ [z0, z1, z2]) (a b c : Value) :
    (((cur.setIfInBounds (k * 3) a).setIfInBounds (k * 3 + 1) b).setIfInBounds (k * 3 + 2) c).toList.take ((k + 1) * 3) = us ++ [a, b, c] := by
  rw [Array.toList_setIfInBounds, Array.toList_setIfInBounds, Array.toList_setIfInBounds, List.take_set, List.take_set, List.take_set, h]
  rw [List.set_append_right _ _ (by omega), hu, Nat.sub_self, List.set_append_right _ _ (by omega), hu, show k * 3 + 1 - k * 3 = 1 by omega, List.set_append_right _ _ (by omega), hu, show k * 3 + 2 - k * 3 = 2 by omega]
  rfl
theorem own_set3A {w : World} {base g k c : Nat} {t : TypeId} {us : List Value} {z0 z1 z2 : Value} (h : w.ownsRow base t 3 (.slice (some ⟨g, 0, none⟩) (k + 1) c) (k + 1) (us ++ [z0, z1, z2])) (hu : us.length = k * 3) (a b d : Value) :
    (((w.setCell ⟨g, k * 3, none⟩ a).setCell ⟨g, k * 3 + 1, none⟩ b).setCell ⟨g, k * 3 + 2, none⟩ d).ownsRow base t 3 (.slice (some ⟨g, 0, none⟩) (k + 1) c) (k + 1) (us ++ [a, b, d]) := by
  refine ⟨by simp [hu]; omega, ?_⟩
  rcases h.2 with ⟨_, h2⟩ | ⟨g', cap, cur, h1, h2, h3, h4, h5, h6, h7⟩
  · omega
  · have h1' := h1
    simp only [Value.slice.injEq, Option.some.injEq, Addr.mk.injEq, and_true, true_and] at h1'
    obtain ⟨rfl, rfl⟩ := h1'
    have hw : Whole w g t cur := h3
    refine .inr ⟨g, c, _, rfl, h2, ((hw.set_ (k * 3) a).set_ (k * 3 + 1) b).set_ (k * 3 + 2) d, h4, h5, by simpa using h6, set3_takeA hu h7 a b d⟩
/-- the first of two -/
theorem own_preA {w : World} {base g c : Nat} {t : TypeId} {a b : Value} (h : w.ownsRow base t 1 (.slice (some ⟨g, 0, none⟩) 2 c) 2 [a, b]) : w.ownsRow base t 1 (.slice (some ⟨g, 0, none⟩) 1 c) 1 [a] ∧ 2 ≤ c ∧ c ≤ maxLen := by
  rcases h.2 with ⟨_, h2⟩ | ⟨g', cap, cur, h1, h2, h3, h4, h5, h6, h7⟩
  · omega
  · have h1' := h1
    simp only [Value.slice.injEq, Option.some.injEq, Addr.mk.injEq, and_true, true_and] at h1'
    obtain ⟨rfl, rfl⟩ := h1'
    refine ⟨⟨rfl, .inr ⟨g, c, cur, rfl, h2, h3, by omega, h5, h6, ?_⟩⟩, h4, h5⟩
    have := congrArg (List.take 1) h7
    rw [List.take_take] at this
    simpa using this

/-- the blocks that the rounds may write: two variables, and the rows that they hold -/
def AlG (gf gc : Nat) (W : World) (i : Nat) : Prop := i = gf ∨ i = gc ∨ (∃ v, Boxed W gf 25 v ∧ v.ownBlock = some i) ∨ (∃ v, Boxed W gc 47 v ∧ v.ownBlock = some i)
theorem alg_same {gf gc : Nat} {A B : World} (h1 : B.heap[gf]? = A.heap[gf]?) (h2 : B.heap[gc]? = A.heap[gc]?) {i : Nat} (h : AlG gf gc B i) : AlG gf gc A i := by
  rcases h with h | h | ⟨v, hv, hi⟩ | ⟨v, hv, hi⟩
  · exact .inl h
  · exact .inr (.inl h)
  · exact .inr (.inr (.inl ⟨v, h1.symm.trans hv, hi⟩))
  · exact .inr (.inr (.inr ⟨v, h2.symm.trans hv, hi⟩))
theorem alg_own {gf gc X : Nat} (hf : gf < X) (hc : gc < X) : GOwn X (AlG gf gc) := fun A B row hA hg hr i hi =>
  alg_same (hg.block gf (by omega) (fun e => by have := hr gf e.symm; omega)) (hg.block gc (by omega) (fun e => by have := hr gc e.symm; omega)) hi
/-- what the loop holds (m: how many were found) -/
structure AqI (w0 : World) (gf gc L m : Nat) (W : World) : Prop where
  f : ∃ F c us, Boxed W gf 25 (.slice F m c) ∧ W.ownsRow L 27 3 (.slice F m c) m us
  c : ∃ gC k cc, Boxed W gc 47 (.slice (some ⟨gC, 0, none⟩) k cc) ∧ 1 ≤ k ∧ k ≤ cc ∧ cc ≤ maxLen ∧ W.ownsRow L 3 1 (.slice (some ⟨gC, 0, none⟩) 1 cc) 1 [.int .i64 1]
  low : Below L w0 W
theorem own_turnA {A B : World} {row : Option Nat} {base size n : Nat} {e : TypeId} {v : Value} {xs : List Value} (h : A.ownsRow base e size v n xs) (hg : A.grownBy B row) (hr : ∀ r, row = some r → ∃ o : Obj, A.heap[r]? = some o ∧ o.isCells = false) : B.ownsRow base e size v n xs := by
  refine h.kept hg ?_
  rcases h.2 with ⟨rfl, _⟩ | ⟨g, cap, cur, rfl, _, hh, _⟩
  · exact .inl rfl
  · refine .inr (fun e => ?_)
    obtain ⟨o, ho, hoc⟩ := hr g e.symm
    rw [hh] at ho
    cases ho
    cases hoc
section
variable {w0 W A B U : World} {gf gc L m X : Nat}
theorem AqI.own (hX : L ≤ X) {row : Option Nat} (h : AqI w0 gf gc L m A) (hg : A.grownBy B row) (hr : ∀ r, row = some r → X ≤ r ∧ ∃ o : Obj, A.heap[r]? = some o ∧ o.isCells = false) : AqI w0 gf gc L m B := by
  have hne : ∀ (i : Nat) (cs : Array Value) (t : TypeId) (z : Nat × Nat), A.heap[i]? = some (.cells cs t z) → some i ≠ row := by
    intro i cs t z hi e
    obtain ⟨_, o, ho, hoc⟩ := hr i e.symm
    rw [hi] at ho
    cases ho
    cases hoc
  obtain ⟨⟨F, c, us, h1, h2⟩, ⟨gC, k, cc, h3, h4, h5, h6, h7⟩, h8⟩ := h
  exact ⟨⟨F, c, us, h1.kept hg (hne _ _ _ _ h1), own_turnA h2 hg fun r e => (hr r e).2⟩, ⟨gC, k, cc, h3.kept hg (hne _ _ _ _ h3), h4, h5, h6, own_turnA h7 hg fun r e => (hr r e).2⟩,
    h8.grown hg (by have := h7.lt gC rfl; omega) (fun k e => by have := (hr k e).1; omega)⟩
theorem AqI.lt (h : AqI w0 gf gc L m W) : ∀ i, AlG gf gc W i → i < W.heap.size := by
  obtain ⟨⟨F, c, us, h1, h2⟩, ⟨gC, k, cc, h3, h4, h5, h6, h7⟩, h8⟩ := h
  rintro i (rfl | rfl | ⟨v, hv, hi⟩ | ⟨v, hv, hi⟩)
  · exact boxed_lt h1
  · exact boxed_lt h3
  · rw [← boxed_uniq h1 hv] at hi
    exact (h2.lt i hi).2
  · rw [← boxed_uniq h3 hv] at hi
    exact (h7.lt i hi).2
/-- a step that writes one of the variables, and what else the rounds may write -/
theorem aq_step (b : Nat) (r : Option Nat) (hbL : L ≤ b) (hb : b = gf ∨ b = gc) (hos : W.os = U.os ∧ W.tape = U.tape ∧ W.output = U.output) (hs : U.heap.size ≤ W.heap.size)
    (hsame : ∀ i, i < U.heap.size → i ≠ b → some i ≠ r → W.heap[i]? = U.heap[i]?) (hr : ∀ g, r = some g → AlG gf gc U g ∧ L ≤ g)
    (hcells : ∀ k, (k = b ∨ some k = r) → ∀ o, U.heap[k]? = some o → o.isCells = true) (hG : ∀ i, i < U.heap.size → AlG gf gc W i → AlG gf gc U i) (hL : L ≤ U.heap.size) :
    Below L U W ∧ KeepsFrom X U W ∧ KpG (AlG gf gc) L U W := by
  have hlow : Below L U W := ⟨hos.1, hos.2.1, hos.2.2, hs, fun i hi => hsame i (by omega) (by omega) (fun e => by have := (hr i e.symm).2; omega)⟩
  refine ⟨hlow, ⟨hs, fun k o _ hk ho => ?_⟩, ⟨hlow, fun i cs t z hg hc => ?_, hG⟩⟩
  · refine (hsame k (Array.getElem?_eq_some_iff.1 hk).1 (fun e => ?_) (fun e => ?_)).trans hk
    · rw [hcells k (.inl e) o hk] at ho
      cases ho
    · rw [hcells k (.inr e) o hk] at ho
      cases ho
  · refine (hsame i (Array.getElem?_eq_some_iff.1 hc).1 (fun e => hg ?_) (fun e => hg ((hr i e.symm).1))).trans hc
    rcases hb with h | h
    · exact .inl (e.trans h)
    · exact .inr (.inl (e.trans h))
theorem cells_of_row {base size n : Nat} {e : TypeId} {v : Value} {xs : List Value} (h : U.ownsRow base e size v n xs) {k : Nat} (hk : some k = v.ownBlock) {o : Obj} (ho : U.heap[k]? = some o) : o.isCells = true := by
  rcases h.2 with ⟨rfl, _⟩ | ⟨g, cap, cur, rfl, _, hh, _⟩
  · cases hk
  · simp only [Value.ownBlock, Option.some.injEq] at hk
    subst hk
    rw [hh] at ho
    cases ho
    rfl
theorem cells_of_box {t : TypeId} {v : Value} {b : Nat} (h : Boxed U b t v) {o : Obj} (ho : U.heap[b]? = some o) : o.isCells = true := by
  unfold Boxed at h
  rw [h] at ho
  cases ho
  rfl
/-- behind the append of a node -/
theorem aq_found (hi : AqI w0 gf gc L m U) (hfc : gf ≠ gc) (hfL : L ≤ gf) {F : Option Addr} {c : Nat} {us : List Value} (h1 : Boxed U gf 25 (.slice F m c)) (h2 : U.ownsRow L 27 3 (.slice F m c) m us)
    {g4 c4 : Nat} {W4 Wf : World} {z0 z1 z2 a b d : Value} (h4 : W4.ownsRow L 27 3 (.slice (some ⟨g4, 0, none⟩) (m + 1) c4) (m + 1) (us ++ [z0, z1, z2])) {o4 : Obj} (hg4 : (U.drew.alloc o4).grownBy W4 (Value.slice F m c).ownBlock)
    (hblk : (Value.slice (some ⟨g4, 0, none⟩) (m + 1) c4).ownBlock = some (U.heap.size + 1) ∨ ((Value.slice (some ⟨g4, 0, none⟩) (m + 1) c4).ownBlock = (Value.slice F m c).ownBlock ∧ ∃ g, (Value.slice F m c).ownBlock = some g))
    (hWf : Wf = (((W4.setCell ⟨g4, m * 3, none⟩ a).setCell ⟨g4, m * 3 + 1, none⟩ b).setCell ⟨g4, m * 3 + 2, none⟩ d).setCell ⟨gf, 0, none⟩ (.slice (some ⟨g4, 0, none⟩) (m + 1) c4)) :
    AqI w0 gf gc L (m + 1) Wf ∧ KeepsFrom X U Wf ∧ KpG (AlG gf gc) L U Wf := by
  obtain ⟨_, ⟨gC, k, cc, h3, h5, h6, h7, h8⟩, hlow⟩ := hi
  have hgl := boxed_lt h1
  have hcl := boxed_lt h3
  have hu : us.length = m * 3 := h2.1
  have hdr : U.drew.heap.size = U.heap.size := rfl
  have hs4 : U.heap.size + 1 ≤ W4.heap.size := by have := hg4.size; simpa using this
  have hal : ∀ i, i < U.heap.size → (U.drew.alloc o4).heap[i]? = U.heap[i]? := fun i hi => Below.heap_alloc U.drew o4 i hi
  have hrow : ∀ g, (Value.slice F m c).ownBlock = some g → L ≤ g ∧ g < U.heap.size := fun g h => h2.lt g h
  have hg4n : g4 = U.heap.size + 1 ∨ some g4 = (Value.slice F m c).ownBlock := by
    rcases hblk with h | h
    · simp only [Value.ownBlock, Option.some.injEq] at h; exact .inl h
    · exact .inr h.1
  have h1' : Boxed W4 gf 25 (.slice F m c) := (hg4.block gf (by simp; omega) (h1.not_row (by decide) h2)).trans ((hal gf hgl).trans h1)
  have hgf : g4 ≠ gf := fun e => h1'.not_row (by decide) h4 (by rw [e]; rfl)
  have hgc : g4 ≠ gc := fun e => by
    have h3' : Boxed W4 gc 47 (.slice (some ⟨gC, 0, none⟩) k cc) := (hg4.block gc (by simp; omega) (h3.not_row (by decide) h2)).trans ((hal gc hcl).trans h3)
    exact h3'.not_row (by decide) h4 (by rw [e]; rfl)
  have hgCl := h8.lt gC rfl
  have hset : ∀ i, i ≠ g4 → i ≠ gf → Wf.heap[i]? = W4.heap[i]? := fun i e1 e2 => by
    rw [hWf, Below.heap_setCell _ ⟨gf, 0, none⟩ _ i e2, Below.heap_setCell _ ⟨g4, _, none⟩ _ i e1, Below.heap_setCell _ ⟨g4, _, none⟩ _ i e1, Below.heap_setCell _ ⟨g4, _, none⟩ _ i e1]
  have hsame : ∀ i, i < U.heap.size → i ≠ gf → some i ≠ (Value.slice F m c).ownBlock → Wf.heap[i]? = U.heap[i]? := fun i e1 e2 e3 => by
    rw [hset i (fun e => by rcases hg4n with h | h; (omega); (exact e3 (by rw [e]; exact h))) e2, hg4.block i (by simp; omega) e3, hal i e1]
  have hsz : Wf.heap.size = W4.heap.size := by rw [hWf]; simp [World.setCell]
  have hCrow : some gC ≠ (Value.slice F m c).ownBlock := fun e => by
    rcases h8.2 with ⟨_, q⟩ | ⟨g', cap', cur', q1, _, q3, _⟩
    · omega
    · simp only [Value.slice.injEq, Option.some.injEq, Addr.mk.injEq, and_true, true_and] at q1
      obtain ⟨rfl, _⟩ := q1
      rcases h2.2 with ⟨q4, _⟩ | ⟨g2, cap2, cur2, q4, _, q5, _⟩
      · rw [q4] at e; cases e
      · rw [q4] at e
        simp only [Value.ownBlock, Option.some.injEq] at e
        rw [e, q5] at q3
        simp at q3
  have hCf : gC ≠ gf := fun e => h1.not_row (by decide) h8 (by rw [e]; rfl)
  have hbox3 : Boxed Wf gc 47 (.slice (some ⟨gC, 0, none⟩) k cc) := (hsame gc hcl (fun e => hfc e.symm) (h3.not_row (by decide) h2)).trans h3
  have hbox1 : Boxed Wf gf 25 (.slice (some ⟨g4, 0, none⟩) (m + 1) c4) := by
    rw [hWf]
    refine Boxed.set (v := .slice F m c) _ ?_
    refine Eq.trans ?_ h1'
    rw [Below.heap_setCell _ ⟨g4, _, none⟩ _ gf (fun e => hgf e.symm), Below.heap_setCell _ ⟨g4, _, none⟩ _ gf (fun e => hgf e.symm), Below.heap_setCell _ ⟨g4, _, none⟩ _ gf (fun e => hgf e.symm)]
  obtain ⟨hb, hk, hp⟩ := aq_step (X := X) (gf := gf) (gc := gc) (L := L) (U := U) (W := Wf) gf (Value.slice F m c).ownBlock hfL (.inl rfl)
    (by rw [hWf]; exact ⟨hg4.os, hg4.tape, hg4.output⟩) (by omega) hsame (fun g e => ⟨.inr (.inr (.inl ⟨_, h1, e⟩)), (hrow g e).1⟩)
    (fun q hq o ho => by rcases hq with rfl | hq; (exact cells_of_box h1 ho); (exact cells_of_row h2 hq ho))
    (fun i hiU hg => by
      rcases hg with h | h | ⟨u, hu1, hu2⟩ | ⟨u, hu1, hu2⟩
      · exact .inl h
      · exact .inr (.inl h)
      · rw [← boxed_uniq hbox1 hu1] at hu2
        simp only [Value.ownBlock, Option.some.injEq] at hu2
        rcases hg4n with h | h
        · omega
        · exact .inr (.inr (.inl ⟨_, h1, by rw [← h, hu2]⟩))
      · rw [← boxed_uniq hbox3 hu1] at hu2
        exact .inr (.inr (.inr ⟨_, h3, hu2⟩))) (by omega)
  refine ⟨⟨⟨_, _, us ++ [a, b, d], hbox1, ?_⟩, ⟨gC, k, cc, hbox3, h5, h6, h7, ?_⟩, hlow.trans hb⟩, hk, hp⟩
  · rw [hWf]
    exact (own_set3A h4 hu a b d).kept (grownBy_setCell' _ gf _) (.inr (fun e => hgf (by simpa [Value.ownBlock] using e)))
  · refine ⟨h8.1, ?_⟩
    rcases h8.2 with ⟨_, q⟩ | ⟨g', cap', cur', q1, q2, q3, q4⟩
    · omega
    · have q1' := q1
      simp only [Value.slice.injEq, Option.some.injEq, Addr.mk.injEq, and_true, true_and] at q1'
      obtain ⟨rfl, rfl⟩ := q1'
      exact .inr ⟨gC, cc, cur', rfl, q2, (hsame gC hgCl.2 hCf hCrow).trans q3, q4⟩
/-- behind the append of a class -/
theorem aq_class (hi : AqI w0 gf gc L m U) (hfc : gf ≠ gc) (hcL : L ≤ gc) {gC k cc : Nat} (h3 : Boxed U gc 47 (.slice (some ⟨gC, 0, none⟩) k cc)) (h8 : U.ownsRow L 3 1 (.slice (some ⟨gC, 0, none⟩) 1 cc) 1 [.int .i64 1])
    {g4 c4 : Nat} {W4 : World} {x : Int} (h4 : W4.ownsRow L 3 1 (.slice (some ⟨g4, 0, none⟩) 2 c4) 2 ([.int .i64 1] ++ [.int .i64 x])) {o4 : Obj} (hg4 : (U.drew.alloc o4).grownBy W4 (some gC)) (hblk : g4 = U.heap.size + 1 ∨ g4 = gC) :
    AqI w0 gf gc L m (W4.setCell ⟨gc, 0, none⟩ (.slice (some ⟨g4, 0, none⟩) 2 c4)) ∧ KeepsFrom X U (W4.setCell ⟨gc, 0, none⟩ (.slice (some ⟨g4, 0, none⟩) 2 c4)) ∧ KpG (AlG gf gc) L U (W4.setCell ⟨gc, 0, none⟩ (.slice (some ⟨g4, 0, none⟩) 2 c4)) := by
  obtain ⟨⟨F, c, us, h1, h2⟩, _, hlow⟩ := hi
  obtain ⟨hpre, hc2, hcm⟩ := own_preA h4
  have hgl := boxed_lt h1
  have hcl := boxed_lt h3
  have hgCl := h8.lt gC rfl
  have hs4 : U.heap.size + 1 ≤ W4.heap.size := by have := hg4.size; simpa using this
  have hal : ∀ i, i < U.heap.size → (U.drew.alloc o4).heap[i]? = U.heap[i]? := fun i hi => Below.heap_alloc U.drew o4 i hi
  have hgCc : gC ≠ gc := fun e => h3.not_row (by decide) h8 (by rw [e]; rfl)
  have hgCf : gC ≠ gf := fun e => h1.not_row (by decide) h8 (by rw [e]; rfl)
  have h3' : Boxed W4 gc 47 (.slice (some ⟨gC, 0, none⟩) k cc) := (hg4.block gc (by simp; omega) (fun e => hgCc (Option.some.inj e).symm)).trans ((hal gc hcl).trans h3)
  have h1' : Boxed W4 gf 25 (.slice F m c) := (hg4.block gf (by simp; omega) (fun e => hgCf (Option.some.inj e).symm)).trans ((hal gf hgl).trans h1)
  have hg4c : g4 ≠ gc := fun e => h3'.not_row (by decide) h4 (by rw [e]; rfl)
  have hsame : ∀ i, i < U.heap.size → i ≠ gc → some i ≠ some gC → (W4.setCell ⟨gc, 0, none⟩ (.slice (some ⟨g4, 0, none⟩) 2 c4)).heap[i]? = U.heap[i]? := fun i e1 e2 e3 => by
    rw [Below.heap_setCell _ ⟨gc, 0, none⟩ _ i e2, hg4.block i (by simp; omega) e3, hal i e1]
  have hbox3 : Boxed (W4.setCell ⟨gc, 0, none⟩ (.slice (some ⟨g4, 0, none⟩) 2 c4)) gc 47 (.slice (some ⟨g4, 0, none⟩) 2 c4) := h3'.set _
  have hbox1 : Boxed (W4.setCell ⟨gc, 0, none⟩ (.slice (some ⟨g4, 0, none⟩) 2 c4)) gf 25 (.slice F m c) := (Below.heap_setCell _ ⟨gc, 0, none⟩ _ gf hfc).trans h1'
  have hsz : (W4.setCell ⟨gc, 0, none⟩ (.slice (some ⟨g4, 0, none⟩) 2 c4)).heap.size = W4.heap.size := by simp [World.setCell]
  have hFrow : ∀ q, (Value.slice F m c).ownBlock = some q → q ≠ gC ∧ q ≠ gc ∧ q < U.heap.size := fun q e => by
    refine ⟨fun e2 => ?_, fun e2 => h3.not_row (by decide) h2 (by rw [e, e2]), (h2.lt q e).2⟩
    rcases h8.2 with ⟨_, q⟩ | ⟨g', cap', cur', q1, _, q3, _⟩
    · omega
    · simp only [Value.slice.injEq, Option.some.injEq, Addr.mk.injEq, and_true, true_and] at q1
      obtain ⟨rfl, _⟩ := q1
      rcases h2.2 with ⟨q4, _⟩ | ⟨g2, cap2, cur2, q4, _, q5, _⟩
      · rw [q4] at e; cases e
      · rw [q4] at e
        simp only [Value.ownBlock, Option.some.injEq] at e
        rw [← e2, ← e, q5] at q3
        simp at q3
  obtain ⟨hb, hk, hp⟩ := aq_step (X := X) (gf := gf) (gc := gc) (L := L) (U := U) (W := W4.setCell ⟨gc, 0, none⟩ (.slice (some ⟨g4, 0, none⟩) 2 c4)) gc (some gC) hcL (.inr rfl)
    ⟨hg4.os, hg4.tape, hg4.output⟩ (by omega) hsame (fun g e => ⟨.inr (.inr (.inr ⟨_, h3, by rw [← e]; rfl⟩)), by cases e; exact hgCl.1⟩)
    (fun q hq o ho => by rcases hq with rfl | hq; (exact cells_of_box h3 ho); (exact cells_of_row h8 (by rw [hq]; rfl) ho))
    (fun i hiU hg => by
      rcases hg with h | h | ⟨u, hu1, hu2⟩ | ⟨u, hu1, hu2⟩
      · exact .inl h
      · exact .inr (.inl h)
      · rw [← boxed_uniq hbox1 hu1] at hu2
        exact .inr (.inr (.inl ⟨_, h1, hu2⟩))
      · rw [← boxed_uniq hbox3 hu1] at hu2
        simp only [Value.ownBlock, Option.some.injEq] at hu2
        rcases hblk with h | h
        · omega
        · exact .inr (.inr (.inr ⟨_, h3, by rw [← hu2, h]; rfl⟩))) (by omega)
  refine ⟨⟨⟨F, c, us, hbox1, ?_⟩, ⟨g4, 2, c4, hbox3, by omega, hc2, hcm, ?_⟩, hlow.trans hb⟩, hk, hp⟩
  · refine ⟨h2.1, ?_⟩
    rcases h2.2 with h | ⟨g', cap', cur', q1, q2, q3, q4⟩
    · exact .inl h
    · obtain ⟨e1, e2, e3⟩ := hFrow g' (by rw [q1]; rfl)
      exact .inr ⟨g', cap', cur', q1, q2, (hsame g' e3 e2 (fun e => e1 (Option.some.inj e))).trans q3, q4⟩
  · exact hpre.kept (grownBy_setCell' _ gc _) (.inr (fun e => hg4c (by simpa [Value.ownBlock] using e)))
end
end Go.Proofs.YtemeeeiglifpaaaDoor

/- Layer 9: All at a list of two nodes without kids, of which the first is an address and the second is none: one node. It writes nothing that was there. -/

namespace Go.Proofs.YtemeeeiglifpaaaDoor
open Go.RowKit Go.Shelf

attribute [local go_sem] Oper.semAt_some
set_option linter.unusedSimpArgs false

theorem aqI_own {w0 : World} {gf gc L X S : Nat} (hX : L ≤ X) : OwnFrom X (fun (ys : List Yn) W => AqI w0 gf gc L (min ys.length 1) W ∧ S ≤ W.heap.size) := fun _ _ _ _ h hg hr => ⟨h.1.own hX hg hr, Nat.le_trans h.2 hg.size⟩
theorem flats2 (n m : Nd) (hn : n.ks = []) (hm : m.ks = []) : flats [n, m] 1 = [(1, n), (1, m)] := by
  rw [flats_cons, flats_cons, hn, hm]
  simp [flats]
theorem nxt2 {n m : Nd} (hn : n.ks = []) (hm : m.ks = []) {pre : List Yn} {x : Yn} (h : Nxt (flats [n, m] 1) pre x) : x.d = 1 ∧ ((pre.length = 0 ∧ x.n = n) ∨ (pre.length = 1 ∧ x.n = m)) := by
  obtain ⟨post, h⟩ := h
  rw [flats2 n m hn hm] at h
  match pre, h with
  | [], h =>
    simp only [List.map_nil, List.nil_append, List.cons.injEq, Yn.key, Prod.mk.injEq] at h
    exact ⟨h.1.1.symm, .inl ⟨rfl, h.1.2.symm⟩⟩
  | [a], h =>
    simp only [List.map_cons, List.map_nil, List.cons_append, List.nil_append, List.cons.injEq, Yn.key, Prod.mk.injEq] at h
    exact ⟨h.2.1.1.symm, .inr ⟨rfl, h.2.1.2.symm⟩⟩
  | a :: b :: c, h =>
    have := congrArg List.length h
    simp at this
set_option maxRecDepth 100000 in
set_option maxHeartbeats 8000000 in
theorem all2_any (n m : Nd) (hnk : n.ks = []) (hmk : m.ks = []) (hn : nof n < 2) (hm : ¬ nof m < 2) (hnv : n.v.length ≤ 1000) (hmv : m.v.length ≤ 1000) (A : Option Addr) (c : Nat) (w : World) (h : Nodes w w.heap.size A [n, m]) (hT : Tbl w) :
    Calls Tryd.prog 19 #[.slice A 2 c] w fun e w' => (∃ F c', e = .returned (.slice F 1 c')) ∧ Below w.heap.size w w' := by
  have hF2 : ∀ x ∈ [n, m], Few2 x := by
    intro x hx
    simp only [List.mem_cons, List.not_mem_nil, or_false] at hx
    rcases hx with rfl | rfl
    · exact .mk (by rw [hnk]; simp) (by omega) (by rw [hnk]; simp)
    · exact .mk (by rw [hmk]; simp) (by omega) (by rw [hmk]; simp)
  have hb0 : Below w.heap.size w (((w.alloc (.cells #[.slice none 0 0] 25)).alloc (.cells #[.int .i64 1] 3)).alloc (.cells #[.slice (some ⟨w.heap.size + 1, 0, none⟩) 1 1] 47)) :=
    (((Below.refl _ w).alloc (Nat.le_refl _) _).alloc (by simp) _).alloc (by simp; omega) _
  have x0 := ((Boxed.new w 25 (.slice none 0 0)).alloc (.cells #[.int .i64 1] 3)).alloc (.cells #[.slice (some ⟨w.heap.size + 1, 0, none⟩) 1 1] 47)
  have x1 := (Whole.new (w.alloc (.cells #[.slice none 0 0] 25)) 3 #[.int .i64 1]).alloc (.cells #[.slice (some ⟨w.heap.size + 1, 0, none⟩) 1 1] 47)
  have x2 := Boxed.new ((w.alloc (.cells #[.slice none 0 0] 25)).alloc (.cells #[.int .i64 1] 3)) 47 (.slice (some ⟨w.heap.size + 1, 0, none⟩) 1 1)
  simp only [World.size_alloc] at x1 x2
  have hsz0 : (((w.alloc (.cells #[.slice none 0 0] 25)).alloc (.cells #[.int .i64 1] 3)).alloc (.cells #[.slice (some ⟨w.heap.size + 1, 0, none⟩) 1 1] 47)).heap.size = w.heap.size + 1 + 1 + 1 := by simp
  have hWk := walkS_any A c [n, m] _ (h.on hb0) (by simp) hF2
  simp only [List.length_cons, List.length_nil, Nat.zero_add, Nat.reduceAdd] at hWk
  have HB0 := Lib.hid hb0
  have HT0 := Lib.hid hT
  have HF2 := Lib.hid hF2
  clear h hT hb0 hF2
  refine (callsIn_wide (n := 6)).1 ?_
  refine callsIn_of_wp_marks Tryd.func19 rfl trivial ?_ rfl
  simp only [Tryd.ntmps19, List.size_toArray, List.length_cons, List.length_nil, Nat.reduceAdd, Nat.reduceSub, Array.replicate_succ, Array.replicate_zero, List.push_toArray, List.append_toArray, List.nil_append, List.cons_append]
  gi_wp2_with fail
  generalize ((w.alloc (.cells #[.slice none 0 0] 25)).alloc (.cells #[.int .i64 1] 3)).alloc (.cells #[.slice (some ⟨w.heap.size + 1, 0, none⟩) 1 1] 47) = w3 at *
  refine ⟨trivial, (callsIn_wide.2 hWk).mono ?_⟩
  rintro e w5 ⟨g, A', c', rfl, hWg, hNW, hc', hm', hgg, b5⟩
  have hs5 := b5.size
  have hgl := hWg.lt
  have y0 : Boxed w5 w.heap.size 25 (.slice none 0 0) := Whole.below x0 b5 (by omega)
  have y1 : Whole w5 (w.heap.size + 1) 3 #[.int .i64 1] := Whole.below x1 b5 (by omega)
  have y2 : Boxed w5 (w.heap.size + 1 + 1) 47 (.slice (some ⟨w.heap.size + 1, 0, none⟩) 1 1) := Whole.below x2 b5 (by omega)
  have B5 := HB0.out.trans (b5.mono HB0.out.size)
  have hI0 : AqI w w.heap.size (w.heap.size + 1 + 1) w.heap.size 0 w5 :=
    ⟨⟨none, 0, [], y0, World.ownsRow_nil _ _ _ _⟩, ⟨w.heap.size + 1, 1, 1, y2, Nat.le_refl _, Nat.le_refl _, by simp [maxLen], ⟨rfl, .inr ⟨w.heap.size + 1, 1, _, rfl, by omega, y1, Nat.le_refl _, by simp [maxLen], rfl, rfl⟩⟩⟩, B5⟩
  have HY := Lib.hid (And.intro y0 y2)
  have HS : Hid (∀ b, NewS w3 w5 b → w3.heap.size ≤ b ∧ b < w5.heap.size) := fun b hb => hb
  have HNW := Lib.hid hNW
  have HTB : Hid (∀ W, Below w.heap.size w W → Tbl W → True) := fun _ _ _ => trivial
  clear x0 x1 x2 hWk hNW b5 y0 y1 y2 B5
  gi_wp2_with fail
  refine each_leave (.exit 0) (F := Fence.wide) (n := 6) (P := Tryd.prog) rfl (by omega) (gf := 52) (lb := #[.pointer (some ⟨g, 0, none⟩)]) rfl trivial (enters_of Tryd.func52 (by kernel_rfl) rfl)
    (encs := encN) (Kp := KpG (AlG w.heap.size (w.heap.size + 1 + 1)) w.heap.size) (G := (AlG w.heap.size (w.heap.size + 1 + 1))) (Row := fun pre W x => RowN (AlG w.heap.size (w.heap.size + 1 + 1)) W x ∧ Nxt (flats [n, m] 1) pre x) (Fin := FinW [n, m]) (FinX := FinWX [n, m]) (N := 200) ?hseq (fun _ => rfl)
    KpG.trans ?hKb (fun (ys : List Yn) W => AqI w w.heap.size (w.heap.size + 1 + 1) w.heap.size (min ys.length 1) W ∧ w5.heap.size ≤ W.heap.size) (aqI_own (by omega)) (fun _ _ => False) (fun _ _ _ _ h _ _ => h) ⟨hI0, Nat.le_refl _⟩ (fun _ _ h i hi => h.1.lt i hi)
    (fun pre x a' V => ∃ gx, a' = { tmps := #[.slice A 2 c, undef, .slice none 0 0, .pointer (some ⟨w.heap.size, 0, none⟩), .pointer (some ⟨w.heap.size + 1 + 1, 0, none⟩), .int .i64 (x.d : Int), .pointer (some ⟨gx, 0, none⟩), undef, .slice (some ⟨w.heap.size + 1, 0, none⟩) 1 1, .slice A 2 c, .func (.func 52) #[] #[.pointer (some ⟨g, 0, none⟩)], .int .i64 (x.d : Int), ndV x.n x.A x.c x.K x.k, undef, undef, undef, undef, undef, undef, undef, undef, undef, undef, undef, undef, undef, undef, undef, undef, undef, undef, undef, undef, undef, undef, undef, undef, undef, undef, undef], defers := [] } ∧
      Whole V gx 27 #[hv x.n.t, .slice x.A x.n.v.length x.c, .slice x.K x.n.ks.length x.k] ∧ ¬ (AlG w.heap.size (w.heap.size + 1 + 1)) V gx ∧ (AqI w w.heap.size (w.heap.size + 1 + 1) w.heap.size (min pre.length 1) V ∧ w5.heap.size ≤ V.heap.size) ∧ Nxt (flats [n, m] 1) pre x) ?hAx
    ?assign ?body ?done ?stop
  case hseq =>
    intro l J Jx V hV hJo hJxo hJG hY hj
    have hVs := hV.size
    have hk5 := kpg_of (G := (AlG w.heap.size (w.heap.size + 1 + 1))) (n₀ := w.heap.size) (alg_own (X := w5.heap.size) (by omega) (by omega)) (Nat.le_refl _) (by omega) hV
    refine walkit_in l g w.heap.size 200 A' c' [n, m] (NewS w3 w5) (AlG w.heap.size (w.heap.size + 1 + 1)) V (alg_own (by omega) (by omega)) J Jx hJo hJxo hJG (fun pre x W1 h1 h2 h3 h4 => hY pre x W1 h1 h2 ⟨h3, h4⟩) (Whole.below hWg hV hgl)
      (fun b hb => ⟨by have := (HS.out b hb).2; omega, fun hg => ?_⟩) (HNW.out.turn (fun p hp => hV.cell (HS.out _ hp).2) (fun _ hb => hb)) (by simpa using hc') hm' (by rw [flats2 n m hnk hmk]; intro y hy; simp at hy; rcases hy with rfl | rfl <;> simp) HF2.out (by simp) (by rw [flats2 n m hnk hmk]; simp) (by omega) hj
    have hg5 := hk5.own b (HS.out b hb).2 hg
    obtain ⟨hb1, hb2⟩ := HS.out b hb
    rcases hg5 with h | h | ⟨v, hv, hi⟩ | ⟨v, hv, hi⟩
    · omega
    · omega
    · rw [← boxed_uniq HY.out.1 hv] at hi
      cases hi
    · rw [← boxed_uniq HY.out.2 hv] at hi
      simp only [Value.ownBlock, Option.some.injEq] at hi
      omega
  case hKb =>
    intro V l o o' hl ho hoc
    have hlt := (Array.getElem?_eq_some_iff.1 ho).1
    refine ⟨(Below.refl _ V).grown (grownBy_putObj' V l o') (by omega) (fun k e => by cases e; omega), fun i cs t z _ hi => ?_, fun i _ hi => alg_own (X := w5.heap.size) (by omega) (by omega) V _ (some l) (by omega) (grownBy_putObj' V l o') (fun r e => by cases e; omega) i hi⟩
    rw [World.putObj_heap_other (fun e => ?_)]
    · exact hi
    · subst e
      rw [hi] at ho
      cases ho
      cases hoc
  case hAx =>
    rintro pre x a' s X Y row ⟨gx, ha, hw, hng, hi, hr2⟩ hg hr
    have hge := hi.2
    refine ⟨gx, ha, (hg.block gx hw.lt (fun e => ?_)).trans hw, fun h => hng (alg_own (X := w5.heap.size) (by omega) (by omega) X Y row hge hg (fun r e => (hr r e).1) gx h), aqI_own (X := w5.heap.size) (by omega) pre _ _ _ hi hg hr, hr2⟩
    obtain ⟨_, o, ho, hoc⟩ := hr gx e.symm
    unfold Whole at hw
    rw [hw] at ho
    cases ho
    cases hoc
  case assign =>
    intro l' pre x V K hi ⟨hrx, hnx⟩ hK
    have hk : ∀ o, KeepsFrom w5.heap.size V (V.alloc o) := fun o => (KeepsOthers.alloc V o).from _
    have hge := hi.2
    simp only [encN, ndV]
    gi_wp2
    have hb := (Below.refl V.heap.size V).alloc (Nat.le_refl _) (.cells #[hv x.n.t, .slice x.A x.n.v.length x.c, .slice x.K x.n.ks.length x.k] 27)
    have hgr := grown_of_below hb
    have hgo := alg_own (X := w5.heap.size) (gf := w.heap.size) (gc := w.heap.size + 1 + 1) (by omega) (by omega)
    exact hK _ _ (hk _) (kpg_of hgo hge (by omega) hb)
      ⟨V.heap.size, rfl, Whole.new _ _ _, fun hG => Nat.lt_irrefl _ (hi.1.lt _ (hgo _ _ none hge hgr (fun r e => by cases e) _ hG)), aqI_own (Nat.le_refl w.heap.size) pre _ _ none hi hgr (fun _ e => by cases e), hnx⟩
  case body =>
    rintro l' pre x a' V ⟨gx, rfl, hw, hng, hi, hnx⟩ hlen
    obtain ⟨hxd, hwh⟩ := nxt2 hnk hmk hnx
    have hd1 : ((x.d : Nat) : Int) = 1 := by omega
    rw [hd1]
    have hge := hi.2
    have hbw := hi.1.low
    have hgxl := hw.lt
    obtain ⟨gC, k, cc, hc1, hk1, hkc, _, hc2⟩ := hi.1.c
    have q0 := hc1.cell
    have q1 : V.cell? ⟨gC, 0, none⟩ = some (.int .i64 1) := by have := hc2.cells (g := gC) rfl 0 (.int .i64 1) rfl; simpa [Addr.add] using this
    have n0 : V.cell? ⟨gx, 0, none⟩ = some (hv x.n.t) := by rw [hw.cell]; rfl
    have n1 : V.cell? ⟨gx, 1, none⟩ = some (.slice x.A x.n.v.length x.c) := by rw [hw.cell]; rfl
    have n2 : V.cell? ⟨gx, 2, none⟩ = some (.slice x.K x.n.ks.length x.k) := by rw [hw.cell]; rfl
    have hk0 : (0 : Int) < (k : Int) := by omega
    have hk00 : (0 : Int) ≤ 0 := by omega
    gi_wp2_with fail
    have hvl : x.n.v.length ≤ 1000 := by rcases hwh with h | h <;> (rw [h.2]; assumption)
    have hkl : x.n.ks.length ≤ 1000 := by rcases hwh with h | h <;> (rw [h.2]; simp [hnk, hmk])
    have hTV : Tbl V := HT0.out.below hbw
    refine ⟨trivial, (callsIn_rnd (isA_any x.n x.A x.c x.K x.k V hTV (by omega) (by omega))).mono ?_⟩
    rintro e w6 ⟨rfl, b6⟩
    have hgo := alg_own (X := w5.heap.size) (gf := w.heap.size) (gc := w.heap.size + 1 + 1) (by omega) (by omega)
    have k6 := kpg_of (G := (AlG w.heap.size (w.heap.size + 1 + 1))) (n₀ := w.heap.size) hgo hge (by omega) b6
    have f6 : KeepsFrom w5.heap.size V w6 := ⟨b6.size, fun k o _ hk ho => (b6.block k (Array.getElem?_eq_some_iff.1 hk).1).trans hk⟩
    have i6 := hi.1.own (X := w.heap.size) (Nat.le_refl _) (grown_of_below b6) (fun r e => by cases e)
    have hw6 : Whole w6 gx 27 #[hv x.n.t, .slice x.A x.n.v.length x.c, .slice x.K x.n.ks.length x.k] := hw.below b6 hw.lt
    have hng6 : ¬ (AlG w.heap.size (w.heap.size + 1 + 1)) w6 gx := fun h => hng (k6.own gx hgxl h)
    have hs6 := b6.size
    clear q0 q1 n0 n1 n2
    rcases hwh with ⟨hl0, hxn⟩ | ⟨hl1, hxn⟩
    · have hdec : decide (nof x.n < 2) = true := by rw [hxn]; exact decide_eq_true hn
      rw [hdec]
      have hm0 : min pre.length 1 = 0 := by rw [hl0]; rfl
      rw [hm0] at i6
      obtain ⟨F6, c6, us6, g1, g2⟩ := i6.f
      clear hi hxn
      gi_wp2_with fail
      refine region8A _ _ _ _ _ _ _ _ _ _ _ _ _ _ _ _ _ _ _ _ _ _ _ _ _ _ _ _ _ _ _ _ _ _ _ _ _ _ w.heap.size gx 0 c6 w.heap.size F6 us6 (x.n.t.toNat : Int) x.A x.n.v.length x.c x.K x.n.ks.length x.k w6 g1 hw6 g2 (by omega) (by omega) ?_
      intro _ _ _ _ _ _ g8 c8 W4 Wf e4 e5 e6 e7
      obtain ⟨i8, f8, k8⟩ := aq_found (X := w5.heap.size) i6 (by omega) (Nat.le_refl _) g1 g2 e4 e5 e6 e7
      have hw9 : Whole Wf gx 27 #[hv x.n.t, .slice x.A x.n.v.length x.c, .slice x.K x.n.ks.length x.k] := k8.same gx _ _ _ hng6 hw6
      have k68 := k6.trans k8
      have f68 := f6.trans f8
      have hs8 := f8.size
      clear e4 e5 e6 e7 g1 g2 i6 k6 k8 f6 f8
      gi_wp2_with fail
      obtain ⟨gC9, k9, cc9, r3, r4, r4', _, r5⟩ := i8.c
      have r6 : Wf.cell? ⟨gx, 0, none⟩ = some (hv x.n.t) := by rw [Whole.cell hw9]; rfl
      refine region9A ?hq ?hQp _ _ _ _ _ _ _ _ _ _ _ _ _ _ _ _ _ _ _ _ _ _ _ _ _ _ _ _ _ _ _ _ _ _ _ _ (w.heap.size + 1 + 1) gx gC9 k9 cc9 w.heap.size x.n.t _ rfl Wf r3 r6 r5 r4 r4' (by omega) ?_
      case hq => rintro ⟨a, w, h⟩; exact h
      case hQp => exact fun c a d v w h => h
      intro _ _ _ _ _ _ _ _ _ g9 c9 W9 e1 e2 e3
      obtain ⟨i9, f9, k10⟩ := aq_class (X := w5.heap.size) i8 (by omega) (by omega) r3 r5 e1 e2 e3
      gi_wp2_with fail
      exact ⟨f68.trans f9, k68.trans k10, by show AqI _ _ _ _ (min (pre ++ [x]).length 1) _; rw [List.length_append, hl0]; exact i9, by have := (f68.trans f9).size; omega⟩
    · have hdec : decide (nof x.n < 2) = false := by rw [hxn]; exact decide_eq_false hm
      rw [hdec]
      have hm1 : min pre.length 1 = 1 := by rw [hl1]; rfl
      rw [hm1] at i6
      have hw9 := hw6
      clear hi hxn
      gi_wp2_with fail
      obtain ⟨gC9, k9, cc9, r3, r4, r4', _, r5⟩ := i6.c
      have r6 : w6.cell? ⟨gx, 0, none⟩ = some (hv x.n.t) := by rw [Whole.cell hw9]; rfl
      refine region9A ?hq ?hQp _ _ _ _ _ _ _ _ _ _ _ _ _ _ _ _ _ _ _ _ _ _ _ _ _ _ _ _ _ _ _ _ _ _ _ _ (w.heap.size + 1 + 1) gx gC9 k9 cc9 w.heap.size x.n.t _ rfl w6 r3 r6 r5 r4 r4' (by omega) ?_
      case hq => rintro ⟨a, w, h⟩; exact h
      case hQp => exact fun c a d v w h => h
      intro _ _ _ _ _ _ _ _ _ g9 c9 W9 e1 e2 e3
      obtain ⟨i9, f9, k10⟩ := aq_class (X := w5.heap.size) i6 (by omega) (by omega) r3 r5 e1 e2 e3
      gi_wp2_with fail
      exact ⟨f6.trans f9, k6.trans k10, by show AqI _ _ _ _ (min (pre ++ [x]).length 1) _; rw [List.length_append, hl1]; exact i9, by have := (f6.trans f9).size; omega⟩
  case done =>
    rintro D xs V hD hF hi hKD
    have hlen : xs.length = 2 := by have := congrArg List.length (show xs.map Yn.key = flats [n, m] 1 from hF); rw [flats2 n m hnk hmk] at this; simpa using this
    have hm2 : min xs.length 1 = 1 := by rw [hlen]; rfl
    have hi1 := hi.1
    rw [hm2] at hi1
    obtain ⟨F, cF, us, g1, g2⟩ := hi1.f
    have q0 := g1.cell
    have hlow := hi1.low
    clear hlen hm2 hi
    gi_wp2_with fail
    refine ⟨by simp, .inl ⟨_, _, rfl, run_takeDeferred hKD, ?_⟩⟩
    refine ⟨_, results_tmp rfl _ _ _, ?_⟩
    have hfin := hlow.grown (grownBy_putObj' V D (.deferred none)) (by have := hlow.size; omega) (fun k e => by cases e; omega)
    exact ⟨⟨F, cF, rfl⟩, hfin⟩
  case stop => exact fun _ _ _ _ _ h _ => h.elim
end Go.Proofs.YtemeeeiglifpaaaDoor

/- Layer 9: awake. -/



namespace Go.Proofs.YtemeeeiglifpaaaDoor
open Go.RowKit Go.Shelf

theorem nodes_two {w : World} {n m : Nd} {A A' : Option Addr} {c c' : Nat} (hn : Node w w.heap.size A c none 0 n) (hm : Node w w.heap.size A' c' none 0 m) :
    Nodes (w.alloc (.cells #[hv n.t, .slice A n.v.length c, .slice none n.ks.length 0, hv m.t, .slice A' m.v.length c', .slice none m.ks.length 0] 27)) (w.heap.size + 1) (some ⟨w.heap.size, 0, none⟩) [n, m] := by
  have hb : Below w.heap.size w (w.alloc (.cells #[hv n.t, .slice A n.v.length c, .slice none n.ks.length 0, hv m.t, .slice A' m.v.length c', .slice none m.ks.length 0] 27)) := (Below.refl _ w).alloc (Nat.le_refl _) _
  have h1 := (hn.below hb).more (Nat.le_add_right _ 1)
  have h2 := (hm.below hb).more (Nat.le_add_right _ 1)
  refine .mk [hv n.t, .slice A n.v.length c, .slice none n.ks.length 0, hv m.t, .slice A' m.v.length c', .slice none m.ks.length 0] (fun _ => none) (fun _ => 0) (Lies.newN w _ 27) rfl (fun i x hx => ?_) (fun i x hx => ?_)
  · match i, hx with
    | 0, hx => simp only [List.getElem?_cons_zero, Option.some.injEq] at hx; subst hx; exact ⟨rfl, ⟨_, rfl, A, c, rfl, h1.data, h1.dc, h1.dm⟩, rfl, h1.kc, h1.km⟩
    | 1, hx => simp only [List.getElem?_cons_succ, List.getElem?_cons_zero, Option.some.injEq] at hx; subst hx; exact ⟨rfl, ⟨_, rfl, A', c', rfl, h2.data, h2.dc, h2.dm⟩, rfl, h2.kc, h2.km⟩
    | i + 2, hx => simp at hx
  · match i, hx with
    | 0, hx => simp only [List.getElem?_cons_zero, Option.some.injEq] at hx; subst hx; exact h1.kids
    | 1, hx => simp only [List.getElem?_cons_succ, List.getElem?_cons_zero, Option.some.injEq] at hx; subst hx; exact h2.kids
    | i + 2, hx => simp at hx
set_option maxRecDepth 100000 in
set_option maxHeartbeats 8000000 in
theorem awake9_any (w : World) (hT : AT w) (hE : Errs w) : Calls Tryd.prog 6 #[] w fun e w' => e = .returned (.bool true) ∧ Below w.heap.size w w' := by
  have b0 : Below w.heap.size w (w.alloc (.cells #[.int .u8 10, .int .u8 0, .int .u8 0, .int .u8 1] 5)) := (Below.refl _ w).alloc (Nat.le_refl _) _
  have hO := of_bytes (some ⟨w.heap.size, 0, none⟩) 4 [10, 0, 0, 1] (w.alloc (.cells #[.int .u8 10, .int .u8 0, .int .u8 0, .int .u8 1] 5)) (hT.below b0).tbl (ex_lies w) (by simp) (by decide) (by simp)
  have HT := Lib.hid (hT.below b0)
  have HE := Lib.hid (hE.below b0)
  have HB := Lib.hid b0
  clear hT hE b0
  go_enter Tryd.func6, Tryd.ntmps6
  go_wp2_with fail
  generalize w.alloc (.cells #[.int .u8 10, .int .u8 0, .int .u8 0, .int .u8 1] 5) = w0 at *
  refine hO.mono ?_
  rintro e w1 ⟨b1, ⟨_, A, c, rfl, hN, _⟩ | ⟨hl, rfl⟩⟩
  case' inr => exact absurd (.inl rfl) hl
  rw [show ofN [10, 0, 0, 1] = (.mk 5 [10, 0, 0, 1] [] : Nd) from rfl] at hN ⊢
  obtain ⟨n, hn⟩ : ∃ n : Nd, Nd.mk 5 [10, 0, 0, 1] [] = n := ⟨_, rfl⟩
  rw [hn] at hN ⊢
  have bx1 : Below w1.heap.size w1 (w1.alloc (.cells #[hv n.t, .slice A n.v.length c, .slice none n.ks.length 0] 27)) := (Below.refl _ w1).alloc (Nat.le_refl _) _
  have x1 := Lib.hid (Whole.new w1 27 #[hv n.t, .slice A n.v.length c, .slice none n.ks.length 0])
  have N2 := Lib.hid (hN.on bx1)
  have T2 := Lib.hid ((HT.out.below b1).below bx1)
  have E2 := Lib.hid ((HE.out.below b1).below bx1)
  have B1 := HB.out.trans (b1.mono HB.out.size)
  have B2 := Lib.hid (B1.trans (bx1.mono B1.size))
  have Hn := Lib.hid hn
  clear b1 hN bx1 B1 HT HE HB hO hn
  go_wp2_with fail
  generalize w1.alloc (.cells #[hv n.t, .slice A n.v.length c, .slice none n.ks.length 0] 27) = w2 at *
  have hP := parse_any exT (by decide) w2 T2.out E2.out
  refine hP.mono ?_
  rintro e w3 ⟨b3, ⟨t, v, A3, c3, hr, rfl, hM, _⟩ | ⟨hr, rfl⟩⟩
  case' inr => exact absurd (ex_rp.symm.trans hr) (by simp)
  obtain ⟨rfl, rfl⟩ : (5 : UInt16) = t ∧ exV = v := by have := ex_rp.symm.trans hr; simpa using this
  rw [show (Nd.mk 5 exV [] : Nd) = n from Hn.out] at hM ⊢
  have x3 := Lib.hid (x1.out.below b3 x1.out.lt)
  have N3 := Lib.hid (N2.out.on b3)
  have bx3 : Below w3.heap.size w3 (w3.alloc (.cells #[hv n.t, .slice A3 n.v.length c3, .slice none n.ks.length 0] 27)) := (Below.refl _ w3).alloc (Nat.le_refl _) _
  have x4 := Lib.hid (x3.out.below bx3 x3.out.lt)
  have z4 := Lib.hid (Whole.new w3 27 #[hv n.t, .slice A3 n.v.length c3, .slice none n.ks.length 0])
  have N4 := Lib.hid (N3.out.on bx3)
  have M4 := Lib.hid (hM.on bx3)
  have T4 := Lib.hid ((T2.out.below b3).below bx3)
  have E4 := Lib.hid ((E2.out.below b3).below bx3)
  have B3 := B2.out.trans (b3.mono B2.out.size)
  have B4 := Lib.hid (B3.trans (bx3.mono B3.size))
  clear b3 hM bx3 B3 x3 N3 T2 E2 B2 x1 N2 hr hP
  go_wp2_with fail
  generalize w3.alloc (.cells #[hv n.t, .slice A3 n.v.length c3, .slice none n.ks.length 0] 27) = w4 at *
  have hH := host_str ⟨#[97, 46, 98]⟩ w4 (by decide)
  refine hH.mono ?_
  rintro e w5 ⟨b5, ⟨_, A5, c5, rfl, hG⟩ | ⟨hb, rfl⟩⟩
  case' inr => exact absurd (ex_host.symm.trans hb) (by simp)
  obtain ⟨m, hm⟩ : ∃ m : Nd, hostN (⟨#[97, 46, 98]⟩ : ByteArray).data.toList = m := ⟨_, rfl⟩
  rw [hm] at hG ⊢
  have x5 := Lib.hid (x4.out.below b5 x4.out.lt)
  have z5 := Lib.hid (z4.out.below b5 z4.out.lt)
  have N5 := Lib.hid (N4.out.on b5)
  have M5 := Lib.hid (M4.out.on b5)
  have bx5 : Below w5.heap.size w5 (w5.alloc (.cells #[hv m.t, .slice A5 m.v.length c5, .slice none m.ks.length 0] 27)) := (Below.refl _ w5).alloc (Nat.le_refl _) _
  have x6 := Lib.hid (x5.out.below bx5 x5.out.lt)
  have z6 := Lib.hid (z5.out.below bx5 z5.out.lt)
  have N6 := Lib.hid (N5.out.on bx5)
  have M6 := Lib.hid (M5.out.on bx5)
  have G6 := Lib.hid (hG.on bx5)
  have y6 := Whole.new w5 27 #[hv m.t, .slice A5 m.v.length c5, .slice none m.ks.length 0]
  have T6 := Lib.hid ((T4.out.below b5).below bx5)
  have E6 := Lib.hid ((E4.out.below b5).below bx5)
  have B5 := B4.out.trans (b5.mono B4.out.size)
  have B6 := Lib.hid (B5.trans (bx5.mono B5.size))
  have Hm := Lib.hid hm
  have q0 : (w5.alloc (.cells #[hv m.t, .slice A5 m.v.length c5, .slice none m.ks.length 0] 27)).cell? ⟨w5.heap.size, 0, none⟩ = some (hv m.t) := by rw [y6.cell]; rfl
  have q1 : (w5.alloc (.cells #[hv m.t, .slice A5 m.v.length c5, .slice none m.ks.length 0] 27)).cell? ⟨w5.heap.size, 1, none⟩ = some (.slice A5 m.v.length c5) := by rw [y6.cell]; rfl
  have q2 : (w5.alloc (.cells #[hv m.t, .slice A5 m.v.length c5, .slice none m.ks.length 0] 27)).cell? ⟨w5.heap.size, 2, none⟩ = some (.slice none m.ks.length 0) := by rw [y6.cell]; rfl
  have Y6 := Lib.hid y6
  have hmv : m.v.length ≤ 300000 := by rw [← Hm.out]; decide
  have hNm := name_any m A5 c5 none 0 (w5.alloc (.cells #[hv m.t, .slice A5 m.v.length c5, .slice none m.ks.length 0] 27)) G6.out (by rw [← Hm.out]; exact few_host _) hmv
  rw [show nameB m = true by rw [← Hm.out]; exact ex_name, show nameS m = ⟨#[97, 46, 98]⟩ by rw [← Hm.out]; exact ex_nameS] at hNm
  clear b5 hG bx5 B5 x5 z5 N5 M5 T4 E4 B4 x4 z4 N4 M4 hH hm y6 hmv
  go_wp2_with fail
  generalize w5.alloc (.cells #[hv m.t, .slice A5 m.v.length c5, .slice none m.ks.length 0] 27) = w6 at *
  refine hNm.mono ?_
  rintro e w7 ⟨rfl, b7⟩
  have x7 := Lib.hid (x6.out.below b7 x6.out.lt)
  have z7 := Lib.hid (z6.out.below b7 z6.out.lt)
  have y7 := Lib.hid (Y6.out.below b7 Y6.out.lt)
  have N7 := Lib.hid (N6.out.on b7)
  have M7 := Lib.hid (M6.out.on b7)
  have G7 := Lib.hid (G6.out.on b7)
  have T7 := Lib.hid (T6.out.below b7)
  have B7 := Lib.hid (B6.out.trans (b7.mono B6.out.size))
  clear x6 z6 Y6 N6 M6 G6 T6 E6 B6 b7 hNm q0 q1 q2
  have hO := of_bytes none 0 [] w7 T7.out.tbl (by intro h; exact absurd rfl h) (by simp) (by decide) (by simp)
  go_wp2_with fail
  refine hO.mono ?_
  rintro e w8 ⟨b8, ⟨hl, _⟩ | ⟨_, rfl⟩⟩
  case' inl => exact absurd hl (by decide)
  have Z : Hid ((w8.alloc (.cells #[.int .u16 0, .slice none 0 0, .slice none 0 0] 27)).heap.size = w8.heap.size + 1) := by simp [Hid]
  have bx8 : Below w8.heap.size w8 (w8.alloc (.cells #[.int .u16 0, .slice none 0 0, .slice none 0 0] 27)) := (Below.refl _ w8).alloc (Nat.le_refl _) _
  have x8 := Lib.hid (x7.out.below b8 x7.out.lt)
  have z8 := Lib.hid (z7.out.below b8 z7.out.lt)
  have y8 := Lib.hid (y7.out.below b8 y7.out.lt)
  have x9 := Lib.hid (x8.out.below bx8 x8.out.lt)
  have z9 := Lib.hid (z8.out.below bx8 z8.out.lt)
  have y9 := Lib.hid (y8.out.below bx8 y8.out.lt)
  have N9 := Lib.hid ((N7.out.on b8).on bx8)
  have M9 := Lib.hid ((M7.out.on b8).on bx8)
  have G9 := Lib.hid ((G7.out.on b8).on bx8)
  have T9 := Lib.hid ((T7.out.below b8).below bx8)
  have B8 := B7.out.trans (b8.mono B7.out.size)
  have B9 := Lib.hid (B8.trans (bx8.mono B8.size))
  have s0 : (w8.alloc (.cells #[.int .u16 0, .slice none 0 0, .slice none 0 0] 27)).cell? ⟨w1.heap.size, 0, none⟩ = some (hv n.t) := by rw [x9.out.cell]; rfl
  have s1 : (w8.alloc (.cells #[.int .u16 0, .slice none 0 0, .slice none 0 0] 27)).cell? ⟨w1.heap.size, 1, none⟩ = some (.slice A n.v.length c) := by rw [x9.out.cell]; rfl
  have s2 : (w8.alloc (.cells #[.int .u16 0, .slice none 0 0, .slice none 0 0] 27)).cell? ⟨w1.heap.size, 2, none⟩ = some (.slice none n.ks.length 0) := by rw [x9.out.cell]; rfl
  clear x7 z7 y7 x8 z8 y8 N7 M7 G7 T7 B7 B8 b8 bx8 hO
  have HTy : Calls Tryd.prog 18 #[.slice (some ⟨w8.heap.size + 1, 0, none⟩) 1 1] ((w8.alloc (.cells #[.int .u16 0, .slice none 0 0, .slice none 0 0] 27)).alloc (.cells #[hv n.t, .slice A n.v.length c, .slice none n.ks.length 0] 27)) fun e w' => ∃ A' c', e = .returned (.agg #[.int .u16 12, .slice A' 2 c', .slice none 0 0]) ∧ Lies w' w'.heap.size A' ([0, 5].map bv) ∧ Below (w8.alloc (.cells #[.int .u16 0, .slice none 0 0, .slice none 0 0] 27)).heap.size (w8.alloc (.cells #[.int .u16 0, .slice none 0 0, .slice none 0 0] 27)) w' := by
    have bq := (Below.refl _ (w8.alloc (.cells #[.int .u16 0, .slice none 0 0, .slice none 0 0] 27))).alloc (Nat.le_refl _) (.cells #[hv n.t, .slice A n.v.length c, .slice none n.ks.length 0] 27)
    have xq := Whole.new (w8.alloc (.cells #[.int .u16 0, .slice none 0 0, .slice none 0 0] 27)) 27 #[hv n.t, .slice A n.v.length c, .slice none n.ks.length 0]
    rw [show (w8.alloc (.cells #[.int .u16 0, .slice none 0 0, .slice none 0 0] 27)).heap.size = w8.heap.size + 1 from Z.out] at xq
    have hT := (T9.out.below bq).tbl
    refine (types1_any [10, 0, 0, 1] rfl (w8.heap.size + 1) A c _ hT (by rw [← Hn.out] at xq ⊢; exact xq)).mono ?_
    rintro e w' ⟨A', c', h1, h2, h3⟩
    exact ⟨A', c', h1, h2, bq.trans (h3.mono bq.size)⟩
  go_wp2_with fail
  refine HTy.mono ?_
  rintro e w10 ⟨A10, c10, rfl, L10, b10⟩
  generalize w8.alloc (.cells #[.int .u16 0, .slice none 0 0, .slice none 0 0] 27) = w9 at *
  have bx10 : Below w10.heap.size w10 (w10.alloc (.cells #[.int .u16 12, .slice A10 2 c10, .slice none 0 0] 27)) := (Below.refl _ w10).alloc (Nat.le_refl _) _
  have b11 := b10.trans (bx10.mono b10.size)
  have t11 := Whole.new w10 27 #[.int .u16 12, .slice A10 2 c10, .slice none 0 0]
  have x11 := x9.out.below b11 x9.out.lt
  have z11 := z9.out.below b11 z9.out.lt
  have y11 := y9.out.below b11 y9.out.lt
  have N11 := N9.out.on b11
  have M11 := M9.out.on b11
  have G11 := G9.out.on b11
  have T11 := T9.out.below b11
  have L11 := (L10.below bx10).more bx10.size
  have B11 := B9.out.trans (b11.mono B9.out.size)
  have KS : Hid (∀ W, Below (w10.alloc (.cells #[.int .u16 12, .slice A10 2 c10, .slice none 0 0] 27)).heap.size (w10.alloc (.cells #[.int .u16 12, .slice A10 2 c10, .slice none 0 0] 27)) W → W.cell? ⟨w1.heap.size, 0, none⟩ = some (hv n.t) ∧ W.cell? ⟨w1.heap.size, 1, none⟩ = some (.slice A n.v.length c) ∧ W.cell? ⟨w1.heap.size, 2, none⟩ = some (.slice none n.ks.length 0) ∧
      W.cell? ⟨w3.heap.size, 0, none⟩ = some (hv n.t) ∧ W.cell? ⟨w3.heap.size, 1, none⟩ = some (.slice A3 n.v.length c3) ∧ W.cell? ⟨w3.heap.size, 2, none⟩ = some (.slice none n.ks.length 0) ∧
      W.cell? ⟨w5.heap.size, 0, none⟩ = some (hv m.t) ∧ W.cell? ⟨w5.heap.size, 1, none⟩ = some (.slice A5 m.v.length c5) ∧ W.cell? ⟨w5.heap.size, 2, none⟩ = some (.slice none m.ks.length 0) ∧ W.cell? ⟨w10.heap.size, 1, none⟩ = some (.slice A10 2 c10)) := fun W hW => by
    have e1 := x11.below hW x11.lt
    have e2 := z11.below hW z11.lt
    have e3 := y11.below hW y11.lt
    have e4 := t11.below hW t11.lt
    refine ⟨?_, ?_, ?_, ?_, ?_, ?_, ?_, ?_, ?_, ?_⟩ <;> first | (rw [e1.cell]; rfl) | (rw [e2.cell]; rfl) | (rw [e3.cell]; rfl) | (rw [e4.cell]; rfl)
  have hTx : Calls Tryd.prog 10 #[ndV n A c none 0] (w10.alloc (.cells #[.int .u16 12, .slice A10 2 c10, .slice none 0 0] 27)) fun e w' => e = .returned (.string ⟨#[49, 48, 46, 48, 46, 48, 46, 49]⟩) ∧ Below (w10.alloc (.cells #[.int .u16 12, .slice A10 2 c10, .slice none 0 0] 27)).heap.size (w10.alloc (.cells #[.int .u16 12, .slice A10 2 c10, .slice none 0 0] 27)) w' := by
    have h1 := text_any n A c none 0 (w10.alloc (.cells #[.int .u16 12, .slice A10 2 c10, .slice none 0 0] 27)) T11 N11.data N11.dc (by rw [← Hn.out]; decide) (by rw [← Hn.out]; decide)
    rw [show attx n = exT by rw [← Hn.out]; exact ex_attx] at h1
    exact h1
  have HSM : Hid (∀ W, Below (w10.alloc (.cells #[.int .u16 12, .slice A10 2 c10, .slice none 0 0] 27)).heap.size (w10.alloc (.cells #[.int .u16 12, .slice A10 2 c10, .slice none 0 0] 27)) W → Calls Tryd.prog 9 #[ndV n A c none 0, ndV n A3 c3 none 0] W fun e w' => e = .returned (.bool true) ∧ Below W.heap.size W w') := fun W hW => by
    have h1 := same9_any n n A c none 0 A3 c3 none 0 W (N11.on hW) (M11.on hW)
    rwa [(Nd.beq_eq n n).2 rfl] at h1
  have HSB : Hid (∀ W, Below (w10.alloc (.cells #[.int .u16 12, .slice A10 2 c10, .slice none 0 0] 27)).heap.size (w10.alloc (.cells #[.int .u16 12, .slice A10 2 c10, .slice none 0 0] 27)) W → Calls Tryd.prog 17 #[.slice A10 2 c10, .slice (some ⟨W.heap.size, 0, none⟩) 2 2] (W.alloc (.cells #[.int .u8 0, .int .u8 5] 5)) fun e w' => e = .returned (.bool true) ∧ Below W.heap.size W w') := fun W hW => by
    have hb : Below W.heap.size W (W.alloc (.cells #[.int .u8 0, .int .u8 5] 5)) := (Below.refl _ W).alloc (Nat.le_refl _) _
    have h1 := same_any A10 (some ⟨W.heap.size, 0, none⟩) c10 2 (W.heap.size + 1) [0, 5] [0, 5] (W.alloc (.cells #[.int .u8 0, .int .u8 5] 5)) ((L11.below (hW.trans (hb.mono hW.size))).more (by have := hW.size; omega)) (Lies.newN W ([0, 5].map bv) 5) (by simp [maxLen])
    refine h1.mono ?_
    rintro e w1 ⟨h2, q, rfl⟩
    exact ⟨by rw [h2]; rfl, below_drewN hb q⟩
  have HAL : Hid (∀ W, Below (w10.alloc (.cells #[.int .u16 12, .slice A10 2 c10, .slice none 0 0] 27)).heap.size (w10.alloc (.cells #[.int .u16 12, .slice A10 2 c10, .slice none 0 0] 27)) W → Calls Tryd.prog 19 #[.slice (some ⟨W.heap.size, 0, none⟩) 2 2] (W.alloc (.cells #[hv n.t, .slice A n.v.length c, .slice none n.ks.length 0, hv m.t, .slice A5 m.v.length c5, .slice none m.ks.length 0] 27)) fun e w' => (∃ F c', e = .returned (.slice F 1 c')) ∧ Below W.heap.size W w') := fun W hW => by
    have hb : Below W.heap.size W (W.alloc (.cells #[hv n.t, .slice A n.v.length c, .slice none n.ks.length 0, hv m.t, .slice A5 m.v.length c5, .slice none m.ks.length 0] 27)) := (Below.refl _ W).alloc (Nat.le_refl _) _
    refine (all2_any n m (by rw [← Hn.out]; rfl) (by rw [← Hm.out]; rfl) (by rw [← Hn.out, ex_nof]; omega) (by rw [← Hm.out, ex_nofH]; omega) (by rw [← Hn.out]; decide) (by rw [← Hm.out]; decide) _ 2 _ ((nodes_two (N11.on hW) (G11.on hW)).more (by simp)) ((T11.below hW).below hb).tbl).mono ?_
    rintro e w' ⟨h1, h2⟩
    exact ⟨h1, hb.trans (h2.mono hb.size)⟩
  have hml : m.v.length = 4 := by rw [← Hm.out]; rfl
  have HML := Lib.hid hml
  obtain ⟨p0, p1, p2, p3, p4, p5, p6, p7, p8, p9⟩ := KS.out (w10.alloc (.cells #[.int .u16 12, .slice A10 2 c10, .slice none 0 0] 27)) (Below.refl _ _)
  have HB11 := Lib.hid B11
  clear HTy x9 z9 y9 N9 M9 G9 T9 B9 L10 b10 bx10 b11 t11 x11 z11 y11 N11 M11 G11 T11 L11 B11 s0 s1 s2 hml Z
  go_wp2_with fail
  generalize w10.alloc (.cells #[.int .u16 12, .slice A10 2 c10, .slice none 0 0] 27) = w11 at *
  refine hTx.mono ?_
  rintro e w12 ⟨rfl, b12⟩
  obtain ⟨p0, p1, p2, p3, p4, p5, p6, p7, p8, p9⟩ := KS.out w12 b12
  go_wp2_with fail
  refine (HSM.out _ b12).mono ?_
  rintro e w13 ⟨rfl, b13'⟩
  have b13 := b12.trans (b13'.mono b12.size)
  clear p0 p1 p2 p3 p4 p5 p6 p7 p8 p9
  obtain ⟨p0, p1, p2, p3, p4, p5, p6, p7, p8, p9⟩ := KS.out w13 b13
  have hq : ((m.v.length : Int) == 4) = true := by rw [HML.out]; rfl
  have HS13 := HSB.out _ b13
  go_wp2_with fail
  refine HS13.mono ?_
  rintro e w14 ⟨rfl, b14'⟩
  have b14 := b13.trans (b14'.mono b13.size)
  clear p0 p1 p2 p3 p4 p5 p6 p7 p8 p9 HS13
  obtain ⟨p0, p1, p2, p3, p4, p5, p6, p7, p8, p9⟩ := KS.out w14 b14
  have HA14 := HAL.out _ b14
  go_wp2_with fail
  refine HA14.mono ?_
  rintro e w15 ⟨⟨F, c', rfl⟩, b15'⟩
  have b15 := b14.trans (b15'.mono b14.size)
  go_wp2_with fail
  go_ret
  exact ⟨rfl, HB11.out.trans (b15.mono HB11.out.size)⟩
theorem awake9_ok : AwakeOK := fun V hT hE => awake9_any V hT hE
end Go.Proofs.YtemeeeiglifpaaaDoor

/- Layer 9: the three laws at the program's own arguments and variables. -/


namespace Go.Proofs.YtemeeeiglifpaaaDoor
open Go.ChangeShapes Go.WideShapes Go.ChangeAt Go.RowKit

theorem awake9_hid : Hid AwakeOK := Lib.hid awake9_ok
section
variable {H : Type} {enc : TypeId × Value → H} {W : World} {base : Nat} {v0 v1 : Value} {d0 d1 : DataW H} {p0 p1 : List MemPlace}
set_option maxRecDepth 100000 in
theorem law_AddressParses (o0 : Value.okWide Tryd.prog W .any base 9 v0) (h0 : DataW.Trod enc Tryd.prog W 0 (fun _ => true) true 9 v0 d0 p0) (_s0 : Small Tryd.prog 9 d0) (hL : laidMetH Tryd.prog laidL W) :
    Calls Tryd.prog 3 #[v0] W fun e w' => e = .returned (.bool true) ∧ Below W.heap.size W w' := parses_door awake9_hid o0 h0 hL
set_option maxRecDepth 100000 in
theorem law_AddressBytes (o0 : Value.okWide Tryd.prog W .any base 24 v0) (h0 : DataW.Trod enc Tryd.prog W 0 (fun _ => true) true 24 v0 d0 p0) (_s0 : Small Tryd.prog 24 d0) (hL : laidMetH Tryd.prog laidL W) :
    Calls Tryd.prog 5 #[v0] W fun e w' => e = .returned (.bool true) ∧ Below W.heap.size W w' := bytes_door awake9_hid o0 h0 hL
set_option maxRecDepth 100000 in
theorem law_AddressHosts (o0 : Value.okWide Tryd.prog W .any base 9 v0) (h0 : DataW.Trod enc Tryd.prog W 0 (fun _ => true) true 9 v0 d0 p0) (_s0 : Small Tryd.prog 9 d0)
    (o1 : Value.okWide Tryd.prog W .any base 27 v1) (h1 : DataW.Trod enc Tryd.prog W 0 (fun _ => true) true 27 v1 d1 p1) (s1 : Small Tryd.prog 27 d1) (hL : laidMetH Tryd.prog laidL W) :
    Calls Tryd.prog 4 #[v0, v1] W fun e w' => e = .returned (.bool true) ∧ Below W.heap.size W w' := hosts_door awake9_hid o0 h0 o1 h1 s1 hL
end
end Go.Proofs.YtemeeeiglifpaaaDoor

