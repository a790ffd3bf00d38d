/- Layer 12: one statement of Parse: the chunk without its kids is laid in a variable, in whatever order Go carries it out. It writes nothing that was there. -/
import Derived.Test.YthkbcpbgoefanaaGreatDoorQCI


namespace Go.Proofs.YthkbcpbgoefanaaGreatDoor
open Go.RowKit

set_option linter.unusedSimpArgs false
theorem liesS_more {w : World} {S S' : Nat → Prop} {A : Option Addr} {xs : List Value} (h : LiesS w S A xs) (hs : ∀ b, S b → S' b) : LiesS w S' A xs := fun hne => by
  obtain ⟨ad, h1, h2, h3⟩ := h hne
  exact ⟨ad, h1, hs _ h2, h3⟩
theorem liesS_own12 {w : World} {base e n c : Nat} {A : Option Addr} {xs : List Value} (h : w.ownsRow base e 1 (.slice A n c) n xs) : LiesS w (fun b => base ≤ b ∧ b < w.heap.size) A xs := fun hne => by
  rcases h.2 with ⟨q1, q2⟩ | ⟨g, cap, cur, q1, q2, q3, _⟩
  · refine absurd (List.eq_nil_of_length_eq_zero ?_) hne
    rw [h.1, q2]
  · simp only [Value.slice.injEq] at q1
    obtain ⟨rfl, _, _⟩ := q1
    exact ⟨_, rfl, ⟨q2, (Array.getElem?_eq_some_iff.1 q3).1⟩, h.cells (g := g) rfl⟩
/-- one piece, joined: a copy in new memory -/
theorem join_oneP (A : Option Addr) (n c : Nat) (d : List UInt8) (hd : d.length = n) (w2 W : World) (hL : Lies w2 w2.heap.size A (d.map bv)) (hc : n ≤ c) (hm : c ≤ maxLen) (hs : n ≤ 1000000) (g : Nat) (hB : Below w2.heap.size w2 W) (hg : Whole W g 22 #[.slice A n c]) :
    Calls Tryz.prog 57 #[.slice (some ⟨g, 0, none⟩) 1 1] W fun e w' => ∃ A' c', e = .returned (.slice A' n c') ∧ LiesS w' (fun b => W.heap.size ≤ b ∧ b < w'.heap.size) A' (d.map bv) ∧ n ≤ c' ∧ c' ≤ maxLen ∧ Below W.heap.size W w' := by
  subst hd
  have hP : Parts W W.heap.size (some ⟨g, 0, none⟩) [.slice A d.length c] [d] := by
    refine ⟨fun _ => ⟨_, rfl, hg.lt, fun j u hu => ?_⟩, rfl, fun i p hp => ?_⟩
    · rw [add_row, hg.cell]
      simpa using hu
    · match i, hp with
      | 0, hp => simp only [List.getElem?_cons_zero, Option.some.injEq] at hp; subst hp; exact ⟨_, rfl, A, c, rfl, (hL.below hB).more hB.size, hc, hm⟩
      | i + 1, hp => simp at hp
  refine (join_any _ 1 _ _ _ hP (by simp [maxLen]) (by simp [tot]; omega)).mono ?_
  rintro e w' ⟨A', c', rfl, hown, hb⟩
  have ht : tot [d] = d.length := by simp [tot]
  rw [ht] at hown ⊢
  have e3 : [d].flatten = d := by simp
  rw [e3] at hown
  exact ⟨A', c', rfl, liesS_own12 hown, (own_cap hown).2.1, (own_cap hown).2.2, hb⟩
theorem liesS_far {w2 w3 : World} {A : Option Addr} {xs : List Value} (h : LiesS w3 (fun q => w2.heap.size + 1 + 1 ≤ q ∧ q < w3.heap.size) A xs) (g : Nat) (hg : g < w2.heap.size + 1 + 1) {a b c d : Value} :
    LiesS ((((w3.setCell ⟨g, 0, none⟩ a).setCell ⟨g, 1, none⟩ b).setCell ⟨g, 2, none⟩ c).setCell ⟨g, 3, none⟩ d) (NewS w2 ((((w3.setCell ⟨g, 0, none⟩ a).setCell ⟨g, 1, none⟩ b).setCell ⟨g, 2, none⟩ c).setCell ⟨g, 3, none⟩ d)) A xs :=
  h.turn (fun p hp => by
    have hne : ∀ j, p ≠ ⟨g, j, none⟩ := fun j e => by have := hp.1; rw [e] at this; simp only at this; omega
    rw [World.cell?_setCell_other _ _ _ _ (fun e => hne 3 e.symm), World.cell?_setCell_other _ _ _ _ (fun e => hne 2 e.symm), World.cell?_setCell_other _ _ _ _ (fun e => hne 1 e.symm), World.cell?_setCell_other _ _ _ _ (fun e => hne 0 e.symm)])
    (fun q hq => ⟨by have := hq.1; omega, by simpa [World.setCell] using hq.2⟩)
def ops4P : Array Oper :=
  #[{ dst := some 19, op := Op.move (Operand.tmp 0), type := 22, pos := "chunk.go:62", after := #[], guard := none },
    { dst := some 20, op := Op.indexAddr 22 (Operand.tmp 19) (Operand.const (Value.int IntKind.i64 0)), type := 0, pos := "chunk.go:62", after := #[{ on := 0, ground := Ground.data }], guard := none },
    { dst := some 21, op := Op.load 5 (Operand.tmp 20), type := 5, pos := "chunk.go:62", after := #[{ on := 1, ground := Ground.data }], guard := none },
    { dst := some 22, op := Op.move (Operand.tmp 0), type := 22, pos := "chunk.go:62", after := #[], guard := none },
    { dst := some 23, op := Op.indexAddr 22 (Operand.tmp 22) (Operand.const (Value.int IntKind.i64 1)), type := 0, pos := "chunk.go:62", after := #[{ on := 3, ground := Ground.data }], guard := none },
    { dst := some 24, op := Op.load 5 (Operand.tmp 23), type := 5, pos := "chunk.go:62", after := #[{ on := 4, ground := Ground.data }], guard := none },
    { dst := some 25, op := Op.move (Operand.tmp 0), type := 22, pos := "chunk.go:62", after := #[], guard := none },
    { dst := some 26, op := Op.move (Operand.tmp 4), type := 3, pos := "chunk.go:62", after := #[], guard := none },
    { dst := some 27, op := Op.slice 22 (Operand.tmp 25) (some (Operand.const (Value.int IntKind.i64 4))) (some (Operand.tmp 26)) none, type := 22, pos := "chunk.go:62", after := #[{ on := 6, ground := Ground.data }, { on := 7, ground := Ground.data }], guard := none },
    { dst := some 28, op := Op.buildSlice 137 1 #[(0, Operand.tmp 27)], type := 137, pos := "chunk.go:62", after := #[{ on := 8, ground := Ground.data }], guard := none },
    { dst := some 29, op := Op.call { callee := Callee.value (Operand.func 57), args := #[Operand.tmp 28], argTypes := #[137] }, type := 22, pos := "chunk.go:62", after := #[{ on := 9, ground := Ground.data }], guard := none },
    { dst := some 30, op := Op.build 25 #[(0, Operand.tmp 21), (1, Operand.tmp 24), (2, Operand.tmp 29)], type := 25, pos := "chunk.go:62", after := #[{ on := 2, ground := Ground.data }, { on := 5, ground := Ground.data }, { on := 10, ground := Ground.data }], guard := none },
    { dst := some 5, op := Op.alloc 25, type := 0, pos := "chunk.go:62", after := #[], guard := none },
    { dst := none, op := Op.store 25 (Operand.tmp 5) (Operand.tmp 30), type := 0, pos := "chunk.go:62", after := #[{ on := 12, ground := Ground.data }, { on := 11, ground := Ground.data }, { on := 10, ground := Ground.chain }, { on := 0, ground := Ground.phase }, { on := 1, ground := Ground.phase }, { on := 2, ground := Ground.phase }, { on := 3, ground := Ground.phase }, { on := 4, ground := Ground.phase }, { on := 5, ground := Ground.phase }, { on := 6, ground := Ground.phase }, { on := 7, ground := Ground.phase }, { on := 8, ground := Ground.phase }, { on := 9, ground := Ground.phase }, { on := 10, ground := Ground.phase }, { on := 11, ground := Ground.phase }, { on := 12, ground := Ground.phase }], guard := none }]
set_option maxRecDepth 100000 in
set_option maxHeartbeats 8000000 in
theorem region4P {Q : Exit → Act → World → Prop} (t1 t2 t3 t5 t6 t7 t8 t9 t10 t11 t12 t13 t14 t15 t16 t17 t18 t19 t20 t21 t22 t23 t24 t25 t26 t27 t28 t29 t30 t31 t32 t33 t34 t35 t36 t37 t38 t39 t40 t41 t42 t43 t44 t45 t46 t47 t48 t49 t50 t51 t52 t53 t54 t55 t56 t57 t58 t59 t60 t61 t62 t63 t64 t65 t66 : Value) (ad : Addr) (b : List UInt8) (c fr : Nat) (x : Ck) (w2 : World)
    (hL : Lies w2 w2.heap.size (some ad) (b.map bv)) (hc : b.length ≤ c) (hm : c ≤ maxLen) (hs : b.length ≤ 1000000) (h4 : 4 ≤ fr) (hfl : fr ≤ b.length) (hx : x = ⟨b.getD 0 0, b.getD 1 0, (b.drop 4).take (fr - 4), []⟩)
    (hQ : ∀ (u19 u20 u21 u22 u23 u24 u25 u26 u27 u28 u29 u30 : Value) (g5 : Nat) (A3 : Option Addr) (c3 : Nat) (Wf : World), CkBox Wf g5 x A3 c3 none 0 → LiesS Wf (NewS w2 Wf) A3 (x.d.map bv) → x.d.length ≤ c3 → c3 ≤ maxLen → Below w2.heap.size w2 Wf → w2.heap.size ≤ g5 → Q .normal { tmps := #[.slice (some ad) b.length c, t1, t2, t3, .int .i64 (fr : Int), .pointer (some ⟨g5, 0, none⟩), t6, t7, t8, t9, t10, t11, t12, t13, t14, t15, t16, t17, t18, u19, u20, u21, u22, u23, u24, u25, u26, u27, u28, u29, u30, t31, t32, t33, t34, t35, t36, t37, t38, t39, t40, t41, t42, t43, t44, t45, t46, t47, t48, t49, t50, t51, t52, t53, t54, t55, t56, t57, t58, t59, t60, t61, t62, t63, t64, t65, t66], defers := [] } Wf) :
    (Code.region 4 ops4P true).wp Tryz.prog Q { tmps := #[.slice (some ad) b.length c, t1, t2, t3, .int .i64 (fr : Int), t5, t6, t7, t8, t9, t10, t11, t12, t13, t14, t15, t16, t17, t18, t19, t20, t21, t22, t23, t24, t25, t26, t27, t28, t29, t30, t31, t32, t33, t34, t35, t36, t37, t38, t39, t40, t41, t42, t43, t44, t45, t46, t47, t48, t49, t50, t51, t52, t53, t54, t55, t56, t57, t58, t59, t60, t61, t62, t63, t64, t65, t66], defers := [] } w2 := by
  have hb0 := byte_cell0 hL (show 0 < b.length by omega)
  have hb1 := byte_cell hL (show 1 < b.length by omega) (by omega)
  have hadl := World.block_lt_of_cell? _ _ hb0
  have KS : Hid (∀ W, Below w2.heap.size w2 W → W.cell? ad = some (bv (b.getD 0 0)) ∧ W.cell? ⟨ad.block, ad.off + 1, none⟩ = some (bv (b.getD 1 0))) := fun W hW => ⟨(hW.cell hadl).trans hb0, (hW.cell (p := ⟨ad.block, ad.off + 1, none⟩) hadl).trans hb1⟩
  have hdl : ((b.drop 4).take (fr - 4)).length = fr - 4 := by rw [List.length_take, List.length_drop]; omega
  obtain ⟨P, hPP⟩ : ∃ P : Option Addr, (if c = 4 then some ad else some ⟨ad.block, ad.off + 4, none⟩) = P := ⟨_, rfl⟩
  have hLp : Lies w2 w2.heap.size P (((b.drop 4).take (fr - 4)).map bv) := by
    rw [← hPP]
    by_cases h : c = 4
    · rw [show fr - 4 = 0 by omega]
      exact Lies.nil
    · rw [if_neg h]
      exact lies_piece hL 4 (fr - 4)
  have HJ := Lib.hid (fun (W : World) (g : Nat) (hB : Below w2.heap.size w2 W) hg => join_oneP P (fr - 4) (c - 4) _ hdl w2 W hLp (by omega) (by omega) (by omega) g hB hg)
  have HDL := Lib.hid hdl
  have HX := Lib.hid hx
  have HQ := Lib.hid hQ
  have h40 : (4 : Int) ≤ (fr : Int) := by omega
  have hfc : (fr : Int) ≤ (c : Int) := by omega
  have hlb : (0 : Int) < (b.length : Int) := by omega
  have hlb1 : (1 : Int) < (b.length : Int) := by omega
  have hlb0 : 0 < b.length := by omega
  have hlbn : b ≠ [] := by intro e; rw [e] at hlb0; simp at hlb0
  have hba := (Below.refl _ w2).alloc (Nat.le_refl _) (.cells #[.slice P (fr - 4) (c - 4)] 22)
  have hbz := (Below.refl _ w2).alloc (Nat.le_refl _) (.cells #[.int .u8 0, .int .u8 0, .slice none 0 0, .slice none 0 0] 25)
  have hbb := hbz.alloc (by simp) (.cells #[.slice P (fr - 4) (c - 4)] 22)
  have hbc := hba.alloc (by simp) (.cells #[.int .u8 0, .int .u8 0, .slice none 0 0, .slice none 0 0] 25)
  have xb := Whole.new (w2.alloc (.cells #[.int .u8 0, .int .u8 0, .slice none 0 0, .slice none 0 0] 25)) 22 #[.slice P (fr - 4) (c - 4)]
  simp only [World.size_alloc] at xb
  have HJa : Hid (Calls Tryz.prog 57 #[.slice (some ⟨w2.heap.size, 0, none⟩) 1 1] (w2.alloc (.cells #[.slice P (fr - 4) (c - 4)] 22)).drew fun e w' => ∃ A' c', e = .returned (.slice A' (fr - 4) c') ∧ LiesS w' (NewS w2 w') A' (((b.drop 4).take (fr - 4)).map bv) ∧ fr - 4 ≤ c' ∧ c' ≤ maxLen ∧ Below w2.heap.size w2 w') :=
    (HJ.out _ w2.heap.size (below_drew hba) (Whole.new w2 _ _)).mono fun e w' h => by
      obtain ⟨A', c', h1, h2, h3, h4, h5⟩ := h
      exact ⟨A', c', h1, liesS_more h2 (fun q hq => ⟨by have := hq.1; simp at this; omega, hq.2⟩), h3, h4, (below_drew hba).trans (h5.mono (below_drew hba).size)⟩
  have HJb : Hid (Calls Tryz.prog 57 #[.slice (some ⟨w2.heap.size + 1, 0, none⟩) 1 1] ((w2.alloc (.cells #[.int .u8 0, .int .u8 0, .slice none 0 0, .slice none 0 0] 25)).alloc (.cells #[.slice P (fr - 4) (c - 4)] 22)).drew fun e w' => ∃ A' c', e = .returned (.slice A' (fr - 4) c') ∧ LiesS w' (fun q => w2.heap.size + 1 + 1 ≤ q ∧ q < w'.heap.size) A' (((b.drop 4).take (fr - 4)).map bv) ∧ fr - 4 ≤ c' ∧ c' ≤ maxLen ∧ Below w2.heap.size w2 w' ∧ Whole w' w2.heap.size 25 #[.int .u8 0, .int .u8 0, .slice none 0 0, .slice none 0 0]) :=
    (HJ.out _ (w2.heap.size + 1) (below_drew hbb) xb).mono fun e w' h => by
      obtain ⟨A', c', h1, h2, h3, h4, h5⟩ := h
      exact ⟨A', c', h1, liesS_more h2 (fun q hq => ⟨by have := hq.1; simp at this; omega, hq.2⟩), h3, h4, (below_drew hbb).trans (h5.mono (below_drew hbb).size), Whole.below (w := ((w2.alloc (.cells #[.int .u8 0, .int .u8 0, .slice none 0 0, .slice none 0 0] 25)).alloc (.cells #[.slice P (fr - 4) (c - 4)] 22)).drew) ((Whole.new w2 25 #[.int .u8 0, .int .u8 0, .slice none 0 0, .slice none 0 0]).alloc (.cells #[.slice P (fr - 4) (c - 4)] 22)) h5 (by simp; omega)⟩
  have xc := Whole.new (w2.alloc (.cells #[.slice P (fr - 4) (c - 4)] 22)) 25 #[.int .u8 0, .int .u8 0, .slice none 0 0, .slice none 0 0]
  simp only [World.size_alloc] at xc
  have HJc : Hid (Calls Tryz.prog 57 #[.slice (some ⟨w2.heap.size, 0, none⟩) 1 1] ((w2.alloc (.cells #[.slice P (fr - 4) (c - 4)] 22)).alloc (.cells #[.int .u8 0, .int .u8 0, .slice none 0 0, .slice none 0 0] 25)).drew fun e w' => ∃ A' c', e = .returned (.slice A' (fr - 4) c') ∧ LiesS w' (fun q => w2.heap.size + 1 + 1 ≤ q ∧ q < w'.heap.size) A' (((b.drop 4).take (fr - 4)).map bv) ∧ fr - 4 ≤ c' ∧ c' ≤ maxLen ∧ Below w2.heap.size w2 w' ∧ Whole w' (w2.heap.size + 1) 25 #[.int .u8 0, .int .u8 0, .slice none 0 0, .slice none 0 0]) :=
    (HJ.out _ w2.heap.size (below_drew hbc) ((Whole.new w2 22 #[.slice P (fr - 4) (c - 4)]).alloc (.cells #[.int .u8 0, .int .u8 0, .slice none 0 0, .slice none 0 0] 25))).mono fun e w' h => by
      obtain ⟨A', c', h1, h2, h3, h4, h5⟩ := h
      exact ⟨A', c', h1, liesS_more h2 (fun q hq => ⟨by have := hq.1; simp at this; omega, hq.2⟩), h3, h4, (below_drew hbc).trans (h5.mono (below_drew hbc).size), Whole.below (w := ((w2.alloc (.cells #[.slice P (fr - 4) (c - 4)] 22)).alloc (.cells #[.int .u8 0, .int .u8 0, .slice none 0 0, .slice none 0 0] 25)).drew) xc h5 (by simp)⟩
  clear hQ hx hdl hLp hb0 hb1 hL xb xc HJ hba hbz hbb hbc
  generalize b.getD 0 0 = v0 at *
  generalize b.getD 1 0 = v1 at *
  unfold ops4P
  dsimp only
  go_region_held3 (fun W => W.cell? ad = some (bv v0) ∧ W.cell? ⟨ad.block, ad.off + 1, none⟩ = some (bv v1))
    (first | exact KS.out _ (below_drew (Below.refl _ _)) | exact KS.out _ (below_drew ((Below.refl _ _).alloc (Nat.le_refl _) _)) | exact KS.out _ (below_drew (((Below.refl _ _).alloc (Nat.le_refl _) _).alloc (by simp) _)) | exact KS.out _ b3 | exact KS.out _ (b3.alloc b3.size _) | exact KS.out _ ((((b3.setCell (by simp) _).setCell (by simp) _).setCell (by simp) _).setCell (by simp) _) | exact KS.out _ (((((b3.alloc b3.size _).setCell s3 _).setCell s3 _).setCell s3 _).setCell s3 _) | go_keep)
    (first
    | (go_at_call 57; (with_reducible refine HJa.out.mono ?_); rintro e w3 ⟨A3, c3, rfl, l3, m2, m3, b3⟩; have s3 := b3.size)
    | (go_at_call 57; (with_reducible refine HJb.out.mono ?_); rintro e w3 ⟨A3, c3, rfl, l3, m2, m3, b3, y3⟩; have s3 := b3.size; have r0 := (by rw [y3.cell]; rfl : w3.cell? ⟨w2.heap.size, 0, none⟩ = some (.int .u8 0)); have r1 := (by rw [y3.cell]; rfl : w3.cell? ⟨w2.heap.size, 1, none⟩ = some (.int .u8 0)); have r2 := (by rw [y3.cell]; rfl : w3.cell? ⟨w2.heap.size, 2, none⟩ = some (.slice none 0 0)); have r3 := (by rw [y3.cell]; rfl : w3.cell? ⟨w2.heap.size, 3, none⟩ = some (.slice none 0 0)); have f0 := y3.frozen 0; have f1 := y3.frozen 1; have f2 := y3.frozen 2; have f3 := y3.frozen 3)
    | (go_at_call 57; (with_reducible refine HJc.out.mono ?_); rintro e w3 ⟨A3, c3, rfl, l3, m2, m3, b3, y3⟩; have s3 := b3.size; have r0 := (by rw [y3.cell]; rfl : w3.cell? ⟨w2.heap.size + 1, 0, none⟩ = some (.int .u8 0)); have r1 := (by rw [y3.cell]; rfl : w3.cell? ⟨w2.heap.size + 1, 1, none⟩ = some (.int .u8 0)); have r2 := (by rw [y3.cell]; rfl : w3.cell? ⟨w2.heap.size + 1, 2, none⟩ = some (.slice none 0 0)); have r3 := (by rw [y3.cell]; rfl : w3.cell? ⟨w2.heap.size + 1, 3, none⟩ = some (.slice none 0 0)); have f0 := y3.frozen 0; have f1 := y3.frozen 1; have f2 := y3.frozen 2; have f3 := y3.frozen 3)
    | fail)
  · have hx := HX.out
    subst hx
    refine HQ.out _ _ _ _ _ _ _ _ _ _ _ _ w3.heap.size A3 c3 _ (by unfold CkBox ckCells; simp only []; rw [HDL.out]; exact Whole.new w3 _ _) (l3.turn (fun p hp => World.cell?_alloc_lt w3 _ p hp.2) (fun q hq => ⟨hq.1, by have := hq.2; simp; omega⟩)) (by simp only []; rw [HDL.out]; exact m2) m3 (b3.alloc b3.size _) s3
  · have hx := HX.out
    subst hx
    refine HQ.out _ _ _ _ _ _ _ _ _ _ _ _ (w2.heap.size + 1) A3 c3 _ (by unfold CkBox ckCells; simp only []; rw [HDL.out]; exact (((y3.set_ 0 _).set_ 1 _).set_ 2 _).set_ 3 _) (liesS_far l3 (w2.heap.size + 1) (by omega)) (by simp only []; rw [HDL.out]; exact m2) m3 ((((b3.setCell (by simp) _).setCell (by simp) _).setCell (by simp) _).setCell (by simp) _) (by omega)
  · have hx := HX.out
    subst hx
    refine HQ.out _ _ _ _ _ _ _ _ _ _ _ _ (w2.heap.size) A3 c3 _ (by unfold CkBox ckCells; simp only []; rw [HDL.out]; exact (((y3.set_ 0 _).set_ 1 _).set_ 2 _).set_ 3 _) (liesS_far l3 (w2.heap.size) (by omega)) (by simp only []; rw [HDL.out]; exact m2) m3 ((((b3.setCell (by simp) _).setCell (by simp) _).setCell (by simp) _).setCell (by simp) _) (by omega)
end Go.Proofs.YthkbcpbgoefanaaGreatDoor


