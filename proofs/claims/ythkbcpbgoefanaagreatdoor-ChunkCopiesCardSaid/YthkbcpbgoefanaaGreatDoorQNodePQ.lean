/- NodeP + NodeQ -/
import Derived.Test.YthkbcpbgoefanaaGreatDoorQNodeNO
import Derived.Test.YthkbcpbgoefanaaGreatDoorQNodeM
import Derived.Test.YthkbcpbgoefanaaGreatDoorQNodeM01
import Derived.Test.YthkbcpbgoefanaaGreatDoorQNodeFG
import Derived.Test.YthkbcpbgoefanaaGreatDoorQTC




namespace Go.Proofs.YthkbcpbgoefanaaGreatDoor
open Go.RowKit Go.Shelf

attribute [local go_sem] Oper.semAt_some

theorem callsIn_round {l m : Nat} {P : Program} {f : FuncId} {args : Array Value} {w : World} {R : Ending → World → Prop} (h : Calls P f args w R) : CallsIn (Fence.wide.inRound l) m P f args w R := by
  have h1 := (callsIn_wide (n := m)).2 h
  exact ⟨h1.1, fun cs _ => h1.2 cs (by simp [Fence.room, Fence.wide])⟩
theorem set3_take {us : List Value} {cur : Array Value} {k : Nat} {z0 z1 z2 : Value} (hu : us.length = k * 3) (h : cur.toList.take ((k + 1) * 3) = us ++ [z0, z1, z2]) (a b c : Value) :
    (((cur.setIfInBounds (k * 3) a).setIfInBounds (k * 3 + 1) b).setIfInBounds (k * 3 + 2) c).toList.take ((k + 1) * 3) = us ++ [a, b, c] := by
  rw [Array.toList_setIfInBounds, Array.toList_setIfInBounds, Array.toList_setIfInBounds, List.take_set, List.take_set, List.take_set, h]
  rw [List.set_append_right _ _ (by omega), hu, Nat.sub_self, List.set_append_right _ _ (by omega), hu, show k * 3 + 1 - k * 3 = 1 by omega, List.set_append_right _ _ (by omega), hu, show k * 3 + 2 - k * 3 = 2 by omega]
  rfl
theorem own_set3 {w : World} {base g k c : Nat} {t : TypeId} {us : List Value} {z0 z1 z2 : Value} (h : w.ownsRow base t 3 (.slice (some ⟨g, 0, none⟩) (k + 1) c) (k + 1) (us ++ [z0, z1, z2])) (hu : us.length = k * 3) (a b d : Value) :
    (((w.setCell ⟨g, k * 3, none⟩ a).setCell ⟨g, k * 3 + 1, none⟩ b).setCell ⟨g, k * 3 + 2, none⟩ d).ownsRow base t 3 (.slice (some ⟨g, 0, none⟩) (k + 1) c) (k + 1) (us ++ [a, b, d]) := by
  refine ⟨by simp [hu]; omega, ?_⟩
  rcases h.2 with ⟨_, h2⟩ | ⟨g', cap, cur, h1, h2, h3, h4, h5, h6, h7⟩
  · omega
  · have h1' := h1
    simp only [Value.slice.injEq, Option.some.injEq, Addr.mk.injEq, and_true, true_and] at h1'
    obtain ⟨rfl, rfl⟩ := h1'
    have hw : Whole w g t cur := h3
    refine .inr ⟨g, c, _, rfl, h2, ((hw.set_ (k * 3) a).set_ (k * 3 + 1) b).set_ (k * 3 + 2) d, h4, h5, by simpa using h6, set3_take hu h7 a b d⟩
theorem grown_set3 {W2 W4 : World} {g k c n0 : Nat} {v : Value} (hg : W2.grownBy W4 v.ownBlock) (hblk : (Value.slice (some ⟨g, 0, none⟩) n0 c).ownBlock = some W2.heap.size ∨ (Value.slice (some ⟨g, 0, none⟩) n0 c).ownBlock = v.ownBlock) (a b d : Value) :
    W2.grownBy (((W4.setCell ⟨g, k * 3, none⟩ a).setCell ⟨g, k * 3 + 1, none⟩ b).setCell ⟨g, k * 3 + 2, none⟩ d) v.ownBlock := by
  refine ⟨hg.os, hg.tape, hg.output, by simpa [World.setCell] using hg.size, fun i hi hr => ?_⟩
  have hgi : i ≠ g := by
    rintro rfl
    rcases hblk with h1 | h1
    · simp only [Value.ownBlock, Option.some.injEq] at h1
      omega
    · exact hr (by rw [← h1]; rfl)
  rw [Below.heap_setCell _ _ _ i hgi, Below.heap_setCell _ _ _ i hgi, Below.heap_setCell _ _ _ i hgi]
  exact hg.block i hi hr
theorem NRow.setBox {W : World} {Bl : Nat} {v u u0 : Value} {ns : List Nd} (h : NRow W (Bl + 1) v ns) (_hb : Boxed W Bl 23 u0) : NRow (W.setCell ⟨Bl, 0, none⟩ u) (Bl + 1) v ns := by
  obtain ⟨us, hown, Ks, cs, hE⟩ := h.own
  have hne : v.ownBlock ≠ some Bl := fun e => by have := (hown.lt Bl e).1; omega
  refine ⟨us, hown.kept (grownBy_setCell' W Bl u) (.inr hne), Ks, cs, hE.turn (fun p hp => World.cell?_setCell_other _ _ _ _ (fun e => ?_)) (fun b hb => ⟨hb.1, by simpa [World.setCell] using hb.2.1, hb.2.2⟩)⟩
  have := hp.1
  rw [← e] at this
  simp at this
  omega
theorem IsB.lies' {W : World} {B : Nat} {A : Option Addr} {c : Nat} {b : List UInt8} (h : IsB W B (.slice A b.length c) b) : Lies W B A (b.map bv) := by
  obtain ⟨A', c', h1, h2, _⟩ := h
  simp only [Value.slice.injEq] at h1
  obtain ⟨rfl, _⟩ := h1
  exact h2
theorem readOK_succ (f : Nat) (ih : ParseOK f) : ReadOK (f + 1) := by
  intro c fr d A cc w hd hh hL hc hm hn
  cases hl : look (tab c) fr.t with
  | none => exact read_unknown f ih c fr d A cc w hd hh hL hc hm hn hl
  | some F =>
    by_cases hk : F.ki = 0
    · exact read_known0 f ih c fr d A cc w hd hh hL hc hm hn F hl hk
    · exact read_known1 f ih c fr d A cc w hd hh hL hc hm hn F hl hk

section
variable {w V V2 W2 W4 Wf : World} {R : Fr → NR} {c d : Int} {Bl X g4 c4 c1 cd ck : Nat} {pre : List Yf} {x : Yf} {A1 Ad Ak : Option Addr} {ns0 : List Nd} {n : Nd} {us : List Value} {Ks : Nat → Option Addr} {cs : Nat → Nat} {z0 z1 z2 : Value}
/-- a node has been appended to the list -/
theorem npi_push (hi : NpI w R c d Bl X pre V) (hwB : w.heap.size + 1 + 1 + 1 < Bl) (hBX : Bl < X) (hv1 : Boxed V Bl 23 (.slice A1 ns0.length c1)) (hown : V.ownsRow (Bl + 1) 50 3 (.slice A1 ns0.length c1) ns0.length us)
    (hE : Elems V (RowS (Bl + 1) V (.slice A1 ns0.length c1)) us ns0 Ks cs) (hmap : pre.map (fun y => R y.f) = ns0.map NR.ok) (hrd : R x.f = .ok n)
    (bv : Below V.heap.size V W2) (hN : NodeS W2 (fun b => V.heap.size ≤ b ∧ b < W2.heap.size) Ad cd Ak ck n)
    (h4 : W4.ownsRow (Bl + 1) 50 3 (.slice (some ⟨g4, 0, none⟩) (ns0.length + 1) c4) (ns0.length + 1) (us ++ [z0, z1, z2]))
    (hg4 : W2.grownBy W4 (Value.slice A1 ns0.length c1).ownBlock)
    (hblk : (Value.slice (some ⟨g4, 0, none⟩) (ns0.length + 1) c4).ownBlock = some W2.heap.size ∨ ((Value.slice (some ⟨g4, 0, none⟩) (ns0.length + 1) c4).ownBlock = (Value.slice A1 ns0.length c1).ownBlock ∧ ∃ g, (Value.slice A1 ns0.length c1).ownBlock = some g))
    (hWf : Wf = (((W4.setCell ⟨g4, ns0.length * 3, none⟩ (.int .u16 (n.t.toNat : Int))).setCell ⟨g4, ns0.length * 3 + 1, none⟩ (.slice Ad n.v.length cd)).setCell ⟨g4, ns0.length * 3 + 2, none⟩ (.slice Ak n.ks.length ck)).setCell ⟨Bl, 0, none⟩ (.slice (some ⟨g4, 0, none⟩) (ns0.length + 1) c4)) :
    KeepsFrom X V Wf ∧ KpG (NpG Bl) w.heap.size V Wf ∧ NpI w R c d Bl X (pre ++ [x]) Wf := by
  have hgW := grown_set3 (k := ns0.length) hg4 (hblk.imp id fun h => h.1) (.int .u16 (n.t.toNat : Int)) (.slice Ad n.v.length cd) (.slice Ak n.ks.length ck)
  have hoW := own_set3 h4 hown.1 (.int .u16 (n.t.toNat : Int)) (.slice Ad n.v.length cd) (.slice Ak n.ks.length ck)
  have hge := hi.ge
  have hrow := NRow.grow (v' := .slice (some ⟨g4, 0, none⟩) (ns0.length + 1) c4) hown hE (by omega) bv hN hgW hoW (hblk.imp (fun h => ⟨_, Nat.le_refl _, h⟩) id)
  generalize ((W4.setCell ⟨g4, ns0.length * 3, none⟩ (.int .u16 (n.t.toNat : Int))).setCell ⟨g4, ns0.length * 3 + 1, none⟩ (.slice Ad n.v.length cd)).setCell ⟨g4, ns0.length * 3 + 2, none⟩ (.slice Ak n.ks.length ck) = We at *
  subst hWf
  have hrl : ∀ g, (Value.slice A1 ns0.length c1).ownBlock = some g → Bl + 1 ≤ g ∧ g < V.heap.size := fun g h => hown.lt g h
  have hs1 := bv.size
  have hs2 := hgW.size
  have hbl : Boxed We Bl 23 (.slice A1 ns0.length c1) := (hgW.block Bl (by omega) (fun e => by have := (hrl Bl e.symm).1; omega)).trans (Whole.below hv1 bv hge)
  have hsame : ∀ i, i < V.heap.size → i ≠ Bl → some i ≠ (Value.slice A1 ns0.length c1).ownBlock → (We.setCell ⟨Bl, 0, none⟩ (.slice (some ⟨g4, 0, none⟩) (ns0.length + 1) c4)).heap[i]? = V.heap[i]? := fun i h1 h2 h3 =>
    (Below.heap_setCell _ _ _ i h2).trans ((hgW.block i (by omega) h3).trans (bv.block i h1))
  have hlowi : ∀ i, i < Bl → (We.setCell ⟨Bl, 0, none⟩ (.slice (some ⟨g4, 0, none⟩) (ns0.length + 1) c4)).heap[i]? = V.heap[i]? := fun i h => hsame i (by omega) (by omega) (fun e => by have := (hrl i e.symm).1; omega)
  have hsz : (We.setCell ⟨Bl, 0, none⟩ (.slice (some ⟨g4, 0, none⟩) (ns0.length + 1) c4)).heap.size = We.heap.size := by simp [World.setCell]
  have hwV := hi.low.size
  have hlow : Below w.heap.size V (We.setCell ⟨Bl, 0, none⟩ (.slice (some ⟨g4, 0, none⟩) (ns0.length + 1) c4)) :=
    ((bv.mono hwV).grown hgW (by omega) (fun k e => by have := (hrl k e).1; omega)).setCell (p := ⟨Bl, 0, none⟩) (by simp only; omega) _
  refine ⟨⟨by omega, fun k o hk ho hoc => ?_⟩, ⟨hlow, fun i cs' t z hg hc => ?_, fun i hiV hg => ?_⟩, ⟨_, ns0 ++ [n], hbl.set _, ?_, ?_⟩, ?_, ?_, ?_, ?_, hi.low.trans hlow, by omega, by have := hi.sz; omega⟩
  · refine (hsame k (Array.getElem?_eq_some_iff.1 ho).1 (by omega) (fun e => ?_)).trans ho
    rcases hown.2 with ⟨h1, _⟩ | ⟨g, cap, cur, h1, _, h3, _⟩
    · rw [h1] at e
      cases e
    · rw [h1] at e
      cases e
      rw [h3] at ho
      cases ho
      cases hoc
  · exact (hsame i (Array.getElem?_eq_some_iff.1 hc).1 (fun e => hg (.inl e)) (fun e => hg (.inr ⟨_, hv1, e.symm⟩))).trans hc
  · rcases hg with h | ⟨u, hu, hu2⟩
    · exact .inl h
    · rw [← boxed_uniq (hbl.set _) hu] at hu2
      rcases hblk with h | ⟨h, _⟩
      · rw [h] at hu2
        cases hu2
        omega
      · exact .inr ⟨_, hv1, h.symm.trans hu2⟩
  · exact hrow.setBox hbl
  · rw [List.map_append, List.map_append, hmap]
    simp only [List.map_cons, List.map_nil, hrd]
  · exact (hlowi _ (by omega)).trans hi.p0
  · exact (hlowi _ (by omega)).trans hi.p1
  · exact (hlowi _ (by omega)).trans hi.r0
  · exact (hlowi _ (by omega)).trans hi.r1
end

set_option maxRecDepth 100000 in
set_option maxHeartbeats 4000000 in
theorem parse_step (f : Nat) (hR : ReadOK f) : ParseOK f := by
  intro c b d A cc w hd hh h hc hm hs
  have hb0 : Below w.heap.size w ((((w.alloc (.cells #[.int .i64 c] 3)).alloc (.cells #[.int .i64 (d : Int)] 3)).alloc (.cells #[.slice none 0 0] 23)).alloc (.cells #[.nilIface] 30)) :=
    ((((Below.refl _ w).alloc (Nat.le_refl _) _).alloc (by simp) _).alloc (by simp; omega) _).alloc (by simp; omega) _
  have x0 := (((Boxed.new w 3 (.int .i64 c)).alloc (.cells #[.int .i64 (d : Int)] 3)).alloc (.cells #[.slice none 0 0] 23)).alloc (.cells #[.nilIface] 30)
  have x1 := ((Boxed.new (w.alloc (.cells #[.int .i64 c] 3)) 3 (.int .i64 (d : Int))).alloc (.cells #[.slice none 0 0] 23)).alloc (.cells #[.nilIface] 30)
  have x2 := (Boxed.new ((w.alloc (.cells #[.int .i64 c] 3)).alloc (.cells #[.int .i64 (d : Int)] 3)) 23 (.slice none 0 0)).alloc (.cells #[.nilIface] 30)
  have x3 := Boxed.new (((w.alloc (.cells #[.int .i64 c] 3)).alloc (.cells #[.int .i64 (d : Int)] 3)).alloc (.cells #[.slice none 0 0] 23)) 30 .nilIface
  simp only [World.size_alloc] at x1 x2 x3
  have hsz0 : ((((w.alloc (.cells #[.int .i64 c] 3)).alloc (.cells #[.int .i64 (d : Int)] 3)).alloc (.cells #[.slice none 0 0] 23)).alloc (.cells #[.nilIface] 30)).heap.size = w.heap.size + 1 + 1 + 1 + 1 := by simp
  have hSp := split_any A cc b _ ((h.below hb0).more hb0.size) hc hm hs
  refine (callsIn_wide (n := 6)).1 ?_
  refine callsIn_of_wp_marks Tryz.func116 rfl trivial ?_ rfl
  simp only [Tryz.ntmps116, List.size_toArray, List.length_cons, List.length_nil, Nat.reduceAdd, Nat.reduceSub, Array.replicate_succ, Array.replicate_zero, List.push_toArray, List.append_toArray, List.nil_append, List.cons_append]
  have hlt0 : w.heap.size + 1 + 1 + 1 + 1 = ((((w.alloc (.cells #[.int .i64 c] 3)).alloc (.cells #[.int .i64 (d : Int)] 3)).alloc (.cells #[.slice none 0 0] 23)).alloc (.cells #[.nilIface] 30)).heap.size := hsz0.symm
  cases hsp : spl b with
  | bad code k =>
    rw [hsp] at hSp
    have HR := Lib.hid (show pa f c b = .bad code k by unfold pa pal; rw [hsp])
    generalize pa f c b = r at *
    clear hsp
    gi_wp2_with fail
    refine ⟨trivial, (callsIn_wide.2 hSp).mono ?_⟩
    rintro e w2 ⟨b2, rfl⟩
    have y2 : Boxed w2 (w.heap.size + 1 + 1) 23 (.slice none 0 0) := Whole.below x2 b2 (by omega)
    have y3 : Boxed w2 (w.heap.size + 1 + 1 + 1) 30 .nilIface := Whole.below x3 b2 (by omega)
    have q2 := y2.cell
    have q3 := y3.cell
    have f2 := y2.frozen
    have f3 := y3.frozen
    have b2' := hb0.trans (b2.mono (by omega))
    simp only [faultV]
    gi_wp2_with fail
    refine ⟨_, results_cell2 rfl _ _ (w.heap.size + 1 + 1) (w.heap.size + 1 + 1 + 1) 23 30 _ _ _ _ rfl rfl ((y2.set (.slice none 0 0)).other (by omega) _) ((y3.other (by omega) (.slice none 0 0)).set (faultV (code : Int) (k : Int))) Tryz.underlying23 rfl Tryz.underlying30 rfl, ?_⟩
    rw [HR.out]
    exact ⟨(b2'.setCell (by simp; omega) _).setCell (by simp; omega) _, rfl⟩
  | ok fs =>
    rw [hsp] at hSp
    have HR := Lib.hid (show pa f c b = stepL (rd f c) (yla b 0) by unfold pa pal; rw [hsp])
    generalize pa f c b = r at *
    have HSP := Lib.hid hsp
    clear hsp
    gi_wp2_with fail
    refine ⟨trivial, (callsIn_wide.2 hSp).mono ?_⟩
    rintro e w2 ⟨b2, A2, c2, vs, rfl, F2, m1, m2⟩
    have b2' := hb0.trans (b2.mono (by omega))
    have hsz2 := b2.size
    have bl : Below w2.heap.size w2 (w2.alloc (.cells #[.slice none 0 0] 23)) := (Below.refl _ _).alloc (Nat.le_refl _) _
    have hAl := all_copy A cc b (w2.alloc (.cells #[.slice none 0 0] 23)) (((h.below b2').more b2'.size).alloc (Nat.le_refl _) _ |>.more (by simp)) hc hm hs
    simp only [World.size_alloc] at hAl
    gi_wp2_with fail
    refine ⟨trivial, (callsIn_wide.2 hAl).mono ?_⟩
    rintro e w3 ⟨g, A3, c3, rfl, hWg, hg1, ⟨base3, hb3, own3⟩, b3⟩
    have y0 : Boxed w2 w.heap.size 3 (.int .i64 c) := Whole.below x0 b2 (by omega)
    have y1 : Boxed w2 (w.heap.size + 1) 3 (.int .i64 (d : Int)) := Whole.below x1 b2 (by omega)
    have y2 : Boxed w2 (w.heap.size + 1 + 1) 23 (.slice none 0 0) := Whole.below x2 b2 (by omega)
    have y3 : Boxed w2 (w.heap.size + 1 + 1 + 1) 30 .nilIface := Whole.below x3 b2 (by omega)
    have yl := Boxed.new w2 23 (.slice none 0 0)
    have z0 : Boxed w3 w.heap.size 3 (.int .i64 c) := Whole.below (y0.alloc _) b3 (by omega)
    have z1 : Boxed w3 (w.heap.size + 1) 3 (.int .i64 (d : Int)) := Whole.below (y1.alloc _) b3 (by omega)
    have z2 : Boxed w3 (w.heap.size + 1 + 1) 23 (.slice none 0 0) := Whole.below (y2.alloc _) b3 (by omega)
    have z3 : Boxed w3 (w.heap.size + 1 + 1 + 1) 30 .nilIface := Whole.below (y3.alloc _) b3 (by omega)
    have zl : Boxed w3 w2.heap.size 23 (.slice none 0 0) := Whole.below yl b3 (by omega)
    have hsz3 : w2.heap.size + 1 ≤ w3.heap.size := by have := b3.size; simpa using this
    have b3' : Below w.heap.size w w3 := b2'.trans ((bl.trans (b3.mono (by simp))).mono b2'.size)
    have hwl : w.heap.size + 1 + 1 + 1 + 1 ≤ w2.heap.size := by omega
    have hi0 : NpI w (rd f c) c (d : Int) w2.heap.size w3.heap.size [] w3 := ⟨⟨_, [], zl, ⟨[], World.ownsRow_nil _ _ _ _, _, _, Elems.nil _ _⟩, rfl⟩, z0, z1, z2, z3, b3', by omega, Nat.le_refl _⟩
    have hGo := npg_own (Bl := w2.heap.size) (X := w3.heap.size) (by omega)
    have hrowA : RowG (NpG w2.heap.size) w3 A3 c3 b := ⟨⟨_, own3⟩, fun u hu hgu => by
      rcases own3.2 with ⟨q1, _⟩ | ⟨g3, cap, cur, q1, q2, _⟩
      · simp only [Value.slice.injEq] at q1
        rw [q1.1] at hu
        cases hu
      · simp only [Value.slice.injEq] at q1
        rw [q1.1] at hu
        cases hu
        rcases hgu with e | ⟨v, hv1, hv2⟩
        · simp only at e
          omega
        · rw [← boxed_uniq zl hv1] at hv2
          cases hv2⟩
    have hgG : ¬ NpG w2.heap.size w3 g := by
      rintro (e | ⟨v, hv1, hv2⟩)
      · omega
      · rw [← boxed_uniq zl hv1] at hv2
        cases hv2
    have hcc3 := own_cap own3
    gi_wp2_with fail
    refine each_stop (F := Fence.wide) (n := 6) (P := Tryz.prog) rfl (by omega) (gf := 165) (lb := #[.pointer (some ⟨g, 0, none⟩)]) rfl trivial (enters_of Tryz.func165 (by kernel_rfl) rfl)
      (encs := encA) (Kp := KpG (NpG w2.heap.size) w.heap.size) (G := NpG w2.heap.size) (Row := RowX (NpG w2.heap.size)) (Fin := FinK b) (FinX := FinP b) (N := b.length + 1) ?hseq (fun _ => rfl)
      KpG.trans ?hKb (NpI w (rd f c) c (d : Int) w2.heap.size w3.heap.size) (npi_own _ b3'.size) (NpX w (rd f c)) (npx_own w _ _ b3'.size) hi0 (fun _ _ h => h.lt)
      (fun pre x a' V => ∃ gf, a' = { tmps := #[.int .i64 c, .slice A b.length cc, .int .i64 (d : Int), .pointer (some ⟨w.heap.size, 0, none⟩), undef, .pointer (some ⟨w.heap.size + 1, 0, none⟩), .pointer (some ⟨w.heap.size + 1 + 1, 0, none⟩), .pointer (some ⟨w.heap.size + 1 + 1 + 1, 0, none⟩), .slice A2 fs.length c2, .nilIface, .pointer (some ⟨w2.heap.size, 0, none⟩), .int .i64 (x.k : Int), .pointer (some ⟨gf, 0, none⟩), undef, undef, .tuple #[.slice A2 fs.length c2, .nilIface], .slice A b.length cc, .tuple #[.slice A2 fs.length c2, .nilIface], .slice A2 fs.length c2, .nilIface, .nilIface, .bool false, undef, .slice A b.length cc, .func (.func 165) #[] #[.pointer (some ⟨g, 0, none⟩)], .int .i64 (x.k : Int), .agg #[hv x.f.t, .slice x.A x.f.v.length x.c], undef, undef, undef, undef, undef, undef, undef, undef, undef, undef, undef, undef, undef, undef, undef, undef, undef, undef, undef], defers := [] } ∧
        Whole V gf 96 #[hv x.f.t, .slice x.A x.f.v.length x.c] ∧ NpI w (rd f c) c (d : Int) w2.heap.size w3.heap.size pre V ∧ RowX (NpG w2.heap.size) V x) ?hAx
      ?assign ?body ?done ?stop
    case hseq =>
      intro l J Jx V hV hJo hJxo hJG hY hj
      refine all1_in l g w.heap.size A3 c3 b hcc3.2.1 hcc3.2.2 hs fs HSP.out (NpG w2.heap.size) V (fun X Y row hX hg hr => hGo X Y row (by have := hV.size; omega) hg fun r e => by have := hr r e; have := hV.size; omega) J Jx hJo hJxo hJG hY (hWg.below hV hWg.lt) ?_ (by have := hV.size; have := b3'.size; omega) hj
      intro V' hV'
      exact (RowG.isB (hrowA.keep ((kpg_of hGo (Nat.le_refl _) b3'.size hV).trans hV'))).lies'
    case hKb =>
      intro V l o o' hl ho hoc
      have hlt := (Array.getElem?_eq_some_iff.1 ho).1
      have hw3 := b3'.size
      refine ⟨(Below.refl _ V).grown (grownBy_putObj' V l o') (by omega) (fun k e => by cases e; omega), fun i cs t z _ hi => ?_, fun i _ hi => hGo _ _ (some l) (by omega) (grownBy_putObj' V l o') (fun r e => by cases e; omega) i hi⟩
      rw [World.putObj_heap_other (fun e => ?_)]
      · exact hi
      · subst e
        rw [hi] at ho
        cases ho
        cases hoc
    case hAx =>
      rintro pre x a' s X Y row ⟨gf, ha, hw, hi, hr1⟩ hg hr
      refine ⟨gf, ha, (hg.block gf hw.lt (fun e => ?_)).trans hw, npi_own _ b3'.size _ _ _ _ hi hg hr, rowX_own hGo hi.sz hg hr hr1⟩
      obtain ⟨_, o, ho, hoc⟩ := hr gf e.symm
      unfold Whole at hw
      rw [hw] at ho
      cases ho
      cases hoc
    case assign =>
      intro l pre x V K hi hrx hK
      have hk : ∀ o, KeepsFrom w3.heap.size V (V.alloc o) := fun o => (KeepsOthers.alloc V o).from _
      simp only [encA]
      gi_wp2
      have hb := (Below.refl V.heap.size V).alloc (Nat.le_refl _) (.cells #[hv x.f.t, .slice x.A x.f.v.length x.c] 96)
      have hgr := grown_of_below hb
      have hsz0 := hi.sz
      exact hK _ _ (hk _) (kpg_of hGo hsz0 hi.low.size hb)
        ⟨V.heap.size, rfl, Whole.new _ _ _, npi_own _ b3'.size _ _ _ none hi hgr (fun _ e => by cases e), rowX_own hGo hsz0 hgr (fun _ e => by cases e) hrx⟩
    case body =>
      rintro l pre x a' V ⟨gf, rfl, hw, hi, hrx⟩ hlen
      have hp0 := hi.p0.cell
      have hp1 := hi.p1.cell
      have hg0 : V.cell? ⟨gf, 0, none⟩ = some (hv x.f.t) := by rw [hw.cell]; rfl
      have hg1 : V.cell? ⟨gf, 1, none⟩ = some (.slice x.A x.f.v.length x.c) := by rw [hw.cell]; rfl
      have hxle := x.le
      unfold frL at hxle
      have hx0 := hrx
      obtain ⟨⟨base, hxo⟩, _⟩ := hx0
      have hxc := own_cap hxo
      have hRd := hR c x.f d x.A x.c V hd (hh.below hi.low hh.lt) (Lies.own hxo) hxc.2.1 hxc.2.2 (by omega)
      have hVlow := hi.low.size
      have hVsz := hi.sz
      cases hrd : rd f c x.f with
      | bad code a =>
        rw [hrd] at hRd
        have hal := rd_at f c x.f code a hrd
        unfold frL at hal
        have HRX := Lib.hid hrd
        obtain ⟨v0, ns0, _, _, hmap⟩ := hi.box
        have HMP := Lib.hid hmap
        clear hrd hmap
        gi_wp2_with fail
        refine ⟨trivial, (callsIn_round hRd).mono ?_⟩
        rintro e V2 ⟨bv2, rfl⟩
        have bv3 := bv2.alloc bv2.size (.cells #[.int .u16 0, .slice none 0 0, .slice none 0 0] 50)
        have hlow3 := hi.low.trans (bv3.mono hVlow)
        have hSh := Shift_fault (code : Int) a x.k (V2.alloc (.cells #[.int .u16 0, .slice none 0 0, .slice none 0 0] 50)) (hh.below hlow3 hh.lt) (by omega)
        simp only [faultV] at hSh ⊢
        gi_wp2_with fail
        refine ⟨trivial, (callsIn_round hSh).mono ?_⟩
        rintro e V4 ⟨rfl, bv4⟩
        have bv4' : Below V.heap.size V V4 := bv3.trans (bv4.mono bv3.size)
        have q0 : Boxed V4 (w.heap.size + 1 + 1) 23 (.slice none 0 0) := Whole.below hi.r0 bv4' (boxed_lt hi.r0)
        have q1 : Boxed V4 (w.heap.size + 1 + 1 + 1) 30 .nilIface := Whole.below hi.r1 bv4' (boxed_lt hi.r1)
        have c0 := q0.cell
        have c1 := q1.cell
        have f0 := q0.frozen
        have f1 := q1.frozen
        have hlow4 := hi.low.trans (bv4'.mono hVlow)
        have hkf : KeepsFrom w3.heap.size V V4 := ⟨bv4'.size, fun k o _ hk ho => (bv4'.block k (Array.getElem?_eq_some_iff.1 hk).1).trans hk⟩
        gi_wp2_with fail
        exact ⟨hkf.trans (((KeepsOthers.setCell _ _ _).trans (KeepsOthers.setCell _ _ _)).from _), (hlow4.setCell (by simp; omega) _).setCell (by simp; omega) _, ⟨ns0, HMP.out⟩, code, a, HRX.out, (q0.set (.slice none 0 0)).other (by omega) _, (q1.other (by omega) (.slice none 0 0)).set _⟩
      | ok n =>
        rw [hrd] at hRd
        have HRX := Lib.hid hrd
        clear hrd
        obtain ⟨v0, ns0, hv1, hrow, hmap⟩ := hi.box
        have hlen0 : pre.length = ns0.length := by have := congrArg List.length hmap; simpa using this
        have HMP := Lib.hid hmap
        obtain ⟨us, hown, Ks, cs, hE⟩ := hrow.own
        obtain ⟨A1, c1, rfl⟩ := own_slice3 hown
        have HE := Lib.hid hE
        have HO := Lib.hid hown
        have HL := Lib.hid hlen0
        clear hmap hE hown hlen0
        gi_wp2_with fail
        refine ⟨trivial, (callsIn_round hRd).mono ?_⟩
        rintro e V2 ⟨bv2, Ad, cd, Ak, ck, rfl, hN⟩
        have bv3 := bv2.alloc bv2.size (.cells #[hv n.t, .slice Ad n.v.length cd, .slice Ak n.ks.length ck] 50)
        gi_wp2_with fail
        have hl3 : Boxed (V2.alloc (.cells #[hv n.t, .slice Ad n.v.length cd, .slice Ak n.ks.length ck] 50)) w2.heap.size 23 (.slice A1 ns0.length c1) := Whole.below hv1 bv3 (boxed_lt hv1)
        have ho3 := own_below3 HO.out bv3
        have hk0 : ns0.length ≤ 100000000 := by have := HL.out; omega
        refine region11 _ _ _ _ _ _ _ _ _ _ _ _ _ _ _ _ _ _ _ _ _ _ _ _ _ _ _ _ _ _ _ _ _ _ _ _ _ _ _ _ _ _ _ _ w2.heap.size V2.heap.size ns0.length c1 (w2.heap.size + 1) A1 us (n.t.toNat : Int) Ad n.v.length cd Ak n.ks.length ck (V2.alloc (.cells #[hv n.t, .slice Ad n.v.length cd, .slice Ak n.ks.length ck] 50)) hl3 (Whole.new _ _ _) ho3 hk0 (by have := bv3.size; omega) ?_
        intro a g4 c4 W4 Wf h4 hg4 hblk hWf
        have bvD : Below V.heap.size V ((V2.alloc (.cells #[hv n.t, .slice Ad n.v.length cd, .slice Ak n.ks.length ck] 50)).drew.alloc (.cells #[.int .u16 0, .slice none 0 0, .slice none 0 0] 50)) := bv3.drew.alloc bv3.size _
        exact npi_push (n := n) (W2 := (V2.alloc (.cells #[hv n.t, .slice Ad n.v.length cd, .slice Ak n.ks.length ck] 50)).drew.alloc (.cells #[.int .u16 0, .slice none 0 0, .slice none 0 0] 50)) hi (by omega) (by omega) hv1 HO.out HE.out HMP.out HRX.out bvD
          (hN.turn (fun p hp => World.cell?_of_block (by rw [Below.heap_alloc _ _ _ (by have := hp.2; simp; omega)]; exact Below.heap_alloc _ _ _ hp.2)) (fun b hb => ⟨hb.1, by have := hb.2; simp; omega⟩)) h4 hg4 (by simpa using hblk) hWf
    case done =>
      rintro D xs V hD hF hi hKD
      obtain ⟨v0, ns0, hv1, hrow, hmap⟩ := hi.box
      have hlen0 : xs.length = ns0.length := by have := congrArg List.length hmap; simpa using this
      have hrr : r = .ok ns0 := by
        rw [HR.out, show yla b 0 = xs.map Yf.key from hF]
        exact stepL_ok (by rw [List.map_map]; exact hmap)
      have hnl : ns0.length ≤ 10000000 := by
        have h1 := yla_len b b.length 0 (by omega)
        rw [show yla b 0 = xs.map Yf.key from hF, List.length_map] at h1
        omega
      obtain ⟨us, hown, Ks, cs, hE⟩ := hrow.own
      obtain ⟨A1, c1, rfl⟩ := own_slice3 hown
      have HRR := Lib.hid hrr
      clear hrr hmap hown hE hlen0
      have hc0 := hv1.cell
      have h0c := hi.r0.cell
      have h0f := hi.r0.frozen
      have h1c := hi.r1.cell
      have h1f := hi.r1.frozen
      have hwb : w.heap.size + 1 + 1 + 1 < w2.heap.size := by omega
      have k0 := (hi.r0.set (.slice A1 ns0.length c1)).other (B' := w.heap.size + 1 + 1 + 1) (by omega) .nilIface
      have k1 := (hi.r1.other (B' := w.heap.size + 1 + 1) (by omega) (.slice A1 ns0.length c1)).set .nilIface
      have hlow := (hi.low.setCell (p := ⟨w.heap.size + 1 + 1, 0, none⟩) (by simp; omega) (.slice A1 ns0.length c1)).setCell (p := ⟨w.heap.size + 1 + 1 + 1, 0, none⟩) (by simp; omega) .nilIface
      have hK2 : ((V.setCell ⟨w.heap.size + 1 + 1, 0, none⟩ (.slice A1 ns0.length c1)).setCell ⟨w.heap.size + 1 + 1 + 1, 0, none⟩ .nilIface).heap[D]? = some (.deferred (some [])) :=
        (((KeepsOthers.setCell V ⟨w.heap.size + 1 + 1, 0, none⟩ (.slice A1 ns0.length c1)).trans (KeepsOthers.setCell _ ⟨w.heap.size + 1 + 1 + 1, 0, none⟩ .nilIface)).same D _ hKD rfl)
      have hNS := hrow.nodesS
      have hN2 : NodesS ((V.setCell ⟨w.heap.size + 1 + 1, 0, none⟩ (.slice A1 ns0.length c1)).setCell ⟨w.heap.size + 1 + 1 + 1, 0, none⟩ .nilIface) (fun b => w2.heap.size + 1 ≤ b ∧ b < V.heap.size) A1 ns0 := hNS.1.turn (fun p hp => by
        rw [World.cell?_setCell_other _ _ _ _ (fun e => ?_), World.cell?_setCell_other _ _ _ _ (fun e => ?_)]
        · have := hp.1; rw [← e] at this; simp at this; omega
        · have := hp.1; rw [← e] at this; simp at this; omega) (fun _ hb => hb)
      have hszV : ((V.setCell ⟨w.heap.size + 1 + 1, 0, none⟩ (.slice A1 ns0.length c1)).setCell ⟨w.heap.size + 1 + 1 + 1, 0, none⟩ .nilIface).heap.size = V.heap.size := by simp [World.setCell]
      gi_wp2
      generalize (V.setCell ⟨w.heap.size + 1 + 1, 0, none⟩ (.slice A1 ns0.length c1)).setCell ⟨w.heap.size + 1 + 1 + 1, 0, none⟩ .nilIface = W2 at *
      refine ⟨by simp, .inl ⟨_, _, rfl, run_takeDeferred hK2, ?_⟩⟩
      refine ⟨_, results_cell2 rfl _ _ (w.heap.size + 1 + 1) (w.heap.size + 1 + 1 + 1) 23 30 _ _ _ _ rfl rfl ((World.putObj_heap_other (by omega)).trans k0) ((World.putObj_heap_other (by omega)).trans k1) Tryz.underlying23 rfl Tryz.underlying30 rfl, ?_⟩
      rw [HRR.out]
      refine ⟨hlow.grown (grownBy_putObj' W2 D _) hlow.size (fun k e => by cases e; omega), A1, c1, rfl, ?_, hNS.2.1, hNS.2.2, hnl⟩
      have hDlt : D < W2.heap.size := (Array.getElem?_eq_some_iff.1 hK2).1
      exact hN2.turn2 (fun p u hp hu => (World.cell?_of_block (World.putObj_heap_other (fun e => by
        unfold World.cell? at hu
        rw [e, hK2] at hu
        simp at hu))).trans hu) (fun b hb => ⟨by omega, by simpa [World.putObj] using (show b < W2.heap.size by omega)⟩)
    case stop =>
      rintro D p V hD hF ⟨hlow, ⟨ns0, hmap⟩, code, a, hbad, hx0, hx1⟩ hKD
      obtain ⟨post, hpost⟩ := hF
      have hrr : r = .bad code (a + p.2.k) := by
        rw [HR.out, hpost]
        exact stepL_bad (ns := ns0) (by rw [List.map_map]; exact hmap) hbad
      have HRR := Lib.hid hrr
      clear hrr hmap hbad hpost
      gi_wp2
      refine ⟨by simp, .inl ⟨_, _, rfl, run_takeDeferred hKD, ?_⟩⟩
      refine ⟨_, results_cell2 rfl _ _ (w.heap.size + 1 + 1) (w.heap.size + 1 + 1 + 1) 23 30 _ _ _ _ rfl rfl ((World.putObj_heap_other (by omega)).trans hx0) ((World.putObj_heap_other (by omega)).trans hx1) Tryz.underlying23 rfl Tryz.underlying30 rfl, ?_⟩
      rw [HRR.out]
      exact ⟨hlow.grown (grownBy_putObj' V D _) hlow.size (fun k e => by cases e; omega), rfl⟩
end Go.Proofs.YthkbcpbgoefanaaGreatDoor




namespace Go.Proofs.YthkbcpbgoefanaaGreatDoor
open Go.RowKit

/-! ### the bytes of right nodes lead back to them -/
theorem fixB {c : Int} {F : Form} (h : F ∈ tab c) (hk : F.ki ≠ 0) : F.lo = F.hi := by
  have hp : (pT.all fun f => decide (f.ki = 0) || decide (f.lo = f.hi)) = true := by decide
  have hc : (cT.all fun f => decide (f.ki = 0) || decide (f.lo = f.hi)) = true := by decide
  have key : ∀ L : List Form, (L.all fun f => decide (f.ki = 0) || decide (f.lo = f.hi)) = true → F ∈ L → F.lo = F.hi := fun L hL hm => by
    have := List.all_eq_true.1 hL F hm
    simpa [hk] using this
  unfold tab at h
  split at h
  · exact key _ hp h
  · split at h
    · exact key _ hc h
    · cases h
theorem ins_zero : (ins 0).2.2 = 0 := by decide
theorem spl_nil : spl [] = .ok [] := spl_jn [] (by simp)
theorem pal_jn (R : Fr → NR) (ns : List Nd) (hf : ∀ f ∈ frs ns, Fit f) (h : ∀ n ∈ ns, R n.fr = .ok n) : pal R (jn (frs ns)) = .ok ns := by
  have hs := spl_jn _ hf
  unfold pal
  rw [hs]
  have h2 : (yla (jn (frs ns)) 0).map Prod.snd = frs ns := by
    unfold spl at hs
    split at hs
    · simpa using hs
    · split at hs <;> cases hs
  refine stepL_ok ?_
  rw [show (fun p : Nat × Fr => R p.2) = R ∘ Prod.snd from rfl, ← List.map_map, h2, frs_map, List.map_map]
  exact List.map_congr_left fun n hn => h n hn
theorem rd_good : ∀ (f : Nat) (c : Int) (n : Nd), chk f c n = 0 → rd f c n.fr = .ok n := by
  intro f
  induction f with
  | zero => intro c n h; exact absurd h (by simp [chk])
  | succ f ih =>
    intro c n h
    obtain ⟨h1, h2, h3, h4, h5⟩ := chk_zero h
    have hval : n.fr.v = n.v ++ jn (frs n.ks) := by rw [← Nd.val_eq]; rfl
    have ht : n.fr.t = n.t := rfl
    have hfr : frontOf c n.t (n.v ++ jn (frs n.ks)).length = n.v.length := by
      unfold frontOf
      by_cases hk : (formOf c n.t).ki = 0
      · rw [if_pos hk]
        have hks : n.ks = [] := by
          have h6 := h2
          rw [hk] at h6
          unfold insB at h6
          simp only [Bool.and_eq_true, decide_eq_true_eq] at h6
          have := h6.1.2
          rw [ins_zero] at this
          exact List.eq_nil_of_length_eq_zero (by omega)
        rw [hks]
        simp [frs, jn]
      · rw [if_neg hk]
        cases hl : look (tab c) n.t with
        | none => unfold formOf at hk; rw [hl] at hk; exact absurd rfl hk
        | some F =>
          rw [formOf_some hl] at hk ⊢
          have hfx := fixB (look_mem hl) hk
          unfold fitK at h1
          rw [hl] at h1
          simp only [fitsB, Bool.and_eq_true, decide_eq_true_eq] at h1
          omega
    rw [rd_succ]
    unfold rdStep
    rw [ht, hval, hfr]
    simp only [List.take_left', List.drop_left', List.length_append]
    rw [if_neg (by rw [h1]; simp), if_neg (by rw [h3]; simp)]
    have hkids : pa f (ins (formOf c n.t).ki).1 (jn (frs n.ks)) = .ok n.ks := by
      refine pal_jn _ _ (fun g hg => ?_) (fun k hk => ih _ k (h4 k hk))
      rw [frs_map] at hg
      obtain ⟨k, hk, rfl⟩ := List.mem_map.1 hg
      show k.fr.v.length ≤ 65531
      rw [show k.fr.v.length = k.vlen from val_len k]
      have h7 := fit_of_chk _ _ _ h
      exact (h7.kid k hk).vl
    rw [hkids]
    simp only [h2]
    cases n
    rfl
theorem pa_good (f : Nat) (c : Int) (ns : List Nd) (h : ∀ n ∈ ns, chk f c n = 0) : pa f c (jn (frs ns)) = .ok ns := by
  refine pal_jn _ _ (fun g hg => ?_) (fun n hn => rd_good f c n (h n hn))
  rw [frs_map] at hg
  obtain ⟨k, hk, rfl⟩ := List.mem_map.1 hg
  show k.fr.v.length ≤ 65531
  rw [show k.fr.v.length = k.vlen from val_len k]
  exact (fit_of_chk _ _ _ (h k hk)).vl

/-! ### Parse -/
theorem read_all : ∀ f, ReadOK f
  | 0 => read_zero
  | f + 1 => readOK_succ f (parse_step f (read_all f))
theorem nparse_any (c : Int) (b : List UInt8) (A : Option Addr) (cc : Nat) (w : World) (hh : Handle w) (h : Lies w w.heap.size A (b.map bv)) (hc : b.length ≤ cc) (hm : cc ≤ maxLen) (hs : b.length ≤ 10000000) :
    Calls Tryz.prog 72 #[.int .i64 c, .slice A b.length cc] w (ParseR w (pa 4 c b)) := by
  have h := parse_step 4 (read_all 4) c b 1 A cc w rfl hh h hc hm hs
  simp only [Int.cast_ofNat_Int] at h
  generalize pa 4 c b = r at *
  go_enter Tryz.func72, Tryz.ntmps72
  go_wp2_with fail
  refine h.mono ?_
  rintro e w1 h1
  cases r with
  | ok ns =>
    obtain ⟨b1, A1, c1, rfl, h2⟩ := h1
    go_wp2_with fail
    go_ret2
    exact ⟨b1, A1, c1, rfl, h2⟩
  | bad code k =>
    obtain ⟨b1, rfl⟩ := h1
    simp only [faultV]
    go_wp2_with fail
    go_ret2
    exact ⟨b1, rfl⟩

/-! ### told and coded -/
theorem eq_codes (c d : Int) (w : World) : (binOp .eql 30 (.iface 97 (.int .i64 c)) (.iface 97 (.int .i64 d))).run Tryz.prog w = .ok (.bool (c == d)) w := by
  obtain ⟨i, hi, hc⟩ := Option.map_eq_some_iff.1 (show (Tryz.prog.info? 97).map (fun i => i.comparable) = some true by kernel_rfl)
  have e : ∀ k, (Op.equalIn (k + 2) 30 (.iface 97 (.int .i64 c)) (.iface 97 (.int .i64 d))).run Tryz.prog w = .ok (c == d) w := fun k => by
    simp [Op.equalIn, run_underlying Tryz.underlying30, run_underlying Tryz.underlying97, typeInfo, hi, hc]
  simp only [binOp]
  simp [Op.equal, Op.maxDepth, e 9998]
end Go.Proofs.YthkbcpbgoefanaaGreatDoor


