/- Layer 16: slices.pdqsortCmpFunc up to 12 skips, SortFunc, SortedFunc. They write the row of skips alone. -/
/- Layer 16: Merge (of the program). It writes nothing that was there. -/
/- Layer 16: what the statements check first (awake). It writes nothing that was there. -/
import Derived.Test.YtmohbkniekeafaaGreatDoorTFS
import Derived.Test.YtmohbkniekeafaaGreatDoorTSKG
import Derived.Test.YtmohbkniekeafaaGreatDoorTFD
import Derived.Test.YtmohbkniekeafaaGreatDoorTFG
import Derived.BigGuard


namespace Go.Proofs.YtmohbkniekeafaaGreatDoor
open Go.RowKit Go.Maps Go.Shelf

set_option linter.unusedSimpArgs false
/-- what sorting a row of skips gives -/
def SortF (B g c : Nat) (l : List Fs) (w : World) (e : Ending) (w' : World) : Prop := e = .returned (.tuple #[]) ∧
  ∃ l', l'.Perm l ∧ SrtF l' ∧ w'.ownsRow B 70 3 (.slice (some ⟨g, 0, none⟩) l.length c) l.length (fsFlat l') ∧ Below g w w'
set_option maxRecDepth 100000 in
set_option maxHeartbeats 4000000 in
theorem pdqF_any (B g c : Nat) (l : List Fs) (lim : Int) (w : World) (hrow : w.ownsRow B 70 3 (.slice (some ⟨g, 0, none⟩) l.length c) l.length (fsFlat l)) (hgw : g < w.heap.size) (hn : l.length ≤ 12) :
    Calls Tryz.prog 170 #[.slice (some ⟨g, 0, none⟩) l.length c, .int .i64 0, .int .i64 (l.length : Int), .int .i64 lim, .func (.func 36) #[] #[]] w (SortF B g c l w) := by
  have HI : Hid (Calls Tryz.prog 190 #[.slice (some ⟨g, 0, none⟩) l.length c, .int .i64 0, .int .i64 (l.length : Int), .func (.func 36) #[] #[]] w (SortF B g c l w)) := Lib.hid (insF_any B g c l w hrow hgw (by omega))
  have h12 : (l.length : Int) ≤ 12 := by omega
  have HF : Hid (∀ e w', SortF B g c l w e w' → e = .returned (.tuple #[])) := Lib.hid (fun e w' h => h.1)
  clear hrow hgw hn
  generalize SortF B g c l w = R at *
  generalize l.length = k at *
  go_enter Tryz.func170, Tryz.ntmps170
  go_wp2_with fail
  go_loopw [1, 2, 3, 10, 11] (fun a b m x y wr => a = .int .i64 0 ∧ b = .int .i64 (k : Int) ∧ m = .int .i64 lim ∧ x = .bool true ∧ y = .bool true ∧ wr = w) (fun _ _ _ _ _ _ => 0)
  case atStart => exact ⟨rfl, rfl, rfl, rfl, rfl, rfl⟩
  case round =>
    obtain ⟨rfl, rfl, rfl, rfl, rfl, rfl⟩ := hrel
    go_wp2_with fail
    refine HI.out.mono ?_
    intro e w1 hR
    obtain rfl := HF.out e w1 hR
    have HR := Lib.hid hR
    clear hR
    go_wp2_with fail
    (try simp only [Exit.inBlock, Exit.then])
    refine bodyPost_ret (results_none rfl _ _ _) rfl ?_
    exact HR.out
set_option maxRecDepth 100000 in
set_option maxHeartbeats 4000000 in
theorem sortF_any (B g c : Nat) (l : List Fs) (w : World) (hrow : w.ownsRow B 70 3 (.slice (some ⟨g, 0, none⟩) l.length c) l.length (fsFlat l)) (hgw : g < w.heap.size) (hn : l.length ≤ 12) :
    Calls Tryz.prog 141 #[.slice (some ⟨g, 0, none⟩) l.length c, .func (.func 36) #[] #[]] w (SortF B g c l w) := by
  obtain ⟨k, hL⟩ := blen12 l.length hn
  have HP := Lib.hid (pdqF_any B g c l k w hrow hgw hn)
  have HF : Hid (∀ e w', SortF B g c l w e w' → e = .returned (.tuple #[])) := Lib.hid (fun e w' h => h.1)
  have h12 : (l.length : Int) ≤ 12 := by omega
  have HL := Lib.hid hL
  clear hrow hgw hn hL
  generalize SortF B g c l w = R at *
  generalize l.length = m at *
  go_enter Tryz.func141, Tryz.ntmps141
  go_wp2_with fail
  refine (HL.out _).mono ?_
  rintro e w1 ⟨rfl, rfl⟩
  go_wp2_with fail
  refine HP.out.mono ?_
  intro e w2 hR
  obtain rfl := HF.out e w2 hR
  have HR := Lib.hid hR
  clear hR
  go_wp2_with fail
  go_end0
  exact HR.out
theorem own_baseS {w : World} {base base' e sz n : Nat} {v : Value} {xs : List Value} (h : w.ownsRow base e sz v n xs) (hb : base' ≤ base) : w.ownsRow base' e sz v n xs :=
  ⟨h.1, h.2.imp id fun ⟨g, cap, cur, h1, h2, h3⟩ => ⟨g, cap, cur, h1, Nat.le_trans hb h2, h3⟩⟩
/-- what Merge gives: each place's last skip once, in order -/
def MgF (l m : List Fs) : Prop := AllV l m ∧ SrtF m
theorem AllV.perm {l a b : List Fs} (h : AllV l a) (p : b.Perm a) : AllV l b := ⟨p.nodup_iff.2 h.1, fun s => by rw [p.mem_iff]; exact h.2 s⟩
theorem kF_sm {a b : Fs} (h : kF a = kF b) : smP a b = true := by
  have h1 := unN_le a.un
  have h2 := unN_le b.un
  unfold kF at h
  have e1 : a.st.toNat = b.st.toNat := by omega
  have e2 : (unN a.un).toNat = (unN b.un).toNat := by omega
  unfold smP
  rw [Bool.and_eq_true, beq_iff_eq, beq_iff_eq]
  exact ⟨UInt16.toNat_inj.1 e1, unN_inj (UInt16.toNat_inj.1 e2)⟩
theorem AllV.key {l a : List Fs} (h : AllV l a) {x y : Fs} (hx : x ∈ a) (hy : y ∈ a) (e : kF x = kF y) : x = y := by
  have h1 := (h.2 x).1 hx
  have h2 := (h.2 y).1 hy
  rw [lastP_congr (kF_sm e) l, h2] at h1
  exact (Option.some.inj h1).symm
/-- the order is strict -/
theorem MgF.strict {l m : List Fs} (h : MgF l m) : m.Pairwise fun a b => kF a < kF b := by
  have h1 : ∀ m : List Fs, m.Nodup → SrtF m → (∀ x ∈ m, ∀ y ∈ m, kF x = kF y → x = y) → m.Pairwise fun a b => kF a < kF b := by
    intro m
    induction m with
    | nil => intro _ _ _; exact List.Pairwise.nil
    | cons a m ih =>
      intro hn hs hk
      unfold SrtF at hs
      rw [List.pairwise_cons] at hs
      rw [List.nodup_cons] at hn
      refine List.pairwise_cons.2 ⟨fun b hb => ?_, ih hn.2 hs.2 fun x hx y hy => hk x (by simp [hx]) y (by simp [hy])⟩
      have h2 := hs.1 b hb
      rcases Nat.lt_or_ge (kF a) (kF b) with h3 | h3
      · exact h3
      · exact absurd (hk a (by simp) b (by simp [hb]) (by omega) ▸ hb) hn.1
  exact h1 m h.1.1 h.2 fun x hx y hy e => h.1.key hx hy e
theorem strict_eq : ∀ a b : List Fs, (a.Pairwise fun x y => kF x < kF y) → (b.Pairwise fun x y => kF x < kF y) → (∀ s, s ∈ a ↔ s ∈ b) → a = b
  | [], [], _, _, _ => rfl
  | [], y :: b, _, _, h => by have := (h y).2 (by simp); cases this
  | x :: a, [], _, _, h => by have := (h x).1 (by simp); cases this
  | x :: a, y :: b, ha, hb, h => by
    rw [List.pairwise_cons] at ha hb
    have hxy : x = y := by
      have h1 := (h x).1 (by simp)
      have h2 := (h y).2 (by simp)
      rcases List.mem_cons.1 h1 with e | h1
      · exact e
      · rcases List.mem_cons.1 h2 with e | h2
        · exact e.symm
        · have := hb.1 x h1
          have := ha.1 y h2
          omega
    subst hxy
    rw [strict_eq a b ha.2 hb.2 fun s => ?_]
    constructor
    · intro hs
      have h1 := (h s).1 (by simp [hs])
      rcases List.mem_cons.1 h1 with e | h1
      · subst e; have := ha.1 s hs; omega
      · exact h1
    · intro hs
      have h1 := (h s).2 (by simp [hs])
      rcases List.mem_cons.1 h1 with e | h1
      · subst e; have := hb.1 s hs; omega
      · exact h1
/-- there is one such list alone -/
theorem MgF.eq {l a b : List Fs} (h : MgF l a) (h' : MgF l b) : a = b := strict_eq a b h.strict h'.strict fun s => by rw [h.1.2 s, h'.1.2 s]
theorem AllV.len {l a : List Fs} (h : AllV l a) : a.length ≤ l.length := by
  have h3 : ∀ x ∈ a, x ∈ l := fun x hx => lastP_mem ((h.2 x).1 hx)
  have : ∀ (a b : List Fs), a.Nodup → (∀ x ∈ a, x ∈ b) → a.length ≤ b.length := by
    intro a
    induction a with
    | nil => intro b _ _; exact Nat.zero_le _
    | cons x a ih =>
      intro b hn hx
      obtain ⟨p, q, rfl⟩ := List.append_of_mem (hx x (by simp))
      have h5 := ih (p ++ q) (List.nodup_cons.1 hn).2 (fun y hy => by
        have := hx y (by simp [hy])
        have hne : y ≠ x := fun e => (List.nodup_cons.1 hn).1 (e ▸ hy)
        simp only [List.mem_append, List.mem_cons, hne, false_or] at this ⊢
        exact this)
      simp only [List.length_cons, List.length_append] at h5 ⊢
      omega
  exact this _ _ h.1 h3
theorem AllV.pos {l a : List Fs} (h : AllV l a) (hl : l ≠ []) : 0 < a.length := by
  match l, hl with
  | x :: l, _ =>
    have : (lastP (x :: l) x).isSome = true := by
      unfold lastP
      rw [List.find?_isSome]
      exact ⟨x, by simp, by simp [smP]⟩
    obtain ⟨s, hs⟩ := Option.isSome_iff_exists.1 this
    have := (h.2 s).2 (lastP_self hs)
    exact List.length_pos_of_mem this
set_option maxRecDepth 100000 in
set_option maxHeartbeats 4000000 in
theorem sortedF_any (Bm b nn : Nat) (l : List Fs) (hl : l.length ≤ 12) (hne : l ≠ []) (w : World) (hBm : Bm < w.heap.size)
    (hm : w.cell? ⟨Bm, 0, none⟩ = some (.map (some b))) (hown : w.ownsMap Tryz.prog 140 fsR b nn (mDat l)) :
    Calls Tryz.prog 97 #[.func (.func 142) #[] #[.pointer (some ⟨Bm, 0, none⟩)], .func (.func 36) #[] #[]] w fun e w' =>
      ∃ (A : Option Addr) (c : Nat) (m : List Fs), e = .returned (.slice A m.length c) ∧ MgF l m ∧ w'.ownsRow w.heap.size 70 3 (.slice A m.length c) m.length (fsFlat m) ∧ Below w.heap.size w w' := by
  have HC := Lib.hid (callsIn_wide.1 (collF_in Bm b nn l (by omega) w hBm hm hown))
  clear hm hown
  go_enter Tryz.func97, Tryz.ntmps97
  go_wp2_with fail
  refine HC.out.mono ?_
  rintro e w1 ⟨A, c, ss, rfl, hp, h1, b1⟩
  have hlen := hp.len
  obtain ⟨g, cur, rfl, hg, hw, _, _, _⟩ := own_atS h1 (hp.pos hne)
  have HS := Lib.hid (sortF_any w.heap.size g c ss w1 h1 hw.lt (by omega))
  have HF : Hid (∀ e w', SortF w.heap.size g c ss w1 e w' → e = .returned (.tuple #[])) := Lib.hid (fun e w' h => h.1)
  have HP := Lib.hid hp
  clear h1 HC hp hw
  go_wp2_with fail
  refine HS.out.mono ?_
  intro e w2 hR
  obtain rfl := HF.out e w2 hR
  have HR := Lib.hid hR
  have hb1 := b1.size
  clear hR HS HF
  go_wp2_with fail
  go_ret
  obtain ⟨_, l', p1, p2, p3, p4⟩ := HR.out
  have hll : l'.length = ss.length := p1.length_eq
  exact ⟨some ⟨g, 0, none⟩, c, l', by rw [hll]; rfl, ⟨HP.out.perm p1, p2⟩, by rw [hll]; exact p3, b1.trans (p4.mono hg)⟩
end Go.Proofs.YtmohbkniekeafaaGreatDoor



namespace Go.Proofs.YtmohbkniekeafaaGreatDoor
open Go.RowKit Go.WideMaps Go.Maps

set_option linter.unusedSimpArgs false
set_option maxRecDepth 100000 in
set_option maxHeartbeats 8000000 in
theorem fmerge_any (l : List Fs) (A : Option Addr) (c : Nat) (w : World) (h : FsL w w.heap.size A c l) (hl : l.length ≤ 12) (hne : l ≠ []) :
    Calls Tryz.prog 34 #[.slice A l.length c] w fun e w' => ∃ (A' : Option Addr) (c' : Nat) (m : List Fs), e = .returned (.slice A' m.length c') ∧ MgF l m ∧ w'.ownsRow w.heap.size 70 3 (.slice A' m.length c') m.length (fsFlat m) ∧ Below w.heap.size w w' := by
  have HG := Lib.hid h
  have hmm := @run_makeMap Tryz.prog
  have m0 := World.ownsMap_made w Tryz.prog 140 fsR
  have b0 : Below w.heap.size w (w.alloc (.map #[] 0)) := (Below.refl _ w).alloc (Nat.le_refl _) _
  clear h
  go_enter Tryz.func34, Tryz.ntmps34
  go_upto_region 2 with fail
  generalize w.alloc (.map #[] 0) = wa at *
  clear hmm
  go_wp2_with fail
  go_loopw [9] (fun i wr => ∃ k : Nat, k ≤ l.length ∧ i = .int .i64 (k : Int) ∧ Hid (wr.ownsMap Tryz.prog 140 fsR w.heap.size k (mDat (l.take k))) ∧ Below w.heap.size w wr) (fun i _ => l.length - (intOf i).toNat)
  case atStart => exact ⟨0, Nat.zero_le _, rfl, m0, b0⟩
  case round =>
    obtain ⟨k, hk, rfl, hM, hbel⟩ := hrel
    by_cases hlt : k < l.length
    · obtain ⟨s, hs⟩ : ∃ s, l[k]? = some s := ⟨_, List.getElem?_eq_getElem hlt⟩
      obtain ⟨ad, rfl, hadb, c0, c1, c2⟩ := (HG.out.below hbel).at_ hs
      have hi1 : (k : Int) < (l.length : Int) := by omega
      have HT : Hid (mDat (l.take (k + 1)) = (mDat (l.take k)).put (kP s.st (unN s.un)) (dF s)) := Lib.hid (by rw [take_some hs, mDat_snoc])
      clear hs m0 b0
      go_upto_region 5 with fail
      have x5 := Whole.new wr 70 #[hv s.st, .bool s.un, uv s.sq]
      have B5 : Below w.heap.size w (wr.alloc (.cells #[hv s.st, .bool s.un, uv s.sq] 70)) := hbel.alloc hbel.size _
      have M5 : Hid (World.ownsMap (wr.alloc (.cells #[hv s.st, .bool s.un, uv s.sq] 70)) Tryz.prog 140 fsR w.heap.size k (mDat (l.take k))) := Lib.hid (hM.out.alloc _)
      have hmb : w.heap.size < wr.heap.size := hM.out.lt
      generalize (wr.alloc (.cells #[hv s.st, .bool s.un, uv s.sq] 70)) = w5 at *
      generalize wr.heap.size = g5 at x5 hmb ⊢
      have hx5 := x5.lt
      have KS : Hid (∀ W, Below w5.heap.size w5 W → W.cell? ⟨g5, 0, none⟩ = some (hv s.st) ∧ W.cell? ⟨g5, 1, none⟩ = some (.bool s.un) ∧ W.cell? ⟨g5, 2, none⟩ = some (uv s.sq)) := Lib.hid (fun W hW => wh3 (x5.below hW hx5))
      have HP := Lib.hid (place_any s)
      have HK := Lib.hid (fun W => key2u s.st (unN s.un) W)
      clear c0 c1 c2 hM
      refine wp_region_held_drew (S := (fun W => W.cell? ⟨g5, 0, none⟩ = some (hv s.st) ∧ W.cell? ⟨g5, 1, none⟩ = some (.bool s.un) ∧ W.cell? ⟨g5, 2, none⟩ = some (uv s.sq))) (by kernel_rfl) (KS.out _ (below_drew (Below.refl _ _))) (fun hHeld => ?_)
      refine take_at (i := 0) (v := ?_) (some 13) rfl (by kernel_rfl) (by kernel_rfl) (by kernel_rfl) (fun _ _ _ h => h) (by kernel_rfl) (Or.inl ⟨by kernel_rfl, ?_⟩) (by assumption) ?_
      rotate_left
      · (intro w hSw; (try dsimp only at hSw); go_simp <;> with_reducible rfl)
      simp only [Act.put, List.setIfInBounds_toArray, List.set_cons_zero, List.set_cons_succ]
      refine take_at (i := 1) (v := ?_) (some 14) rfl (by kernel_rfl) (by kernel_rfl) (by kernel_rfl) (fun _ _ _ h => h) (by kernel_rfl) (Or.inl ⟨by kernel_rfl, ?_⟩) (by assumption) ?_
      rotate_left
      · (intro w hSw; (try dsimp only at hSw); go_simp <;> with_reducible rfl)
      simp only [Act.put, List.setIfInBounds_toArray, List.set_cons_zero, List.set_cons_succ]
      refine take_at (i := 3) (v := ?_) (some 16) rfl (by kernel_rfl) (by kernel_rfl) (by kernel_rfl) (fun _ _ _ h => h) (by kernel_rfl) (Or.inl ⟨by kernel_rfl, ?_⟩) (by assumption) ?_
      rotate_left
      · (intro w hSw; (try dsimp only at hSw); go_simp <;> with_reducible rfl)
      simp only [Act.put, List.setIfInBounds_toArray, List.set_cons_zero, List.set_cons_succ]
      refine wpAnyH_ready (rs := [2]) (by kernel_rfl) (by simp) ?_
      refine AllReadyH.cons rfl (fun K hK => ?_) AllReadyH.nil
      go_simp
      (with_reducible refine (HP.out w5.drew).mono ?_); rintro e w6 ⟨rfl, b6⟩
      go_wp2_with fail
      have B6 : Below w5.heap.size w5 w6 := (below_drew (Below.refl _ _)).trans b6
      have M6 : w6.ownsMap Tryz.prog 140 fsR w.heap.size k (mDat (l.take k)) := M5.out.kept (grown_of_below B6) (by simp)
      clear b6
      clear hHeld
      refine hK.out _ _ (KS.out _ B6) (fun hHeld => ?_)
      clear hK K
      try simp only [Act.put, List.setIfInBounds_toArray, List.set_cons_zero, List.set_cons_succ]
      refine wpAnyH_ready (rs := [4]) (by kernel_rfl) (by simp) ?_
      refine AllReadyH.cons rfl (fun K hK => ?_) AllReadyH.nil
      refine wp_mapUpdate16 w6 (.tmp 13) (.tmp 15) (.tmp 16) 139 rfl 140 70 law2u Tryz.underlying139 fsR w.heap.size k _ rfl M6 (by unfold maxLen; omega) _ _ _ rfl rfl (HK.out w6) _ [] (fsR_eq s) ?_
      intro w7 M7 gr7
      have B7 : Below w.heap.size w w7 := (B5.trans (B6.mono B5.size)).grown gr7 (by have := B6.size; omega) (fun r e => by cases e; omega)
      have x7 : Whole w7 g5 70 #[hv s.st, .bool s.un, uv s.sq] := (x5.below B6 hx5).grown gr7 (fun e => by cases e; omega)
      clear hHeld
      refine hK.out _ _ (wh3 x7) (fun hHeld => ?_)
      clear hK K
      try simp only [Act.put, List.setIfInBounds_toArray, List.set_cons_zero, List.set_cons_succ]
      refine wpAnyH_done (by kernel_rfl) ?_ _
      go_wp2_with fail
      go_roundw
      case rel => exact ⟨k + 1, by omega, by go_num, Lib.hid (by rw [HT.out]; exact M7), B7⟩
      case measure => simp [intOf]; omega
    · obtain rfl : k = l.length := by omega
      have hi1 : ¬ (l.length : Int) < (l.length : Int) := by omega
      rw [List.take_length] at hM
      have HV := Lib.hid (callsIn_wide.1 (vals_in 5 (some w.heap.size) wr))
      have hlt := hM.out.lt
      have B8 := hbel.alloc hbel.size (.cells #[.map (some w.heap.size)] 139)
      have x8 := Whole.new wr 139 #[.map (some w.heap.size)]
      have M8 := hM.out.alloc (.cells #[.map (some w.heap.size)] 139)
      clear m0 b0 hM hbel
      go_wp2_with fail
      refine HV.out.mono ?_
      rintro e w8 ⟨rfl, rfl⟩
      generalize wr.alloc (.cells #[.map (some w.heap.size)] 139) = w8 at *
      generalize wr.heap.size = g8 at *
      have HS := Lib.hid (sortedF_any g8 w.heap.size l.length l hl hne w8 x8.lt (by rw [x8.cell]; rfl) M8)
      clear HV x8 M8
      go_wp2_with fail
      refine HS.out.mono ?_
      rintro e w9 ⟨A9, c9, m, rfl, hm, o9, b9⟩
      have O9 := Lib.hid (own_baseS o9 B8.size)
      have HM := Lib.hid hm
      clear HS hm o9
      go_wp2_with fail
      go_ret
      exact ⟨A9, c9, m, rfl, HM.out, O9.out, B8.trans (b9.mono B8.size)⟩
end Go.Proofs.YtmohbkniekeafaaGreatDoor






namespace Go.Proofs.YtmohbkniekeafaaGreatDoor
open Go.RowKit

set_option linter.unusedSimpArgs false
def awLf : List Fs := [⟨5, false, 1⟩, ⟨2, false, 7⟩, ⟨5, false, 3⟩]
def awM : List Fs := [⟨2, false, 7⟩, ⟨5, false, 3⟩]
def awU : List Fs := [⟨0, true, 0⟩]
theorem awM_mg : MgF awLf awM := by
  refine ⟨⟨?_, fun s => ⟨fun h => ?_, fun h => ?_⟩⟩, ?_⟩
  · unfold awM
    refine List.nodup_cons.2 ⟨fun h => ?_, by simp⟩
    rw [List.mem_singleton] at h
    injection h with h1
    exact absurd h1 (by decide)
  · unfold awM at h
    rcases List.mem_cons.1 h with rfl | h
    · rfl
    · rw [List.mem_singleton] at h
      subst h
      rfl
  · have h1 : s ∈ awLf := lastP_mem h
    unfold awLf at h1
    simp only [List.mem_cons, List.not_mem_nil, or_false] at h1
    rcases h1 with rfl | rfl | rfl
    · have h2 : lastP awLf ⟨5, false, 1⟩ = some ⟨5, false, 3⟩ := rfl
      rw [h2] at h
      injection h with h3
      injection h3 with _ _ h4
      exact absurd h4 (by decide)
    · unfold awM; simp
    · unfold awM; simp
  · unfold SrtF awM
    refine List.pairwise_cons.2 ⟨fun b hb => ?_, by simp⟩
    rw [List.mem_singleton] at hb
    subst hb
    decide
def awC16 : Ck := fwC false 9 awM
theorem aw16_have : haveB false awM = true := by decide +kernel
theorem aw16_no : haveB false awU = false := by decide +kernel
theorem aw16_w : isW awC16 = true := by decide +kernel
theorem aw16_t : ofWt awC16 = 9 := by decide +kernel
theorem aw16_l : (ofWl awC16).length = 2 := by decide +kernel
theorem aw16_len : (fB false 9 awM).length = 12 := fB_len false 9 awM
theorem ak16_mg (w : World) : Calls Tryz.prog 34 #[.slice (some ⟨w.heap.size, 0, none⟩) 3 3] (w.alloc (.cells #[.int .u16 5, .bool false, .int .u32 1, .int .u16 2, .bool false, .int .u32 7, .int .u16 5, .bool false, .int .u32 3] 70)) fun e w' =>
    ∃ (g c' : Nat), e = .returned (.slice (some ⟨g, 0, none⟩) 2 c') ∧ w'.ownsRow w.heap.size 70 3 (.slice (some ⟨g, 0, none⟩) 2 c') 2 (fsFlat awM) ∧ Below w.heap.size w w' := by
  have b : Below w.heap.size w (w.alloc (.cells #[.int .u16 5, .bool false, .int .u32 1, .int .u16 2, .bool false, .int .u32 7, .int .u16 5, .bool false, .int .u32 3] 70)) := (Below.refl _ w).alloc (Nat.le_refl _) _
  have hL : FsL (w.alloc (.cells #[.int .u16 5, .bool false, .int .u32 1, .int .u16 2, .bool false, .int .u32 7, .int .u16 5, .bool false, .int .u32 3] 70)) (w.alloc (.cells #[.int .u16 5, .bool false, .int .u32 1, .int .u16 2, .bool false, .int .u32 7, .int .u16 5, .bool false, .int .u32 3] 70)).heap.size (some ⟨w.heap.size, 0, none⟩) 3 awLf :=
    ⟨(Lies.newN w (fsFlat awLf) 70).more (by simp), Nat.le_refl _, by unfold maxLen; omega⟩
  refine Calls.mono (fmerge_any awLf (some ⟨w.heap.size, 0, none⟩) 3 _ hL (by decide) (by unfold awLf; simp)) fun e w' h => ?_
  obtain ⟨A', c', m, he, hm, ho, hb⟩ := h
  have hme := hm.eq awM_mg
  subst hme
  obtain ⟨g, cur, rfl, _⟩ := own_atS ho (by decide)
  exact ⟨g, c', he, own_baseS ho b.size, b.trans (hb.mono b.size)⟩
theorem ak16_fsl {w : World} {B g c : Nat} (h : w.ownsRow B 70 3 (.slice (some ⟨g, 0, none⟩) 2 c) 2 (fsFlat awM)) : FsL w w.heap.size (some ⟨g, 0, none⟩) c awM := by
  rcases h.2 with ⟨h1, _⟩ | ⟨g', cap, cur, h1, h2, h3, h4, h5, h6, h7⟩
  · cases h1
  · simp only [Value.slice.injEq, Option.some.injEq, Addr.mk.injEq] at h1
    obtain ⟨⟨rfl, _⟩, _, rfl⟩ := h1
    have hw : Whole w g 70 cur := h3
    refine ⟨fun _ => ⟨_, rfl, hw.lt, fun j x hx => ?_⟩, h4, h5⟩
    rw [add_row, hw.cell]
    rw [← h7] at hx
    have hi : j < 2 * 3 := by
      have := (List.getElem?_eq_some_iff.1 hx).1
      simp at this
      omega
    rw [List.getElem?_take_of_lt hi, Array.getElem?_toList] at hx
    exact hx
theorem ak16_mk (g c : Nat) (w : World) (h : FsL w w.heap.size (some ⟨g, 0, none⟩) c awM) : Calls Tryz.prog 22 #[.bool false, .int .u32 9, .slice (some ⟨g, 0, none⟩) 2 c] w fun e w' => Below w.heap.size w w' ∧ ∃ A' c', e = .returned (.tuple #[.agg #[.int .u8 192, .int .u8 0, .slice A' 12 c', .slice none 0 0], .bool true]) ∧ w'.ownsRow w.heap.size 5 1 (.slice A' 12 c') 12 (awC16.d.map bv) :=
  Calls.mono (fmake_any false 9 awM (some ⟨g, 0, none⟩) c w h (by decide)) fun e w' h => by
    obtain ⟨hb, ⟨_, A', c', he, ho⟩ | ⟨h1, _⟩⟩ := h
    · exact ⟨hb, A', c', he, ho⟩
    · rw [aw16_have] at h1; cases h1
theorem ak16_no (w : World) : Calls Tryz.prog 22 #[.bool false, .int .u32 9, .slice (some ⟨w.heap.size, 0, none⟩) 1 1] (w.alloc (.cells #[.int .u16 0, .bool true, .int .u32 0] 70)) fun e w' => Below w.heap.size w w' ∧ e = .returned (.tuple #[.agg #[.int .u8 0, .int .u8 0, .slice none 0 0, .slice none 0 0], .bool false]) := by
  have b : Below w.heap.size w (w.alloc (.cells #[.int .u16 0, .bool true, .int .u32 0] 70)) := (Below.refl _ w).alloc (Nat.le_refl _) _
  refine Calls.mono (fmake_any false 9 awU (some ⟨w.heap.size, 0, none⟩) 1 _ ⟨(Lies.newN w (fsFlat awU) 70).more (by simp), Nat.le_refl _, by unfold maxLen; omega⟩ (by decide)) fun e w' h => ?_
  obtain ⟨hb, ⟨h1, _⟩ | ⟨_, he⟩⟩ := h
  · rw [aw16_no] at h1; cases h1
  · exact ⟨b.trans (hb.mono b.size), he⟩
theorem ak16_of (A : Option Addr) (c B : Nat) (w : World) (h : w.ownsRow B 5 1 (.slice A 12 c) 12 (awC16.d.map bv)) (hh : Handle w) : Calls Tryz.prog 25 #[.agg #[.int .u8 192, .int .u8 0, .slice A 12 c, .slice none 0 0]] w fun e w' => Below w.heap.size w w' ∧ ∃ A' c', e = .returned (.tuple #[.int .u32 9, .slice A' 2 c', .bool true]) := by
  have hc := own_cap h
  refine Calls.mono (fof_any awC16 ⟨by show (fB false 9 awM).length ≤ _; rw [aw16_len]; omega, Nat.zero_le _, fun k hk => by cases hk⟩ A c none 0 w ⟨Lies.own h, by show (fB false 9 awM).length ≤ _; rw [aw16_len]; exact hc.2.1, hc.2.2, Nodes.nil _ _ _, Nat.le_refl _, Nat.zero_le _⟩ hh) fun e w' h => ?_
  obtain ⟨hb, A', c', he, _⟩ := h
  rw [aw16_t, aw16_l, aw16_w] at he
  exact ⟨hb, A', c', he⟩
theorem ak16_most (w : World) : Calls Tryz.prog 38 #[.bool true, .int .i64 24] w fun e w' => e = .returned (.int .i64 2) ∧ w = w' := fmost_any true 24 (by omega) w
set_option maxRecDepth 100000 in
set_option maxHeartbeats 8000000 in
theorem awake16_any (w : World) (hh : Handle w) : Calls Tryz.prog 21 #[] w fun e w' => e = .returned (.bool true) ∧ Below w.heap.size w w' := by
  have HH := Lib.hid (fun (V : World) (hb : Below w.heap.size w V) => hh.below hb hh.lt)
  have HM := Lib.hid (ak16_mg w)
  clear hh
  go_enter Tryz.func21, Tryz.ntmps21
  go_wp2_with fail
  refine HM.out.mono ?_
  rintro e w1 ⟨g, c1, rfl, o1, b1⟩
  clear HM
  have HK1 := Lib.hid (ak16_mk g c1 w1 (ak16_fsl o1))
  go_wp2_with fail
  refine HK1.out.mono ?_
  rintro e w2 ⟨b2, A2, c2, rfl, d2⟩
  have B2 := b1.trans (b2.mono b1.size)
  have o2 := own_belowR o1 b2
  clear HK1 o1 b1 b2
  go_upto_region 5 with fail
  have B3 := B2.alloc B2.size (.cells #[.int .u8 192, .int .u8 0, .slice A2 12 c2, .slice none 0 0] 44)
  have x3 := Whole.new w2 44 #[.int .u8 192, .int .u8 0, .slice A2 12 c2, .slice none 0 0]
  have d3 := d2.alloc (.cells #[.int .u8 192, .int .u8 0, .slice A2 12 c2, .slice none 0 0] 44)
  have o3 := own_belowR o2 ((Below.refl w2.heap.size w2).alloc (Nat.le_refl _) (.cells #[.int .u8 192, .int .u8 0, .slice A2 12 c2, .slice none 0 0] 44))
  generalize w2.alloc (.cells #[.int .u8 192, .int .u8 0, .slice A2 12 c2, .slice none 0 0] 44) = w3 at *
  generalize w2.heap.size = g3 at *
  clear B2 d2 o2
  have HO3 := Lib.hid (ak16_of A2 c2 _ w3 d3 (HH.out w3 B3))
  obtain ⟨q0, q1, q2, q3⟩ := wh4 x3
  go_wp2_with fail
  refine HO3.out.mono ?_
  rintro e w4 ⟨b4, A4, c4, rfl⟩
  have B4 := B3.trans (b4.mono B3.size)
  have o4 := own_belowR o3 b4
  clear HO3 q0 q1 q2 q3 x3 d3 o3 B3 b4 HH
  have HN4 := Lib.hid (ak16_no w4)
  go_wp2_with fail
  refine HN4.out.mono ?_
  rintro e w5 ⟨b5, rfl⟩
  have B5 := B4.trans (b5.mono B4.size)
  have o5 := own_belowR o4 b5
  clear HN4 o4 B4 b5
  go_upto_region 7 with fail
  have B6 := B5.alloc B5.size (.cells #[.int .u8 0, .int .u8 0, .slice none 0 0, .slice none 0 0] 44)
  have o6 := own_belowR o5 ((Below.refl w5.heap.size w5).alloc (Nat.le_refl _) (.cells #[.int .u8 0, .int .u8 0, .slice none 0 0, .slice none 0 0] 44))
  generalize w5.alloc (.cells #[.int .u8 0, .int .u8 0, .slice none 0 0, .slice none 0 0] 44) = w6 at *
  have k0 : w6.cell? ⟨g, 0, none⟩ = some (.int .u16 2) := (own_fs o6 (k := 0) (s := ⟨2, false, 7⟩) rfl).1
  have k5 : w6.cell? ⟨g, 5, none⟩ = some (.int .u32 3) := (own_fs o6 (k := 1) (s := ⟨5, false, 3⟩) rfl).2.2.1
  have HT := Lib.hid (ak16_most w6)
  clear o6 o5 B5
  go_wp2_with fail
  refine HT.out.mono ?_
  rintro e w7 ⟨rfl, rfl⟩
  go_wp2_with fail
  go_ret
  exact ⟨rfl, B6⟩
end Go.Proofs.YtmohbkniekeafaaGreatDoor


