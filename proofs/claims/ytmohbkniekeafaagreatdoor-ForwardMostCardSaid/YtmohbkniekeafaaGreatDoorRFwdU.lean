/- Layer 16: slices.pdqsortCmpFunc up to 12 skips, SortFunc, SortedFunc. They write the row of skips alone. -/
import Derived.Test.YtmohbkniekeafaaGreatDoorRFS
import Derived.Test.YtmohbkniekeafaaGreatDoorRSKG


namespace Go.Proofs.YtmohbkniekeafaaGreatDoor
open Go.RowKit Go.Maps Go.Shelf

set_option linter.unusedSimpArgs false
/-- what sorting a row of skips gives -/
def SortF (B g c : Nat) (l : List Fs) (w : World) (e : Ending) (w' : World) : Prop := e = .returned (.tuple #[]) ∧
  ∃ l', l'.Perm l ∧ SrtF l' ∧ w'.ownsRow B 70 3 (.slice (some ⟨g, 0, none⟩) l.length c) l.length (fsFlat l') ∧ Below g w w'
set_option maxRecDepth 100000 in
set_option maxHeartbeats 4000000 in
theorem pdqF_any (B g c : Nat) (l : List Fs) (lim : Int) (w : World) (hrow : w.ownsRow B 70 3 (.slice (some ⟨g, 0, none⟩) l.length c) l.length (fsFlat l)) (hgw : g < w.heap.size) (hn : l.length ≤ 12) :
    Calls Tryz.prog 170 #[.slice (some ⟨g, 0, none⟩) l.length c, .int .i64 0, .int .i64 (l.length : Int), .int .i64 lim, .func (.func 36) #[] #[]] w (SortF B g c l w) := by
  have HI : Hid (Calls Tryz.prog 190 #[.slice (some ⟨g, 0, none⟩) l.length c, .int .i64 0, .int .i64 (l.length : Int), .func (.func 36) #[] #[]] w (SortF B g c l w)) := Lib.hid (insF_any B g c l w hrow hgw (by omega))
  have h12 : (l.length : Int) ≤ 12 := by omega
  have HF : Hid (∀ e w', SortF B g c l w e w' → e = .returned (.tuple #[])) := Lib.hid (fun e w' h => h.1)
  clear hrow hgw hn
  generalize SortF B g c l w = R at *
  generalize l.length = k at *
  go_enter Tryz.func170, Tryz.ntmps170
  go_wp2_with fail
  go_loopw [1, 2, 3, 10, 11] (fun a b m x y wr => a = .int .i64 0 ∧ b = .int .i64 (k : Int) ∧ m = .int .i64 lim ∧ x = .bool true ∧ y = .bool true ∧ wr = w) (fun _ _ _ _ _ _ => 0)
  case atStart => exact ⟨rfl, rfl, rfl, rfl, rfl, rfl⟩
  case round =>
    obtain ⟨rfl, rfl, rfl, rfl, rfl, rfl⟩ := hrel
    go_wp2_with fail
    refine HI.out.mono ?_
    intro e w1 hR
    obtain rfl := HF.out e w1 hR
    have HR := Lib.hid hR
    clear hR
    go_wp2_with fail
    (try simp only [Exit.inBlock, Exit.then])
    refine bodyPost_ret (results_none rfl _ _ _) rfl ?_
    exact HR.out
set_option maxRecDepth 100000 in
set_option maxHeartbeats 4000000 in
theorem sortF_any (B g c : Nat) (l : List Fs) (w : World) (hrow : w.ownsRow B 70 3 (.slice (some ⟨g, 0, none⟩) l.length c) l.length (fsFlat l)) (hgw : g < w.heap.size) (hn : l.length ≤ 12) :
    Calls Tryz.prog 141 #[.slice (some ⟨g, 0, none⟩) l.length c, .func (.func 36) #[] #[]] w (SortF B g c l w) := by
  obtain ⟨k, hL⟩ := blen12 l.length hn
  have HP := Lib.hid (pdqF_any B g c l k w hrow hgw hn)
  have HF : Hid (∀ e w', SortF B g c l w e w' → e = .returned (.tuple #[])) := Lib.hid (fun e w' h => h.1)
  have h12 : (l.length : Int) ≤ 12 := by omega
  have HL := Lib.hid hL
  clear hrow hgw hn hL
  generalize SortF B g c l w = R at *
  generalize l.length = m at *
  go_enter Tryz.func141, Tryz.ntmps141
  go_wp2_with fail
  refine (HL.out _).mono ?_
  rintro e w1 ⟨rfl, rfl⟩
  go_wp2_with fail
  refine HP.out.mono ?_
  intro e w2 hR
  obtain rfl := HF.out e w2 hR
  have HR := Lib.hid hR
  clear hR
  go_wp2_with fail
  go_end0
  exact HR.out
theorem own_baseS {w : World} {base base' e sz n : Nat} {v : Value} {xs : List Value} (h : w.ownsRow base e sz v n xs) (hb : base' ≤ base) : w.ownsRow base' e sz v n xs :=
  ⟨h.1, h.2.imp id fun ⟨g, cap, cur, h1, h2, h3⟩ => ⟨g, cap, cur, h1, Nat.le_trans hb h2, h3⟩⟩
/-- what Merge gives: each place's last skip once, in order -/
def MgF (l m : List Fs) : Prop := AllV l m ∧ SrtF m
theorem AllV.perm {l a b : List Fs} (h : AllV l a) (p : b.Perm a) : AllV l b := ⟨p.nodup_iff.2 h.1, fun s => by rw [p.mem_iff]; exact h.2 s⟩
theorem kF_sm {a b : Fs} (h : kF a = kF b) : smP a b = true := by
  have h1 := unN_le a.un
  have h2 := unN_le b.un
  unfold kF at h
  have e1 : a.st.toNat = b.st.toNat := by omega
  have e2 : (unN a.un).toNat = (unN b.un).toNat := by omega
  unfold smP
  rw [Bool.and_eq_true, beq_iff_eq, beq_iff_eq]
  exact ⟨UInt16.toNat_inj.1 e1, unN_inj (UInt16.toNat_inj.1 e2)⟩
theorem AllV.key {l a : List Fs} (h : AllV l a) {x y : Fs} (hx : x ∈ a) (hy : y ∈ a) (e : kF x = kF y) : x = y := by
  have h1 := (h.2 x).1 hx
  have h2 := (h.2 y).1 hy
  rw [lastP_congr (kF_sm e) l, h2] at h1
  exact (Option.some.inj h1).symm
/-- the order is strict -/
theorem MgF.strict {l m : List Fs} (h : MgF l m) : m.Pairwise fun a b => kF a < kF b := by
  have h1 : ∀ m : List Fs, m.Nodup → SrtF m → (∀ x ∈ m, ∀ y ∈ m, kF x = kF y → x = y) → m.Pairwise fun a b => kF a < kF b := by
    intro m
    induction m with
    | nil => intro _ _ _; exact List.Pairwise.nil
    | cons a m ih =>
      intro hn hs hk
      unfold SrtF at hs
      rw [List.pairwise_cons] at hs
      rw [List.nodup_cons] at hn
      refine List.pairwise_cons.2 ⟨fun b hb => ?_, ih hn.2 hs.2 fun x hx y hy => hk x (by simp [hx]) y (by simp [hy])⟩
      have h2 := hs.1 b hb
      rcases Nat.lt_or_ge (kF a) (kF b) with h3 | h3
      · exact h3
      · exact absurd (hk a (by simp) b (by simp [hb]) (by omega) ▸ hb) hn.1
  exact h1 m h.1.1 h.2 fun x hx y hy e => h.1.key hx hy e
theorem strict_eq : ∀ a b : List Fs, (a.Pairwise fun x y => kF x < kF y) → (b.Pairwise fun x y => kF x < kF y) → (∀ s, s ∈ a ↔ s ∈ b) → a = b
  | [], [], _, _, _ => rfl
  | [], y :: b, _, _, h => by have := (h y).2 (by simp); cases this
  | x :: a, [], _, _, h => by have := (h x).1 (by simp); cases this
  | x :: a, y :: b, ha, hb, h => by
    rw [List.pairwise_cons] at ha hb
    have hxy : x = y := by
      have h1 := (h x).1 (by simp)
      have h2 := (h y).2 (by simp)
      rcases List.mem_cons.1 h1 with e | h1
      · exact e
      · rcases List.mem_cons.1 h2 with e | h2
        · exact e.symm
        · have := hb.1 x h1
          have := ha.1 y h2
          omega
    subst hxy
    rw [strict_eq a b ha.2 hb.2 fun s => ?_]
    constructor
    · intro hs
      have h1 := (h s).1 (by simp [hs])
      rcases List.mem_cons.1 h1 with e | h1
      · subst e; have := ha.1 s hs; omega
      · exact h1
    · intro hs
      have h1 := (h s).2 (by simp [hs])
      rcases List.mem_cons.1 h1 with e | h1
      · subst e; have := hb.1 s hs; omega
      · exact h1
/-- there is one such list alone -/
theorem MgF.eq {l a b : List Fs} (h : MgF l a) (h' : MgF l b) : a = b := strict_eq a b h.strict h'.strict fun s => by rw [h.1.2 s, h'.1.2 s]
theorem AllV.len {l a : List Fs} (h : AllV l a) : a.length ≤ l.length := by
  have h3 : ∀ x ∈ a, x ∈ l := fun x hx => lastP_mem ((h.2 x).1 hx)
  have : ∀ (a b : List Fs), a.Nodup → (∀ x ∈ a, x ∈ b) → a.length ≤ b.length := by
    intro a
    induction a with
    | nil => intro b _ _; exact Nat.zero_le _
    | cons x a ih =>
      intro b hn hx
      obtain ⟨p, q, rfl⟩ := List.append_of_mem (hx x (by simp))
      have h5 := ih (p ++ q) (List.nodup_cons.1 hn).2 (fun y hy => by
        have := hx y (by simp [hy])
        have hne : y ≠ x := fun e => (List.nodup_cons.1 hn).1 (e ▸ hy)
        simp only [List.mem_append, List.mem_cons, hne, false_or] at this ⊢
        exact this)
      simp only [List.length_cons, List.length_append] at h5 ⊢
      omega
  exact this _ _ h.1 h3
theorem AllV.pos {l a : List Fs} (h : AllV l a) (hl : l ≠ []) : 0 < a.length := by
  match l, hl with
  | x :: l, _ =>
    have : (lastP (x :: l) x).isSome = true := by
      unfold lastP
      rw [List.find?_isSome]
      exact ⟨x, by simp, by simp [smP]⟩
    obtain ⟨s, hs⟩ := Option.isSome_iff_exists.1 this
    have := (h.2 s).2 (lastP_self hs)
    exact List.length_pos_of_mem this
set_option maxRecDepth 100000 in
set_option maxHeartbeats 4000000 in
theorem sortedF_any (Bm b nn : Nat) (l : List Fs) (hl : l.length ≤ 12) (hne : l ≠ []) (w : World) (hBm : Bm < w.heap.size)
    (hm : w.cell? ⟨Bm, 0, none⟩ = some (.map (some b))) (hown : w.ownsMap Tryz.prog 140 fsR b nn (mDat l)) :
    Calls Tryz.prog 97 #[.func (.func 142) #[] #[.pointer (some ⟨Bm, 0, none⟩)], .func (.func 36) #[] #[]] w fun e w' =>
      ∃ (A : Option Addr) (c : Nat) (m : List Fs), e = .returned (.slice A m.length c) ∧ MgF l m ∧ w'.ownsRow w.heap.size 70 3 (.slice A m.length c) m.length (fsFlat m) ∧ Below w.heap.size w w' := by
  have HC := Lib.hid (callsIn_wide.1 (collF_in Bm b nn l (by omega) w hBm hm hown))
  clear hm hown
  go_enter Tryz.func97, Tryz.ntmps97
  go_wp2_with fail
  refine HC.out.mono ?_
  rintro e w1 ⟨A, c, ss, rfl, hp, h1, b1⟩
  have hlen := hp.len
  obtain ⟨g, cur, rfl, hg, hw, _, _, _⟩ := own_atS h1 (hp.pos hne)
  have HS := Lib.hid (sortF_any w.heap.size g c ss w1 h1 hw.lt (by omega))
  have HF : Hid (∀ e w', SortF w.heap.size g c ss w1 e w' → e = .returned (.tuple #[])) := Lib.hid (fun e w' h => h.1)
  have HP := Lib.hid hp
  clear h1 HC hp hw
  go_wp2_with fail
  refine HS.out.mono ?_
  intro e w2 hR
  obtain rfl := HF.out e w2 hR
  have HR := Lib.hid hR
  have hb1 := b1.size
  clear hR HS HF
  go_wp2_with fail
  go_ret
  obtain ⟨_, l', p1, p2, p3, p4⟩ := HR.out
  have hll : l'.length = ss.length := p1.length_eq
  exact ⟨some ⟨g, 0, none⟩, c, l', by rw [hll]; rfl, ⟨HP.out.perm p1, p2⟩, by rw [hll]; exact p3, b1.trans (p4.mono hg)⟩
end Go.Proofs.YtmohbkniekeafaaGreatDoor


