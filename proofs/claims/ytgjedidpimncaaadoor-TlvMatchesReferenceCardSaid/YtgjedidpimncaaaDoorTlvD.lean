/- Layer 6, package tlv: the iterator over the frames of some bytes. -/
import Derived.Test.YtgjedidpimncaaaDoorTlvC
import Derived.Test.YtgjedidpimncaaaDoorEach
import Derived.WalkMore
import Derived.Deep.RegionHeld3
namespace Go.Proofs.YtgjedidpimncaaaDoor
open Go.RowKit Go.Shelf

attribute [local go_sem] Oper.semAt_some

/-! ### which frames come -/
theorem nx_some {b : List UInt8} {e k : Nat} (h : nx b e = some k) : k = up e ∧ e ≤ k ∧ k < b.length ∧ zeroB ((b.drop e).take (gap e)) = true := by
  unfold nx at h
  split at h
  · rename_i hg
    obtain ⟨⟨_, h2, h3⟩, h4⟩ := hg
    simp only [Option.some.injEq] at h
    subst h
    rw [Int.toNat_natCast] at h2 h3
    exact ⟨rfl, by unfold up; omega, by omega, h3⟩
  · simp at h
theorem frL_pos (f : Fr) : 4 ≤ frL f := by unfold frL; omega
def yla (b : List UInt8) (k : Nat) : List (Nat × Fr) :=
  match fa b k with
  | none => []
  | some f => match _h : nx b (k + frL f) with
    | none => [(k, f)]
    | some k' => (k, f) :: yla b k'
termination_by b.length - k
decreasing_by
  have := nx_some _h
  have := frL_pos f
  omega
theorem yla_none {b : List UInt8} {k : Nat} (h : fa b k = none) : yla b k = [] := by
  rw [yla, h]
theorem yla_last {b : List UInt8} {k : Nat} {f : Fr} (h : fa b k = some f) (hn : nx b (k + frL f) = none) : yla b k = [(k, f)] := by
  rw [yla, h]
  simp only
  split
  · rfl
  · rename_i h2; rw [hn] at h2; cases h2
theorem yla_more {b : List UInt8} {k k' : Nat} {f : Fr} (h : fa b k = some f) (hn : nx b (k + frL f) = some k') : yla b k = (k, f) :: yla b k' := by
  rw [yla, h]
  simp only
  split
  · rename_i h2; rw [hn] at h2; cases h2
  · rename_i k2 h2; rw [hn] at h2; cases h2; rfl

/-! ### one element that comes: an offset and a frame whose value lies in memory -/
structure Yf where
  k : Nat
  f : Fr
  A : Option Addr
  c : Nat
  le : k + frL f ≤ 10000000
def Yf.key (y : Yf) : Nat × Fr := (y.k, y.f)
def Yf.val (y : Yf) : Value := .slice y.A y.f.v.length y.c
def encY (y : Yf) : Array Value := #[.int .i64 (y.k : Int), .agg #[hv y.f.t, .slice y.A y.f.v.length y.c]]
/-- what a round keeps: what lay below n₀, and every block of cells but those that the caller's rounds may write (G); what they may write of what was there, they might before -/
structure KpG (G : World → Nat → Prop) (n₀ : Nat) (A B : World) : Prop where
  low : Below n₀ A B
  same : ∀ (i : Nat) (cs : Array Value) (t : TypeId) (z : Nat × Nat), ¬ G A i → A.heap[i]? = some (.cells cs t z) → B.heap[i]? = some (.cells cs t z)
  own : ∀ i, i < A.heap.size → G B i → G A i
section
variable {G : World → Nat → Prop} {n₀ : Nat} {A B C : World}
theorem KpG.refl (G : World → Nat → Prop) (n₀ : Nat) (A : World) : KpG G n₀ A A := ⟨Below.refl _ _, fun _ _ _ _ _ h => h, fun _ _ h => h⟩
theorem KpG.trans (h : KpG G n₀ A B) (k : KpG G n₀ B C) : KpG G n₀ A C :=
  ⟨h.low.trans k.low, fun i cs t z hg hi => k.same i cs t z (fun hb => hg (h.own i (Array.getElem?_eq_some_iff.1 hi).1 hb)) (h.same i cs t z hg hi), fun i hi hc => h.own i hi (k.own i (Nat.lt_of_lt_of_le hi h.low.size) hc)⟩
/-- the bytes of an element, in a row of their own -/
def RowG (G : World → Nat → Prop) (W : World) (A : Option Addr) (c : Nat) (l : List UInt8) : Prop :=
  (∃ base, W.ownsRow base 5 1 (.slice A l.length c) l.length (l.map bv)) ∧ ∀ u, A = some u → ¬ G W u.block
theorem RowG.keep {a : Option Addr} {c : Nat} {l : List UInt8} (h : RowG G A a c l) (k : KpG G n₀ A B) : RowG G B a c l := by
  obtain ⟨⟨base, h1, h2⟩, hg⟩ := h
  rcases h2 with h2 | ⟨g, cap, cur, h3, h4, h5, h6⟩
  · simp only [Value.slice.injEq] at h2
    obtain ⟨⟨rfl, h7, rfl⟩, h8⟩ := h2
    exact ⟨⟨base, h1, .inl ⟨by rw [h7], h8⟩⟩, fun u hu => by cases hu⟩
  · simp only [Value.slice.injEq] at h3
    obtain ⟨rfl, _, rfl⟩ := h3
    have hlt := (Array.getElem?_eq_some_iff.1 h5).1
    exact ⟨⟨base, h1, .inr ⟨g, c, cur, rfl, h4, k.same _ _ _ _ (hg _ rfl) h5, h6⟩⟩, fun u hu => by cases hu; exact fun hb => hg _ rfl (k.own _ hlt hb)⟩
theorem RowG.isB {W : World} {a : Option Addr} {c : Nat} {l : List UInt8} (h : RowG G W a c l) : IsB W W.heap.size (.slice a l.length c) l := by
  obtain ⟨⟨base, h1⟩, _⟩ := h
  have := own_cap h1
  exact ⟨a, c, rfl, Lies.own h1, this.2.1, this.2.2⟩
end
theorem below_undrew {n : Nat} {w w' : World} (h : Below n w.drew w') : Below n w w' := ⟨h.os, h.tape, h.output, h.size, h.block⟩
theorem grown_of_below {A B : World} (h : Below A.heap.size A B) : A.grownBy B none := ⟨h.os, h.tape, h.output, h.size, fun k hk _ => h.block k hk⟩
def FinB (G : World → Nat → Prop) (b : List UInt8) (ys : List Yf) (W : World) : Prop := ys.map Yf.key = yla b 0 ∧ ∀ y ∈ ys, RowG G W y.A y.c y.f.v

set_option maxRecDepth 100000 in
set_option maxHeartbeats 2000000 in
theorem frames1_in (n : Nat) (hn : 1 ≤ n) (l Bb n₀ : Nat) (A : Option Addr) (c : Nat) (b : List UInt8) (hc : b.length ≤ c) (hm : c ≤ maxLen) (hs : b.length ≤ 10000000)
    (G : World → Nat → Prop) (hGg : ∀ A B, (∀ i, G A i → i < A.heap.size) → A.grownBy B none → ∀ i, G B i → G A i)
    (J : List Yf → World → Prop) (hJg : ∀ s A B, J s A → A.grownBy B none → J s B) (hJG : ∀ s A, J s A → ∀ i, G A i → i < A.heap.size)
    (hY : ∀ pre x W1, J pre W1 → pre.length < b.length + 1 → YieldAt Fence.wide (n - 1) Tryd.prog l (encY x) W1 fun e W' => e = .returned (.bool true) ∧ J (pre ++ [x]) W' ∧ KpG G n₀ W1 W')
    (W : World) (hBb : Whole W Bb 22 #[.slice A b.length c]) (hBg : ¬ G W Bb) (hL : Lies W n₀ A (b.map bv)) (hn₀ : n₀ ≤ W.heap.size) (h0 : J [] W) :
    CallsIn Fence.wide n Tryd.prog 36 #[.func (.yield l) #[] #[], .pointer (some ⟨Bb, 0, none⟩)] W fun e W' => (∃ v, e = .returned v) ∧ ∃ xs, FinB G b xs W' ∧ J xs W' := by
  refine callsIn_of_wp Tryd.func36 rfl trivial ?_ rfl
  simp only [Tryd.ntmps36, List.size_toArray, List.length_cons, List.length_nil, Nat.reduceAdd, Nat.reduceSub, Array.replicate_succ, Array.replicate_zero, List.push_toArray, List.append_toArray, List.nil_append, List.cons_append]
  gi_wp2
  refine wpIn_wide.2 (wp_scope_straight ((wpIn_wide (n := n)).1 ?_))
  refine wpIn_seq (wpIn_label ?_)
  simp only [Exit.then]
  gi_wp2
  gi_loopw [3, 4] (fun at_ ok wr => ∃ (k : Nat) (ys : List Yf) (t : Bool), at_ = .int .i64 k ∧ ok = .bool t ∧ J ys wr ∧ KpG G n₀ W wr ∧ (∀ y ∈ ys, RowG G wr y.A y.c y.f.v) ∧
      Hid (if t then k ≤ b.length ∧ ys.length ≤ k ∧ ys.map Yf.key ++ yla b k = yla b 0 else ys.map Yf.key = yla b 0))
    (fun at_ ok _ => match ok with | .bool true => b.length + 1 - (intOf at_).toNat | _ => 0)
  case atStart => exact ⟨0, [], true, rfl, rfl, h0, KpG.refl _ _ _, by simp, by simp [Hid]⟩
  case round =>
    obtain ⟨k, ys, t, rfl, rfl, hj, hkp, hrow, hrel⟩ := hrel
    have hW1 : Whole wr Bb 22 #[.slice A b.length c] := hkp.same _ _ _ _ hBg hBb
    have hg1 : ¬ G wr Bb := fun h => hBg (hkp.own _ hBb.lt h)
    have hcell : wr.cell? ⟨Bb, 0, none⟩ = some (.slice A b.length c) := by rw [Whole.cell hW1]; rfl
    have hgl := hJG _ _ hj
    -- what grows keeps all
    have hgr : ∀ B, Below wr.heap.size wr B → KpG G n₀ wr B ∧ J ys B ∧ ∀ i, G B i → i < wr.heap.size := fun B hB =>
      ⟨⟨hB.mono (Nat.le_trans hn₀ hkp.low.size), fun i _ _ _ _ hi => (hB.block i (Array.getElem?_eq_some_iff.1 hi).1).trans hi, fun i _ hi => hGg _ _ hgl (grown_of_below hB) i hi⟩, hJg _ _ _ hj (grown_of_below hB), fun i hi => hgl i (hGg _ _ hgl (grown_of_below hB) i hi)⟩
    cases t with
    | false =>
      gi_wp2
      simp only [Exit.noGoto_normal]
      go_end0
      exact ⟨⟨_, rfl⟩, ys, ⟨by simpa using hrel.out, hrow⟩, hj⟩
    | true =>
      obtain ⟨hkb, hyk, hyl⟩ : k ≤ b.length ∧ ys.length ≤ k ∧ ys.map Yf.key ++ yla b k = yla b 0 := by simpa using hrel.out
      have hLr := (hL.below hkp.low).more (Nat.le_trans hn₀ hkp.low.size)
      cases hf : fa b k with
      | none =>
        have HF := Lib.hid (frameAt_none A c b k wr hLr hc hm hs hkb hf)
        clear hrel
        gi_wp2_with fail
        refine ⟨trivial, (callsIn_wide.2 HF.out).mono ?_⟩
        rintro e w2 ⟨rfl, b2⟩
        gi_wp2_with fail
        simp only [Exit.noGoto_normal]
        go_end0
        obtain ⟨k1, k2, _⟩ := hgr _ (b2.alloc b2.size (.cells #[.int .u16 0, .slice none 0 0] 48))
        exact ⟨⟨_, rfl⟩, ys, ⟨by rw [← hyl, yla_none hf, List.append_nil], fun y hy => (hrow y hy).keep k1⟩, k2⟩
      | some f =>
        have hfl := fa_len hf
        have hf4 := frL_pos f
        have hle : k + frL f ≤ 10000000 := by omega
        have HF := Lib.hid (frameAt_some A c b k f wr hLr hc hm hs hf)
        clear hrel
        gi_wp2_with fail
        refine ⟨trivial, (callsIn_wide.2 HF.out).mono ?_⟩
        rintro e w2 ⟨A', c', rfl, hown, b2⟩
        obtain ⟨k1, hj2, hg2⟩ := hgr _ (b2.alloc b2.size (.cells #[hv f.t, .slice A' f.v.length c'] 48))
        obtain ⟨fn, tmps, assign, body, hy, hR⟩ := hY ys ⟨k, f, A', c', hle⟩ _ hj2 (by omega)
        have hro : RowG G (w2.alloc (.cells #[hv f.t, .slice A' f.v.length c'] 48)) A' c' f.v :=
          ⟨⟨_, hown.alloc _⟩, fun u hu hgu => by
            rcases hown.2 with ⟨h2, _⟩ | ⟨g, cap, cur, h2, h3, _⟩
            · simp only [Value.slice.injEq] at h2
              rw [h2.1] at hu
              cases hu
            · simp only [Value.slice.injEq] at h2
              rw [h2.1] at hu
              cases hu
              have h1 : g < wr.heap.size := hg2 _ hgu
              omega⟩
        have hbox := Whole.new w2 48 #[hv f.t, .slice A' f.v.length c']
        have hbg : ¬ G (w2.alloc (.cells #[hv f.t, .slice A' f.v.length c'] 48)) w2.heap.size := fun h => by have := hg2 _ h; have := b2.size; omega
        simp only [encY] at hy
        gi_wp2_with fail
        refine hR.mono ?_
        rintro e w3 ⟨rfl, hj3, hk3⟩
        have hkp3 := (hkp.trans k1).trans hk3
        have hb3 : Whole w3 Bb 22 #[.slice A b.length c] := hkp3.same _ _ _ _ hBg hBb
        have hbox3 : Whole w3 w2.heap.size 48 #[hv f.t, .slice A' f.v.length c'] := hk3.same _ _ _ _ hbg hbox
        have c0 : w3.cell? ⟨Bb, 0, none⟩ = some (.slice A b.length c) := by rw [hb3.cell]; rfl
        have c1 : w3.cell? ⟨w2.heap.size, 0, none⟩ = some (hv f.t) := by rw [hbox3.cell]; rfl
        have c2 : w3.cell? ⟨w2.heap.size, 1, none⟩ = some (.slice A' f.v.length c') := by rw [hbox3.cell]; rfl
        have hsz3 := hkp3.low.size
        have hlow3 := hkp3.low
        have hN : ∀ w4, Below w3.heap.size w3 w4 → Calls Tryd.prog 24 #[.slice A b.length c, .int .i64 (IntKind.i64.wrap ((k : Int) + (4 + (f.v.length : Int))))] w4 fun r w' => r = .returned (.tuple #[.int .i64 ((nx b (k + frL f)).getD 0 : Nat), .bool (nx b (k + frL f)).isSome]) ∧ w4 = w' := fun w4 h4 => by
          have hwr : IntKind.i64.wrap ((k : Int) + (4 + (f.v.length : Int))) = ((k + frL f : Nat) : Int) := by
            rw [IntKind.wrap_i64]
            unfold frL at hfl ⊢
            omega
          rw [hwr]
          exact nextAt_any A c b (k + frL f) w4 (((hL.below hlow3).below (h4.mono (Nat.le_trans hn₀ hsz3))).more (Nat.le_trans (Nat.le_trans hn₀ hsz3) h4.size)) hc hs
        have hgl3 := hJG _ _ hj3
        have hrow3 : ∀ y ∈ ys ++ [(⟨k, f, A', c', hle⟩ : Yf)], RowG G w3 y.A y.c y.f.v := fun y hy => by
          rcases List.mem_append.1 hy with h | h
          · exact ((hrow y h).keep k1).keep hk3
          · rw [List.mem_singleton.1 h]
            exact hro.keep hk3
        gi_wp2_with fail
        refine wpIn_wide.2 ?_
        cases hnx : nx b (k + frL f) with
        | none =>
          rw [hnx] at hN
          have HN := Lib.hid hN
          have HE : Hid (if false = true then 0 ≤ b.length ∧ (ys ++ [(⟨k, f, A', c', hle⟩ : Yf)]).length ≤ 0 ∧ (ys ++ [(⟨k, f, A', c', hle⟩ : Yf)]).map Yf.key ++ yla b 0 = yla b 0 else (ys ++ [(⟨k, f, A', c', hle⟩ : Yf)]).map Yf.key = yla b 0) := by
            rw [Hid, if_neg (by simp), ← hyl, yla_last hf hnx, List.map_append]
            rfl
          clear hN
          go_region_held3 (fun w' => w'.cell? ⟨Bb, 0, none⟩ = some (.slice A b.length c) ∧ w'.cell? ⟨w2.heap.size, 0, none⟩ = some (hv f.t) ∧ w'.cell? ⟨w2.heap.size, 1, none⟩ = some (.slice A' f.v.length c')) (go_keep) (first | (go_at_call 23; refine (length_any _ _ _ _ _ (by unfold frL at hfl; omega)).mono ?_; rintro e w4 ⟨rfl, b4⟩; have d0 := (b4.cell (p := ⟨Bb, 0, none⟩) hb3.lt).trans c0; have d1 := (b4.cell (p := ⟨w2.heap.size, 0, none⟩) hbox3.lt).trans c1; have d2 := (b4.cell (p := ⟨w2.heap.size, 1, none⟩) hbox3.lt).trans c2) | (go_at_call 24; refine (HN.out w4 (below_undrew b4)).mono ?_; rintro e w5 ⟨rfl, rfl⟩))
          have b4' := below_undrew b4
          have hk4 : KpG G n₀ w3 w4 := ⟨b4'.mono (Nat.le_trans hn₀ hsz3), fun i _ _ _ _ hi => (b4'.block i (Array.getElem?_eq_some_iff.1 hi).1).trans hi, fun i _ hi => hGg _ _ hgl3 (grown_of_below b4') i hi⟩
          have hj4 := hJg _ _ _ hj3 (grown_of_below b4')
          have hrow4 : ∀ y ∈ ys ++ [(⟨k, f, A', c', hle⟩ : Yf)], RowG G w4 y.A y.c y.f.v := fun y hy => (hrow3 y hy).keep hk4
          go_roundw
          case rel =>
            repeat apply Exists.intro
            exact ⟨⟨0, _, false, rfl, rfl, hj4, hkp3.trans hk4, hrow4, HE⟩, rfl⟩
          case measure => simp [intOf]; omega
        | some k' =>
          obtain ⟨hk1, hk2, hk3', _⟩ := nx_some hnx
          rw [hnx] at hN
          have HN := Lib.hid hN
          have HE : Hid (if true = true then k' ≤ b.length ∧ (ys ++ [(⟨k, f, A', c', hle⟩ : Yf)]).length ≤ k' ∧ (ys ++ [(⟨k, f, A', c', hle⟩ : Yf)]).map Yf.key ++ yla b k' = yla b 0 else (ys ++ [(⟨k, f, A', c', hle⟩ : Yf)]).map Yf.key = yla b 0) := by
            rw [Hid, if_pos rfl]
            refine ⟨by omega, by rw [List.length_append]; simp; omega, ?_⟩
            rw [← hyl, yla_more hf hnx, List.map_append, List.append_assoc]
            rfl
          clear hN hk1
          go_region_held3 (fun w' => w'.cell? ⟨Bb, 0, none⟩ = some (.slice A b.length c) ∧ w'.cell? ⟨w2.heap.size, 0, none⟩ = some (hv f.t) ∧ w'.cell? ⟨w2.heap.size, 1, none⟩ = some (.slice A' f.v.length c')) (go_keep) (first | (go_at_call 23; refine (length_any _ _ _ _ _ (by unfold frL at hfl; omega)).mono ?_; rintro e w4 ⟨rfl, b4⟩; have d0 := (b4.cell (p := ⟨Bb, 0, none⟩) hb3.lt).trans c0; have d1 := (b4.cell (p := ⟨w2.heap.size, 0, none⟩) hbox3.lt).trans c1; have d2 := (b4.cell (p := ⟨w2.heap.size, 1, none⟩) hbox3.lt).trans c2) | (go_at_call 24; refine (HN.out w4 (below_undrew b4)).mono ?_; rintro e w5 ⟨rfl, rfl⟩))
          have b4' := below_undrew b4
          have hk4 : KpG G n₀ w3 w4 := ⟨b4'.mono (Nat.le_trans hn₀ hsz3), fun i _ _ _ _ hi => (b4'.block i (Array.getElem?_eq_some_iff.1 hi).1).trans hi, fun i _ hi => hGg _ _ hgl3 (grown_of_below b4') i hi⟩
          have hj4 := hJg _ _ _ hj3 (grown_of_below b4')
          have hrow4 : ∀ y ∈ ys ++ [(⟨k, f, A', c', hle⟩ : Yf)], RowG G w4 y.A y.c y.f.v := fun y hy => (hrow3 y hy).keep hk4
          go_roundw
          case rel =>
            repeat apply Exists.intro
            exact ⟨⟨k', _, true, rfl, rfl, hj4, hkp3.trans hk4, hrow4, HE⟩, rfl⟩
          case measure => simp [intOf]; omega
end Go.Proofs.YtgjedidpimncaaaDoor
