/- Layer 6, package tlv: the iterator over the frames of some bytes. -/
import Derived.Test.YtdnilbebdgohnaaGreatDoorTlvC
import Derived.WalkMore
import Derived.Deep.RegionHeld3



namespace Go.Proofs.YtdnilbebdgohnaaGreatDoor
open Go.RowKit Go.Shelf

attribute [local go_sem] Oper.semAt_some

/-! ### which frames come -/
theorem nx_some {b : List UInt8} {e k : Nat} (h : nx b e = some k) : k = up e ∧ e ≤ k ∧ k < b.length ∧ zeroB ((b.drop e).take (gap e)) = true := by
  unfold nx at h
  split at h
  · rename_i hg
    obtain ⟨⟨_, h2, h3⟩, h4⟩ := hg
    simp only [Option.some.injEq] at h
    subst h
    rw [Int.toNat_natCast] at h2 h3
    exact ⟨rfl, by unfold up; omega, by omega, h3⟩
  · simp at h
theorem frL_pos (f : Fr) : 4 ≤ frL f := by unfold frL; omega
def yla (b : List UInt8) (k : Nat) : List (Nat × Fr) :=
  match fa b k with
  | none => []
  | some f => match _h : nx b (k + frL f) with
    | none => [(k, f)]
    | some k' => (k, f) :: yla b k'
termination_by b.length - k
decreasing_by
  have := nx_some _h
  have := frL_pos f
  omega
theorem yla_none {b : List UInt8} {k : Nat} (h : fa b k = none) : yla b k = [] := by
  rw [yla, h]
theorem yla_last {b : List UInt8} {k : Nat} {f : Fr} (h : fa b k = some f) (hn : nx b (k + frL f) = none) : yla b k = [(k, f)] := by
  rw [yla, h]
  simp only
  split
  · rfl
  · rename_i h2; rw [hn] at h2; cases h2
theorem yla_more {b : List UInt8} {k k' : Nat} {f : Fr} (h : fa b k = some f) (hn : nx b (k + frL f) = some k') : yla b k = (k, f) :: yla b k' := by
  rw [yla, h]
  simp only
  split
  · rename_i h2; rw [hn] at h2; cases h2
  · rename_i k2 h2; rw [hn] at h2; cases h2; rfl

/-! ### what Split hands back -/
inductive Out where
  | ok (fs : List Fr)
  | bad (code k : Nat)
def kend (l : List (Nat × Fr)) : Nat := match l.getLast? with | none => 0 | some y => y.1 + frL y.2
def spl (b : List UInt8) : Out :=
  if kend (yla b 0) = b.length then .ok ((yla b 0).map Prod.snd)
  else match nx b (kend (yla b 0)) with
    | none => .bad 5 (kend (yla b 0))
    | some k => .bad 4 k
theorem nx_end (b : List UInt8) : nx b b.length = none := by
  unfold nx
  rw [if_neg]
  rintro ⟨⟨_, h1, _⟩, h2⟩
  rw [Int.toNat_natCast] at h1
  have : up b.length = b.length + gap b.length := rfl
  omega
/-! ### what has come so far, and what is left -/
structure Live (b : List UInt8) (pre : List (Nat × Fr)) (k : Nat) : Prop where
  all : pre ++ yla b k = yla b 0
  nx : nx b (kend pre) = some k
theorem kend_snoc (pre : List (Nat × Fr)) (x : Nat × Fr) : kend (pre ++ [x]) = x.1 + frL x.2 := by simp [kend]
theorem live_start {b : List UInt8} (h : b ≠ []) : Live b [] 0 := by
  refine ⟨rfl, ?_⟩
  have h2 : 0 < b.length := List.length_pos_iff.2 h
  unfold Go.Proofs.YtdnilbebdgohnaaGreatDoor.nx
  rw [if_pos]
  · rfl
  · refine ⟨⟨by simp [kend], ?_, ?_⟩, ?_⟩
    · simp [kend, up, gap]
    · simp [kend, gap, zeroB]
    · simp only [kend, List.getLast?_nil, up, gap]; omega
section
variable {b : List UInt8} {pre : List (Nat × Fr)} {k : Nat}
theorem Live.ne (h : Live b pre k) : kend pre ≠ b.length := fun e => by
  have := h.nx
  rw [e, nx_end] at this
  cases this
theorem Live.none (h : Live b pre k) (hf : fa b k = .none) : spl b = .bad 4 k := by
  have e : yla b 0 = pre := by rw [← h.all, yla_none hf, List.append_nil]
  unfold spl
  rw [e, if_neg h.ne, h.nx]
theorem Live.last (h : Live b pre k) {f : Fr} (hf : fa b k = some f) (hn : Go.Proofs.YtdnilbebdgohnaaGreatDoor.nx b (k + frL f) = .none) : yla b 0 = pre ++ [(k, f)] := by
  rw [← h.all, yla_last hf hn]
theorem Live.pad (h : Live b pre k) {f : Fr} (hf : fa b k = some f) (hn : Go.Proofs.YtdnilbebdgohnaaGreatDoor.nx b (k + frL f) = .none) (he : k + frL f ≠ b.length) : spl b = .bad 5 (k + frL f) := by
  have e := h.last hf hn
  unfold spl
  rw [e, kend_snoc, if_neg he, hn]
theorem Live.done (h : Live b pre k) {f : Fr} (hf : fa b k = some f) (he : k + frL f = b.length) : spl b = .ok ((pre ++ [(k, f)]).map Prod.snd) := by
  have e := h.last hf (by rw [he]; exact nx_end b)
  unfold spl
  rw [e, kend_snoc, if_pos he]
theorem Live.more (h : Live b pre k) {f : Fr} {k' : Nat} (hf : fa b k = some f) (hn : Go.Proofs.YtdnilbebdgohnaaGreatDoor.nx b (k + frL f) = some k') : Live b (pre ++ [(k, f)]) k' := by
  refine ⟨?_, ?_⟩
  · rw [← h.all, yla_more hf hn, List.append_assoc]
    rfl
  · rw [kend_snoc]
    exact hn
end
/-- where the reading stands: at the end, or at a frame's offset -/
def Cur (b : List UInt8) (pre : List (Nat × Fr)) (k : Nat) : Prop := (k = b.length ∧ spl b = .ok (pre.map Prod.snd)) ∨ (k < b.length ∧ pre.length ≤ k ∧ Live b pre k)
theorem cur_start (b : List UInt8) : Cur b [] 0 := by
  by_cases h : b = []
  · subst h
    refine .inl ⟨rfl, ?_⟩
    have h : yla ([] : List UInt8) 0 = [] := yla_none (by simp [fa])
    unfold spl
    rw [h]
    rfl
  · exact .inr ⟨List.length_pos_iff.2 h, Nat.le_refl _, live_start h⟩
theorem Live.next {b : List UInt8} {pre : List (Nat × Fr)} {k k' : Nat} {f : Fr} (h : Live b pre k) (hl : pre.length ≤ k) (hf : fa b k = some f) (hn : na b (k + frL f) = some k') : Cur b (pre ++ [(k, f)]) k' ∧ k < k' ∧ k' ≤ b.length := by
  have h4 := frL_pos f
  have h5 := fa_len hf
  unfold na at hn
  split at hn
  · rename_i he
    simp only [Option.some.injEq] at hn
    subst hn
    exact ⟨.inl ⟨he, h.done hf he⟩, by omega, h5⟩
  · obtain ⟨_, h1, h2, _⟩ := nx_some hn
    exact ⟨.inr ⟨h2, by rw [List.length_append]; simp; omega, h.more hf hn⟩, by omega, by omega⟩
theorem Live.wrong {b : List UInt8} {pre : List (Nat × Fr)} {k : Nat} {f : Fr} (h : Live b pre k) (hf : fa b k = some f) (hn : na b (k + frL f) = Option.none) : spl b = .bad 5 (k + frL f) := by
  unfold na at hn
  split at hn
  · simp at hn
  · rename_i he
    exact h.pad hf hn he

/-! ### one element that comes: an offset and a frame whose value lies in memory -/
structure Yf where
  k : Nat
  f : Fr
  A : Option Addr
  c : Nat
  le : k + frL f ≤ 10000000
def Yf.key (y : Yf) : Nat × Fr := (y.k, y.f)
def Yf.val (y : Yf) : Value := .slice y.A y.f.v.length y.c
def encY (y : Yf) : Array Value := #[.agg #[.int .i64 (y.k : Int), hv y.f.t, .slice y.A y.f.v.length y.c], .nilIface]
/-- the last element that comes, if there is an error: nothing, and its code and its offset -/
def encL (e : Nat × Nat) : Array Value := #[.agg #[.int .i64 0, .int .u16 0, .slice none 0 0], faultV (e.1 : Int) (e.2 : Int)]
/-- what a round keeps: what lay below n₀, and every block of cells but those that the caller's rounds may write (G); what they may write of what was there, they might before -/
structure KpG (G : World → Nat → Prop) (n₀ : Nat) (A B : World) : Prop where
  low : Below n₀ A B
  same : ∀ (i : Nat) (cs : Array Value) (t : TypeId) (z : Nat × Nat), ¬ G A i → A.heap[i]? = some (.cells cs t z) → B.heap[i]? = some (.cells cs t z)
  own : ∀ i, i < A.heap.size → G B i → G A i
section
variable {G : World → Nat → Prop} {n₀ : Nat} {A B C : World}
theorem KpG.refl (G : World → Nat → Prop) (n₀ : Nat) (A : World) : KpG G n₀ A A := ⟨Below.refl _ _, fun _ _ _ _ _ h => h, fun _ _ h => h⟩
theorem KpG.trans (h : KpG G n₀ A B) (k : KpG G n₀ B C) : KpG G n₀ A C :=
  ⟨h.low.trans k.low, fun i cs t z hg hi => k.same i cs t z (fun hb => hg (h.own i (Array.getElem?_eq_some_iff.1 hi).1 hb)) (h.same i cs t z hg hi), fun i hi hc => h.own i hi (k.own i (Nat.lt_of_lt_of_le hi h.low.size) hc)⟩
/-- the bytes of an element, in a row of their own -/
def RowG (G : World → Nat → Prop) (W : World) (A : Option Addr) (c : Nat) (l : List UInt8) : Prop :=
  (∃ base, W.ownsRow base 5 1 (.slice A l.length c) l.length (l.map bv)) ∧ ∀ u, A = some u → ¬ G W u.block
theorem RowG.keep {a : Option Addr} {c : Nat} {l : List UInt8} (h : RowG G A a c l) (k : KpG G n₀ A B) : RowG G B a c l := by
  obtain ⟨⟨base, h1, h2⟩, hg⟩ := h
  rcases h2 with h2 | ⟨g, cap, cur, h3, h4, h5, h6⟩
  · simp only [Value.slice.injEq] at h2
    obtain ⟨⟨rfl, h7, rfl⟩, h8⟩ := h2
    exact ⟨⟨base, h1, .inl ⟨by rw [h7], h8⟩⟩, fun u hu => by cases hu⟩
  · simp only [Value.slice.injEq] at h3
    obtain ⟨rfl, _, rfl⟩ := h3
    have hlt := (Array.getElem?_eq_some_iff.1 h5).1
    exact ⟨⟨base, h1, .inr ⟨g, c, cur, rfl, h4, k.same _ _ _ _ (hg _ rfl) h5, h6⟩⟩, fun u hu => by cases hu; exact fun hb => hg _ rfl (k.own _ hlt hb)⟩
theorem RowG.isB {W : World} {a : Option Addr} {c : Nat} {l : List UInt8} (h : RowG G W a c l) : IsB W W.heap.size (.slice a l.length c) l := by
  obtain ⟨⟨base, h1⟩, _⟩ := h
  have := own_cap h1
  exact ⟨a, c, rfl, Lies.own h1, this.2.1, this.2.2⟩
end
theorem below_undrew {n : Nat} {w w' : World} (h : Below n w.drew w') : Below n w w' := ⟨h.os, h.tape, h.output, h.size, h.block⟩
theorem grown_of_below {A B : World} (h : Below A.heap.size A B) : A.grownBy B none := ⟨h.os, h.tape, h.output, h.size, fun k hk _ => h.block k hk⟩
def FinB (G : World → Nat → Prop) (b : List UInt8) (ys : List Yf) (W : World) : Prop := spl b = .ok (ys.map Yf.f) ∧ ∀ y ∈ ys, RowG G W y.A y.c y.f.v
def FinL (b : List UInt8) (e : Nat × Nat) : Prop := spl b = .bad e.1 e.2

set_option maxRecDepth 100000 in
set_option maxHeartbeats 2000000 in
theorem places1_in (n : Nat) (hn : 1 ≤ n) (l Bb n₀ : Nat) (A : Option Addr) (c : Nat) (b : List UInt8) (hc : b.length ≤ c) (hm : c ≤ maxLen) (hs : b.length ≤ 10000000)
    (G : World → Nat → Prop) (hGg : ∀ A B, (∀ i, G A i → i < A.heap.size) → A.grownBy B none → ∀ i, G B i → G A i)
    (J : List Yf → World → Prop) (Jx : Nat × Nat → World → Prop) (hJg : ∀ s A B, J s A → A.grownBy B none → J s B) (hJG : ∀ s A, J s A → ∀ i, G A i → i < A.heap.size)
    (hY : ∀ pre x W1, J pre W1 → pre.length < b.length + 1 → YieldAt Fence.wide (n - 1) Tryz.prog l (encY x) W1 fun e W' => e = .returned (.bool true) ∧ J (pre ++ [x]) W' ∧ KpG G n₀ W1 W')
    (hL : ∀ pre y W1, J pre W1 → YieldAt Fence.wide (n - 1) Tryz.prog l (encL y) W1 fun e W' => e = .returned (.bool false) ∧ Jx y W')
    (W : World) (hBb : Whole W Bb 32 #[.slice A b.length c]) (hBg : ¬ G W Bb) (hLi : Lies W n₀ A (b.map bv)) (hn₀ : n₀ ≤ W.heap.size) (h0 : J [] W) :
    CallsIn Fence.wide n Tryz.prog 65 #[.func (.yield l) #[] #[], .pointer (some ⟨Bb, 0, none⟩)] W fun e W' => (∃ v, e = .returned v) ∧ ((∃ xs, FinB G b xs W' ∧ J xs W') ∨ (∃ y, FinL b y ∧ Jx y W')) := by
  refine callsIn_of_wp Tryz.func65 rfl trivial ?_ rfl
  simp only [Tryz.ntmps65, List.size_toArray, List.length_cons, List.length_nil, Nat.reduceAdd, Nat.reduceSub, Array.replicate_succ, Array.replicate_zero, List.push_toArray, List.append_toArray, List.nil_append, List.cons_append]
  gi_wp2
  refine wpIn_wide.2 (wp_scope_straight ((wpIn_wide (n := n)).1 ?_))
  refine wpIn_seq (wpIn_label ?_)
  simp only [Exit.then]
  gi_wp2
  gi_loopw [3] (fun at_ wr => ∃ (k : Nat) (ys : List Yf), at_ = .int .i64 k ∧ J ys wr ∧ KpG G n₀ W wr ∧ (∀ y ∈ ys, RowG G wr y.A y.c y.f.v) ∧ Hid (Cur b (ys.map Yf.key) k))
    (fun at_ _ => b.length + 1 - (intOf at_).toNat)
  case atStart => exact ⟨0, [], rfl, h0, KpG.refl _ _ _, by simp, cur_start b⟩
  case round =>
    obtain ⟨k, ys, rfl, hj, hkp, hrow, hrel⟩ := hrel
    have hW1 : Whole wr Bb 32 #[.slice A b.length c] := hkp.same _ _ _ _ hBg hBb
    have hcell : wr.cell? ⟨Bb, 0, none⟩ = some (.slice A b.length c) := by rw [Whole.cell hW1]; rfl
    have hgl := hJG _ _ hj
    -- what grows keeps all
    have hgr : ∀ B, Below wr.heap.size wr B → KpG G n₀ wr B ∧ J ys B ∧ ∀ i, G B i → i < wr.heap.size := fun B hB =>
      ⟨⟨hB.mono (Nat.le_trans hn₀ hkp.low.size), fun i _ _ _ _ hi => (hB.block i (Array.getElem?_eq_some_iff.1 hi).1).trans hi, fun i _ hi => hGg _ _ hgl (grown_of_below hB) i hi⟩, hJg _ _ _ hj (grown_of_below hB), fun i hi => hgl i (hGg _ _ hgl (grown_of_below hB) i hi)⟩
    rcases hrel.out with ⟨hk, hsp⟩ | ⟨hk, hyk, hlv⟩
    · have ht : ¬ ((k : Int) < (b.length : Int)) := by omega
      clear hrel
      gi_wp2
      go_end0
      exact ⟨⟨_, rfl⟩, .inl ⟨ys, ⟨by rw [hsp, List.map_map]; rfl, hrow⟩, hj⟩⟩
    · have ht : (k : Int) < (b.length : Int) := by omega
      have hLr := (hLi.below hkp.low).more (Nat.le_trans hn₀ hkp.low.size)
      cases hf : fa b k with
      | none =>
        have HF := Lib.hid (frameAt_none A c b k wr hLr hc hm hs (by omega) hf)
        clear hrel
        gi_wp2_with fail
        refine ⟨trivial, (callsIn_wide.2 HF.out).mono ?_⟩
        rintro e w2 ⟨rfl, b2⟩
        obtain ⟨k1, hj2, _⟩ := hgr _ (b2.alloc b2.size (.cells #[.int .u16 0, .slice none 0 0] 67))
        obtain ⟨fn, tmps, assign, body, hy, hR⟩ := hL ys (4, k) _ hj2
        simp only [encL, faultV, Int.cast_ofNat_Int] at hy
        simp only [faultV]
        gi_wp2_with fail
        refine hR.mono ?_
        rintro e w3 ⟨rfl, hx3⟩
        gi_wp2_with fail
        simp only [Exit.noGoto_normal]
        go_end0
        exact ⟨⟨_, rfl⟩, .inr ⟨(4, k), hlv.none hf, hx3⟩⟩
      | some f =>
        have hfl := fa_len hf
        have hf4 := frL_pos f
        have hle : k + frL f ≤ 10000000 := by omega
        cases hna : na b (k + frL f) with
        | none =>
          have HF := Lib.hid (frameAt_wrong A c b k f wr hLr hc hm hs hf hna)
          have hsp := hlv.wrong hf hna
          have hkn : k + frL f ≤ b.length := hfl
          generalize k + frL f = e5 at *
          clear hrel
          gi_wp2_with fail
          refine ⟨trivial, (callsIn_wide.2 HF.out).mono ?_⟩
          rintro e w2 ⟨rfl, b2⟩
          obtain ⟨k1, hj2, _⟩ := hgr _ (b2.alloc b2.size (.cells #[.int .u16 0, .slice none 0 0] 67))
          obtain ⟨fn, tmps, assign, body, hy, hR⟩ := hL ys (5, e5) _ hj2
          simp only [encL, faultV, Int.cast_ofNat_Int] at hy
          simp only [faultV]
          gi_wp2_with fail
          refine hR.mono ?_
          rintro e w3 ⟨rfl, hx3⟩
          gi_wp2_with fail
          simp only [Exit.noGoto_normal]
          go_end0
          exact ⟨⟨_, rfl⟩, .inr ⟨(5, e5), hsp, hx3⟩⟩
        | some k' =>
          have HF := Lib.hid (frameAt_some A c b k f k' wr hLr hc hm hs hf hna)
          obtain ⟨hcur, hk1, hk2⟩ := hlv.next hyk hf hna
          have HC := Lib.hid hcur
          clear hcur
          clear hrel
          gi_wp2_with fail
          refine ⟨trivial, (callsIn_wide.2 HF.out).mono ?_⟩
          rintro e w2 ⟨A', c', rfl, hown, b2⟩
          obtain ⟨k1, hj2, hg2⟩ := hgr _ (b2.alloc b2.size (.cells #[hv f.t, .slice A' f.v.length c'] 67))
          obtain ⟨fn, tmps, assign, body, hy, hR⟩ := hY ys ⟨k, f, A', c', hle⟩ _ hj2 (by simp at hyk; omega)
          have hro : RowG G (w2.alloc (.cells #[hv f.t, .slice A' f.v.length c'] 67)) A' c' f.v :=
            ⟨⟨_, hown.alloc _⟩, fun u hu hgu => by
              rcases hown.2 with ⟨h2, _⟩ | ⟨g, cap, cur, h2, h3, _⟩
              · simp only [Value.slice.injEq] at h2
                rw [h2.1] at hu
                cases hu
              · simp only [Value.slice.injEq] at h2
                rw [h2.1] at hu
                cases hu
                have h1 : g < wr.heap.size := hg2 _ hgu
                omega⟩
          have hbox := Whole.new w2 67 #[hv f.t, .slice A' f.v.length c']
          have q0 := hbox.cell 0
          have q1 := hbox.cell 1
          simp only [List.getElem?_toArray, List.getElem?_cons_zero, List.getElem?_cons_succ] at q0 q1
          simp only [encY] at hy
          gi_wp2_with fail
          refine hR.mono ?_
          rintro e w3 ⟨rfl, hj3, hk3⟩
          have hkp3 := (hkp.trans k1).trans hk3
          have hrow3 : ∀ y ∈ ys ++ [(⟨k, f, A', c', hle⟩ : Yf)], RowG G w3 y.A y.c y.f.v := fun y hy => by
            rcases List.mem_append.1 hy with h | h
            · exact ((hrow y h).keep k1).keep hk3
            · rw [List.mem_singleton.1 h]
              exact hro.keep hk3
          have HE2 : Hid (Cur b ((ys ++ [(⟨k, f, A', c', hle⟩ : Yf)]).map Yf.key) k') := by
            rw [Hid, List.map_append]
            exact HC.out
          gi_wp2_with fail
          go_roundw
          case rel =>
            exact ⟨k', _, rfl, hj3, hkp3, hrow3, HE2⟩
          case measure => simp [intOf]; omega
end Go.Proofs.YtdnilbebdgohnaaGreatDoor

