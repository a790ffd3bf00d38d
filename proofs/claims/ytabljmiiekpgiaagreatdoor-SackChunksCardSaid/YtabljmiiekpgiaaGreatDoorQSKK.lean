/- Layer 14: gapsAfter, for at most 12 offsets. -/
/- Layer 14: Build, of at most 12 numbers. -/
import Derived.Test.YtabljmiiekpgiaaGreatDoorQSKH
import Derived.BigGuard


namespace Go.Proofs.YtabljmiiekpgiaaGreatDoor
open Go.RowKit Go.Maps

set_option linter.unusedSimpArgs false
def gstep (r : UInt32) (gs : List Gp) (x : UInt32) : List Gp := if r.toNat < x.toNat ∧ (x - r).toNat ≤ 65535 then gfold gs (x - r).toUInt16 else gs
def gapsOf (r : UInt32) (acc : List UInt32) : List Gp := (srt acc).foldl (gstep r) []
theorem gstep_len (r : UInt32) (gs : List Gp) (x : UInt32) : (gstep r gs x).length ≤ gs.length + 1 := by
  unfold gstep
  split
  · exact gfold_len _ _
  · omega
theorem fold_take {β γ : Type} (f : γ → β → γ) (z : γ) (l : List β) (k : Nat) (x : β) (h : l[k]? = some x) : (l.take (k + 1)).foldl f z = f ((l.take k).foldl f z) x := by
  rw [List.take_add_one, h, List.foldl_append]
  rfl
theorem gaps_len (r : UInt32) : ∀ (l : List UInt32) (gs : List Gp), (l.foldl (gstep r) gs).length ≤ gs.length + l.length
  | [], gs => by simp
  | x :: l, gs => by
    have h1 := gaps_len r l (gstep r gs x)
    have h2 := gstep_len r gs x
    simp only [List.foldl_cons, List.length_cons]
    omega
set_option maxRecDepth 100000 in
set_option maxHeartbeats 4000000 in
theorem gaps_any (r : UInt32) (b nn : Nat) (acc : List UInt32) (hnd : acc.Nodup) (hl : acc.length ≤ 12) (w : World) (hown : w.ownsMap Tryz.prog 22 (plainElem (H := Unit) Tryz.prog 4) b nn (setD acc)) :
    Calls Tryz.prog 79 #[uv r, .map (some b)] w fun e w' => ∃ (A : Option Addr) (c : Nat), e = .returned (.slice A (gapsOf r acc).length c) ∧ w'.ownsRow w.heap.size 86 2 (.slice A (gapsOf r acc).length c) (gapsOf r acc).length (gpFlat (gapsOf r acc)) ∧ Below w.heap.size w w' := by
  have hbl := hown.lt
  have b0 : Below w.heap.size w (w.alloc (.cells #[.slice none 0 0] 36)) := (Below.refl _ _).alloc (Nat.le_refl _) _
  have y0 := Whole.new w 36 #[.slice none 0 0]
  have z0 : (w.alloc (.cells #[.slice none 0 0] 36)).heap.size = w.heap.size + 1 := World.size_alloc _ _
  go_enter Tryz.func79, Tryz.ntmps79
  go_upto_region 2 with fail
  generalize w.alloc (.cells #[.slice none 0 0] 36) = wa at *
  have hK := callsIn_wide.1 (keys32_in 5 (some b) wa)
  have b1 : Below wa.heap.size wa (wa.alloc (.cells #[.map (some b)] 119)) := (Below.refl _ _).alloc (Nat.le_refl _) _
  have y1 := Whole.new wa 119 #[.map (some b)]
  have z1 : (wa.alloc (.cells #[.map (some b)] 119)).heap.size = wa.heap.size + 1 := World.size_alloc _ _
  go_upto_region 3 with fail
  go_wp2_with fail
  refine hK.mono ?_
  rintro e w1 ⟨rfl, rfl⟩
  generalize wa.alloc (.cells #[.map (some b)] 119) = wb at *
  have hownb : wb.ownsMap Tryz.prog 22 (plainElem (H := Unit) Tryz.prog 4) b nn (setD acc) := by
    obtain ⟨es, clock, hb, Ft, hs, hD⟩ := hown
    exact ⟨es, clock, (b1.block b (by omega)).trans ((b0.block b hbl).trans hb), Ft, hs, hD⟩
  have hS := sorted32 wa.heap.size b nn acc hnd hl wb (by omega) (by rw [y1.cell]; rfl) hownb
  rw [z0] at hS
  clear hK hown hownb
  go_wp2_with fail
  refine hS.mono ?_
  rintro e wc ⟨Ak, ck, rfl, hk, bc⟩
  have yb : Whole wb w.heap.size 36 #[.slice none 0 0] := y0.below b1 (by omega)
  have yc : Whole wc w.heap.size 36 #[.slice none 0 0] := yb.below bc (by omega)
  have bW : Below w.heap.size w wc := b0.trans ((b1.mono (by omega)).trans (bc.mono (by omega)))
  clear hS y0 y1 yb b0 b1 bc
  have hkl : (srt acc).length = acc.length := srt_len acc
  go_wp2_with fail
  go_loopw [14] (fun i wr => ∃ (k : Nat) (A : Option Addr) (c : Nat), k ≤ acc.length ∧ i = .int .i64 (k : Int) ∧ Whole wr w.heap.size 36 #[.slice A (((srt acc).take k).foldl (gstep r) []).length c] ∧
      wr.ownsRow w.heap.size 86 2 (.slice A (((srt acc).take k).foldl (gstep r) []).length c) (((srt acc).take k).foldl (gstep r) []).length (gpFlat (((srt acc).take k).foldl (gstep r) [])) ∧
      wr.ownsRow wb.heap.size 22 1 (.slice Ak acc.length ck) acc.length ((srt acc).map uv) ∧ Below w.heap.size w wr) (fun i _ => acc.length - (intOf i).toNat)
  case atStart => exact ⟨0, none, 0, Nat.zero_le _, rfl, yc, ⟨rfl, .inl ⟨rfl, rfl⟩⟩, hk, bW⟩
  case round =>
    obtain ⟨k, A, c, hkn, rfl, hW, hrow, hkr, hB⟩ := hrel
    by_cases hlt : k < acc.length
    · obtain ⟨x, hx⟩ : ∃ x, (srt acc)[k]? = some x := ⟨_, List.getElem?_eq_getElem (by omega)⟩
      have hi1 : (k : Int) < (acc.length : Int) := by omega
      have hc13 := (own_cap hkr).2.1
      have hc14 := (own_cap hkr).2.2
      obtain ⟨gk, u, rfl, hu, hcu, _, _, _⟩ := own_at hkr hlt
      obtain rfl : u = uv x := by
        have := hu.out
        rw [List.getElem?_map, hx] at this
        exact (Option.some.inj this).symm
      have HF := Lib.hid (fold_take (gstep r) [] (srt acc) k x hx)
      have hgl := gaps_len r ((srt acc).take k) []
      have htl : ((srt acc).take k).length ≤ 12 := by rw [List.length_take]; omega
      have hs32 := sub32 x r
      have HK := Lib.hid hkr
      generalize ((srt acc).take k).foldl (gstep r) [] = gs at *
      have hgs : gs.length ≤ 100000 := by simp only [List.length_nil] at hgl; omega
      clear hx hu hgl htl hkr
      by_cases h1 : r.toNat < x.toNat
      · by_cases h2 : (x - r).toNat ≤ 65535
        · have HS : Hid (gstep r gs x = gfold gs (x - r).toUInt16) := by unfold Hid gstep; rw [if_pos ⟨h1, h2⟩]
          have h1d : decide ((r.toNat : Int) < (x.toNat : Int)) = true := decide_eq_true (by omega)
          have h2d : decide (((x - r).toNat : Int) ≤ 65535) = true := decide_eq_true (by omega)
          generalize x - r = d at *
          go_upto_region 6 with fail
          go_upto_region 7 with fail
          have ho : (d.toUInt16.toNat : Int) = (d.toNat : Int) := by rw [UInt32.toNat_toUInt16]; omega
          have hcv : (d.toNat : Int) % 65536 = (d.toNat : Int) := by omega
          have hcw : IntKind.u16.wrap (d.toNat : Int) = (d.toNat : Int) := by rw [wrap16j]; exact hcv
          have hFo := fold_any d.toUInt16 gs hgs A c w.heap.size w.heap.size wr hW (Nat.le_refl _) hrow
          rw [ho] at hFo
          clear ho h1 h2
          go_wp2_with fail
          refine hFo.mono ?_
          rintro e w2 ⟨rfl, A2, c2, hW2, hr2, hb2, h32⟩
          clear hFo hW hrow hcu
          go_wp2_with fail
          go_roundw
          case rel => exact ⟨k + 1, A2, c2, by omega, by go_num, by rw [HF.out, HS.out]; exact hW2, by rw [HF.out, HS.out]; exact hr2, h32 _ _ _ _ HK.out, hB.trans hb2⟩
          case measure => simp [intOf]; omega
        · have HS : Hid (gstep r gs x = gs) := by unfold Hid gstep; rw [if_neg (fun h => h2 h.2)]
          have h1d : decide ((r.toNat : Int) < (x.toNat : Int)) = true := decide_eq_true (by omega)
          have h2d : decide (((x - r).toNat : Int) ≤ 65535) = false := decide_eq_false (by omega)
          have h2n : ¬ ((x - r).toNat : Int) ≤ 65535 := by omega
          have h1n : (r.toNat : Int) < (x.toNat : Int) := by omega
          generalize x - r = d at *
          have h2m : ¬ ((x.toNat : Int) - (r.toNat : Int)) % 4294967296 ≤ 65535 := by rw [hs32]; exact h2n
          clear h1 h2
          go_upto_region 6 with fail
          go_wp2_with fail
          go_roundw
          case rel => exact ⟨k + 1, A, c, by omega, by go_num, by rw [HF.out, HS.out]; exact hW, by rw [HF.out, HS.out]; exact hrow, HK.out, hB⟩
          case measure => simp [intOf]; omega
      · have HS : Hid (gstep r gs x = gs) := by unfold Hid gstep; rw [if_neg (fun h => h1 h.1)]
        have h1d : decide ((r.toNat : Int) < (x.toNat : Int)) = false := decide_eq_false (by omega)
        have h1n : ¬ (r.toNat : Int) < (x.toNat : Int) := by omega
        clear h1 hs32
        go_upto_region 6 with fail
        go_wp2_with fail
        go_roundw
        case rel => exact ⟨k + 1, A, c, by omega, by go_num, by rw [HF.out, HS.out]; exact hW, by rw [HF.out, HS.out]; exact hrow, HK.out, hB⟩
        case measure => simp [intOf]; omega
    · obtain rfl : k = acc.length := by omega
      have hi1 : ¬ (acc.length : Int) < (acc.length : Int) := by omega
      rw [List.take_of_length_le (by omega)] at hW hrow
      have hg : (srt acc).foldl (gstep r) [] = gapsOf r acc := rfl
      rw [hg] at hW hrow
      have c0 : wr.cell? ⟨w.heap.size, 0, none⟩ = some (.slice A (gapsOf r acc).length c) := by rw [hW.cell]; rfl
      clear hkr hg
      go_wp2_with fail
      go_ret
      exact ⟨A, c, rfl, hrow, hB⟩
end Go.Proofs.YtabljmiiekpgiaaGreatDoor



namespace Go.Proofs.YtabljmiiekpgiaaGreatDoor
open Go.RowKit Go.Maps

set_option linter.unusedSimpArgs false
theorem dvStep_nodup (cum : UInt32) (s : List UInt32 × List UInt32) (x : UInt32) (h : s.1.Nodup) : (dvStep cum s x).1.Nodup := by
  unfold dvStep
  split
  · exact h
  · rename_i hn
    split
    · refine List.nodup_append.2 ⟨h, by simp, fun a ha b hb => ?_⟩
      rw [List.mem_singleton] at hb
      subst hb
      intro e
      subst e
      simp [ha] at hn
    · exact h
theorem dvd_nodup (cum : UInt32) (l : List UInt32) : (dvd cum l).1.Nodup := by
  unfold dvd
  have : ∀ (l : List UInt32) (s : List UInt32 × List UInt32), s.1.Nodup → (l.foldl (dvStep cum) s).1.Nodup := by
    intro l
    induction l with
    | nil => intro s h; exact h
    | cons x l ih => intro s h; exact ih _ (dvStep_nodup cum s x h)
  exact this l _ List.nodup_nil
/-- how far the offsets go on from one that was reached -/
def rchF (acc : List UInt32) : Nat → UInt32 → UInt32
  | 0, r => r
  | n + 1, r => if r + 1 ∈ acc then rchF acc n (r + 1) else r
def rch (acc : List UInt32) : UInt32 := rchF acc acc.length 0
def bld (cum win : UInt32) (came : List UInt32) : Sk := ⟨cum + rch (dvd cum came).1, win, gapsOf (rch (dvd cum came).1) (dvd cum came).1, (dvd cum came).2⟩
/-- all up to k lie in acc: no more than acc has -/
theorem pigeon (acc : List UInt32) (k : Nat) (hk : k < 4294967296) (h : ∀ i, 1 ≤ i → i ≤ k → UInt32.ofNat i ∈ acc) : k ≤ acc.length := by
  have hn : ((List.range k).map fun i => UInt32.ofNat (i + 1)).Nodup := by
    refine List.pairwise_map.2 ((List.nodup_range (n := k)).imp_of_mem ?_)
    intro a b ha hb hab e
    rw [List.mem_range] at ha hb
    have := congrArg UInt32.toNat e
    rw [UInt32.toNat_ofNat', UInt32.toNat_ofNat'] at this
    omega
  have := nodup_len (acc := acc) hn (fun x hx => by
    obtain ⟨i, hi, rfl⟩ := List.mem_map.1 hx
    rw [List.mem_range] at hi
    exact h (i + 1) (by omega) (by omega))
  simpa using this
theorem own_capG {w : World} {base e s n c : Nat} {A : Option Addr} {xs : List Value} (h : w.ownsRow base e s (.slice A n c) n xs) : n ≤ c ∧ c ≤ maxLen := by
  rcases h.2 with ⟨e, _⟩ | ⟨g, cap, cur, e, _, _, h1, h2, _⟩
  · cases e
    exact ⟨Nat.le_refl _, Nat.zero_le _⟩
  · cases e
    exact ⟨h1, h2⟩
theorem add32 (a : UInt32) : ((a.toNat : Int) + 1) % 4294967296 = (((a + 1).toNat : Nat) : Int) := by
  have h1 := a.toNat_lt
  rw [UInt32.toNat_add]
  have : (1 : UInt32).toNat = 1 := rfl
  rw [this]
  omega
theorem add32b (a b : UInt32) : ((a.toNat : Int) + (b.toNat : Int)) % 4294967296 = (((a + b).toNat : Nat) : Int) := by
  rw [UInt32.toNat_add]
  omega

set_option maxRecDepth 100000 in
set_option maxHeartbeats 8000000 in
theorem build_any (cum win : UInt32) (came : List UInt32) (hl : came.length ≤ 12) (A : Option Addr) (c : Nat) (w : World) (h : Lies w w.heap.size A (came.map uv)) :
    Calls Tryz.prog 29 #[uv cum, uv win, .slice A came.length c] w fun e w' => ∃ (G : Option Addr) (gc : Nat) (D : Option Addr) (dc : Nat), e = .returned (skV (bld cum win came) G gc D dc) ∧ SkL w' w'.heap.size G gc D dc (bld cum win came) ∧ Below w.heap.size w w' := by
  have law : Keyed Tryz.prog 22 := int_keyed Tryz.underlying22
  have b0 : Below w.heap.size w (w.alloc (.cells #[.int .u32 0, .int .u32 0, .slice none 0 0, .slice none 0 0] 38)) := (Below.refl _ _).alloc (Nat.le_refl _) _
  have y0 := Whole.new w 38 #[.int .u32 0, .int .u32 0, .slice none 0 0, .slice none 0 0]
  have z0 : (w.alloc (.cells #[.int .u32 0, .int .u32 0, .slice none 0 0, .slice none 0 0] 38)).heap.size = w.heap.size + 1 := World.size_alloc _ _
  go_enter Tryz.func29, Tryz.ntmps29
  go_upto_region 1 with fail
  generalize w.alloc (.cells #[.int .u32 0, .int .u32 0, .slice none 0 0, .slice none 0 0] 38) = wa at *
  have hD := divided_any cum came (by omega) A c wa ((h.below b0).more (by omega))
  have hnd := dvd_nodup cum came
  have hle := dvd_le cum came came.length (Nat.le_refl _)
  rw [List.take_length] at hle
  have HB : Hid (bld cum win came = ⟨cum + rch (dvd cum came).1, win, gapsOf (rch (dvd cum came).1) (dvd cum came).1, (dvd cum came).2⟩) := Lib.hid rfl
  generalize dvd cum came = S at *
  obtain ⟨acc, dups⟩ := S
  simp only at *
  clear h
  go_wp2_with fail
  refine hD.mono ?_
  rintro e w1 ⟨D, dc, rfl, hown, hrow, b1⟩
  have hbl := hown.lt
  have y1 : Whole w1 w.heap.size 38 #[.int .u32 0, .int .u32 0, .slice none 0 0, .slice none 0 0] := y0.below b1 (by omega)
  have bW : Below w.heap.size w w1 := b0.trans (b1.mono (by omega))
  have hs1 := b1.size
  clear hD y0 b0 b1
  rw [z0] at hown hrow
  go_wp2_with fail
  go_loopw [9] (fun v wr => ∃ (k : Nat) (r : UInt32), v = uv r ∧ r.toNat = k ∧ k ≤ acc.length ∧ Hid (∀ i, 1 ≤ i → i ≤ k → UInt32.ofNat i ∈ acc) ∧ Hid (rchF acc (acc.length - k) r = rch acc) ∧ wr = w1) (fun v _ => acc.length - (intOf v).toNat)
  case atStart => exact ⟨0, 0, rfl, rfl, Nat.zero_le _, Lib.hid (fun i h1 h2 => by omega), Lib.hid rfl, rfl⟩
  case round =>
    obtain ⟨k, r, rfl, hrk, hka, hall, hrc, rfl⟩ := hrel
    have hzb := zero_bool wr
    have hadd := add32 r
    have HAt := Lib.hid (setD_at acc (r + 1))
    have hr1 : (r + 1).toNat = k + 1 := by
      rw [UInt32.toNat_add]
      have : (1 : UInt32).toNat = 1 := rfl
      rw [this]
      omega
    have HR1 := Lib.hid hr1
    have hadw : IntKind.u32.wrap ((r.toNat : Int) + 1) = (((r + 1).toNat : Nat) : Int) := by rw [← hadd]; unfold IntKind.wrap IntKind.bits; simp [IntKind.signed]
    by_cases hm : r + 1 ∈ acc
    · have HCC : Hid (∀ cc : Bool, (setD acc).atKey (k32 (r + 1)) (.lit (.bool false)) = .lit (.bool cc) → cc = true) := Lib.hid (fun cc e => by
        rw [HAt.out, decide_eq_true hm] at e
        simp only [DataW.lit.injEq, Lit.bool.injEq] at e
        exact e.symm)
      have hall2 : ∀ i, 1 ≤ i → i ≤ k + 1 → UInt32.ofNat i ∈ acc := fun i h1 h2 => by
        by_cases hi : i ≤ k
        · exact hall.out i h1 hi
        · have e : UInt32.ofNat i = r + 1 := UInt32.toNat_inj.1 (by rw [UInt32.toNat_ofNat', hr1]; omega)
          rw [e]
          exact hm
      have hk2 := pigeon acc (k + 1) (by omega) hall2
      have hrc2 : Hid (rchF acc (acc.length - (k + 1)) (r + 1) = rch acc) := Lib.hid (by
        have := hrc.out
        rw [show acc.length - k = (acc.length - (k + 1)) + 1 by omega, rchF, if_pos hm] at this
        exact this)
      have hall3 := Lib.hid hall2
      have HK2 := Lib.hid hk2
      have HRK := Lib.hid hrk
      clear HAt hm hall hall2 hrc hr1 hrk hk2
      generalize r + 1 = s at *
      go_wp2_with (first | (at_lookup; refine wpList_lookup_own_bool wr (by rfl) _ _ 119 rfl 22 4 law Tryz.underlying119 Tryz.underlying4 hzb (w.heap.size + 1) came.length _ rfl hown _ (k32 s) rfl (k32_key s) ?_; intro cc hat; obtain rfl := HCC.out cc hat) | fail)
      go_roundw
      case rel => exact ⟨k + 1, s, rfl, HR1.out, HK2.out, hall3, hrc2, by trivial⟩
      case measure =>
        have h1 := HR1.out
        have h2 := HRK.out
        have h3 := HK2.out
        simp only [intOf]
        omega
    · have HCC : Hid (∀ cc : Bool, (setD acc).atKey (k32 (r + 1)) (.lit (.bool false)) = .lit (.bool cc) → cc = false) := Lib.hid (fun cc e => by
        rw [HAt.out, decide_eq_false hm] at e
        simp only [DataW.lit.injEq, Lit.bool.injEq] at e
        exact e.symm)
      have hrr : r = rch acc := by
        have := hrc.out
        cases hn : acc.length - k with
        | zero => rw [hn] at this; exact this
        | succ n => rw [hn, rchF, if_neg hm] at this; exact this
      have HB2 : Hid (bld cum win came = ⟨cum + r, win, gapsOf r acc, dups⟩) := Lib.hid (by rw [HB.out, ← hrr])
      have hG := gaps_any r (w.heap.size + 1) came.length acc hnd (by omega) wr hown
      have hcr := add32b cum r
      clear HAt hm hall hrc HB hrr hr1 hrk HR1
      generalize r + 1 = s at *
      generalize cum + r = cr at *
      go_wp2_with (first | (at_lookup; refine wpList_lookup_own_bool wr (by rfl) _ _ 119 rfl 22 4 law Tryz.underlying119 Tryz.underlying4 hzb (w.heap.size + 1) came.length _ rfl hown _ (k32 s) rfl (k32_key s) ?_; intro cc hat; obtain rfl := HCC.out cc hat) | fail)
      refine hG.mono ?_
      rintro e w2 ⟨G, gc, rfl, hg, b2⟩
      have y2 := y1.below b2 (by omega)
      have hr2 := own_below' hrow b2
      have b3 := bW.trans (b2.mono (by omega))
      have HCR := Lib.hid hcr
      clear hG hown hrow y1 bW b2 hcr hadd hzb
      obtain ⟨m0, m1, m2, m3⟩ := wh4 y2
      have f0 := y2.frozen 0
      have f1 := y2.frozen 1
      have f2 := y2.frozen 2
      have f3 := y2.frozen 3
      go_wp2_with fail
      rw [HCR.out]
      have hgr := (((grownBy_setCell1 w2 w.heap.size 0 (uv cr)).trans (grownBy_setCell1 _ w.heap.size 1 (uv win))).trans (grownBy_setCell1 _ w.heap.size 2 (.slice G (gapsOf r acc).length gc))).trans (grownBy_setCell1 _ w.heap.size 3 (.slice D dups.length dc))
      have hg3 := hg.kept hgr (.inr (whole_row_ne y2 (by decide) hg))
      have hr3 := hr2.kept hgr (.inr (whole_row_ne y2 (by decide) hr2))
      have b4 := b3.grown hgr (by have := b3.size; omega) (fun k e => by cases e; exact Nat.le_refl _)
      refine bodyPost_ret (results_row13 rfl _ _ w.heap.size 38 _ _ rfl ((((y2.set_ 0 _).set_ 1 _).set_ 2 _).set_ 3 _) Tryz.underlying38 rfl (by kernel_rfl)) rfl ?_
      refine ⟨G, gc, D, dc, ?_, ?_, b4⟩
      · rw [HB2.out]
        rfl
      · rw [HB2.out]
        exact ⟨⟨own_liesW hg3 (fun h0 => List.length_eq_zero_iff.1 (by rw [hg3.1, h0])), (own_capG hg3).1, (own_capG hg3).2⟩, own_liesW hr3 (fun h0 => List.length_eq_zero_iff.1 (by rw [hr3.1, h0])), (own_capG hr3).1, (own_capG hr3).2⟩
end Go.Proofs.YtabljmiiekpgiaaGreatDoor


