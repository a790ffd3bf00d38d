/- Layer 16: a right chunk of skips and what it says (mathematics; no program). -/
/- Layer 16: Of. It writes nothing that was there. -/
import Derived.Test.YtmohbkniekeafaaGreatDoorTFD

namespace Go.Proofs.YtmohbkniekeafaaGreatDoor
open Go.RowKit

def isW (x : Ck) : Bool := (decide (x.t = 192) || decide (x.t = 194)) && decide (chkC x = 0)
def itW (x : Ck) : Bool := decide (x.t = 194)
/-- the skips of the data of a chunk -/
def fwL (inter : Bool) (d : List UInt8) : List Fs := (List.range ((d.length - 4) / unitN inter)).map fun j => skN inter ((d.drop (4 + unitN inter * j)).take (unitN inter))
theorem kd192 : (kdOf 192).ms = 0 ∧ (kdOf 192).lo = 4 ∧ (kdOf 192).un = 4 ∧ (kdOf 192).ki = 0 ∧ kn 192 = true := by decide +kernel
theorem kd194 : (kdOf 194).ms = 0 ∧ (kdOf 194).lo = 4 ∧ (kdOf 194).un = 8 ∧ (kdOf 194).ki = 0 ∧ kn 194 = true := by decide +kernel
theorem da_fwd {x : Ck} (h : daB x = false) (ht : x.t = 192) : 4 ≤ x.d.length ∧ (x.d.length - 4) % 4 = 0 := by
  obtain ⟨h1, _, h3⟩ := kfits_of (da_fits h (by rw [ht]; decide))
  rw [ht] at h1 h3
  rw [show (kdOf 192).lo = 4 by decide] at h1 h3
  rw [show (kdOf 192).un = 4 by decide] at h3
  omega
theorem isW_parts {x : Ck} (h : isW x = true) : x.t = tyF (itW x) ∧ chkC x = 0 := by
  unfold isW at h
  simp only [Bool.and_eq_true, Bool.or_eq_true, decide_eq_true_eq] at h
  refine ⟨?_, h.2⟩
  unfold itW tyF
  rcases h.1 with e | e <;> rw [e] <;> rfl
theorem tyF_kd (b : Bool) : (kdOf (tyF b)).ms = 0 ∧ (kdOf (tyF b)).ki = 0 ∧ kn (tyF b) = true := by
  cases b
  · exact ⟨kd192.1, kd192.2.2.2.1, kd192.2.2.2.2⟩
  · exact ⟨kd194.1, kd194.2.2.2.1, kd194.2.2.2.2⟩
theorem isW_all {x : Ck} (h : isW x = true) : x.t = tyF (itW x) ∧ x.fl = 0 ∧ x.ks = [] ∧ x.d.length ≤ 65531 ∧ 4 ≤ x.d.length ∧ x.d.length = 4 + unitN (itW x) * (fwL (itW x) x.d).length := by
  obtain ⟨h1, h2⟩ := isW_parts h
  obtain ⟨h3, h4, h5, _, _, _, h7⟩ := chk_parts h2
  have hk := tyF_kd (itW x)
  have hlen : 4 ≤ x.d.length ∧ (x.d.length - 4) % unitN (itW x) = 0 := by
    cases hb : itW x with
    | false => rw [hb] at h1; exact da_fwd h4 h1
    | true => rw [hb] at h1; exact da_ifwd h4 h1
  have hl : x.d.length ≤ 65531 := by
    unfold csz at h7
    omega
  refine ⟨h1, ?_, ?_, hl, hlen.1, ?_⟩
  · unfold flB at h3
    rw [h1, hk.1, hk.2.2, Bool.true_and] at h3
    exact UInt8.toNat_inj.1 (msk0 x.fl.toNat x.fl.toNat_lt h3)
  · unfold kidB kidP at h5
    simp only [Bool.or_eq_false_iff, decide_eq_false_iff_not] at h5
    obtain ⟨_, h5, _⟩ := h5
    rw [h1, hk.2.1] at h5
    refine List.eq_nil_of_length_eq_zero ?_
    have : (kins 0).2.2 = 0 := by decide
    rw [this] at h5
    omega
  · have e : (fwL (itW x) x.d).length = (x.d.length - 4) / unitN (itW x) := by simp [fwL]
    rw [e]
    have hd := Nat.div_add_mod (x.d.length - 4) (unitN (itW x))
    rw [hlen.2] at hd
    omega
theorem isW_no {x : Ck} (h : (x.t ≠ 192 ∧ x.t ≠ 194) ∨ chkC x ≠ 0) : isW x = false := by
  unfold isW
  rcases h with h | h
  · rw [decide_eq_false h.1, decide_eq_false h.2]; rfl
  · rw [decide_eq_false h, Bool.and_false]
/-- what Of hands back -/
def ofWt (x : Ck) : UInt32 := if isW x = true then nrd x.d 0 4 else 0
def ofWl (x : Ck) : List Fs := if isW x = true then fwL (itW x) x.d else []
def OfW (x : Ck) (w : World) (e : Ending) (w' : World) : Prop := Below w.heap.size w w' ∧ ∃ A c, e = .returned (.tuple #[uv (ofWt x), .slice A (ofWl x).length c, .bool (isW x)]) ∧ FsL w' w'.heap.size A c (ofWl x)
theorem ofW_no {x : Ck} {w w' : World} (h : isW x = false) (hb : Below w.heap.size w w') : OfW x w (.returned (.tuple #[.int .u32 0, .slice none 0 0, .bool false])) w' := by
  unfold OfW ofWt ofWl
  rw [h]
  exact ⟨hb, none, 0, rfl, Lies.nil, Nat.le_refl _, Nat.zero_le _⟩
theorem fwL_at {inter : Bool} {d : List UInt8} {j : Nat} (hj : j < (fwL inter d).length) : (fwL inter d)[j]? = some (skN inter ((d.drop (4 + unitN inter * j)).take (unitN inter))) := by
  have hj2 : j < (d.length - 4) / unitN inter := by simpa [fwL] using hj
  unfold fwL
  rw [List.getElem?_map, List.getElem?_range hj2]
  rfl
end Go.Proofs.YtmohbkniekeafaaGreatDoor



namespace Go.Proofs.YtmohbkniekeafaaGreatDoor
open Go.RowKit Go.Shelf

attribute [local go_sem] Oper.semAt_some
set_option linter.unusedSimpArgs false
theorem results_tct {P : Program} {fn : Func} {p u v : Tmp} {ty : TypeId} (h : fn.results = #[.tmp u, .cell p ty, .tmp v]) (tmps : Array Value) (w : World) (g : Nat) (t : TypeId) (x : Value) (d : TypeDesc)
    (hp : tmps.getD p undef = .pointer (some ⟨g, 0, none⟩)) (hg : Whole w g t #[x]) (hu : P.underlying ty = some d) (hd : (match d with | .struct _ | .array _ _ => true | _ => false) = false) :
    (results fn tmps).run P w = .ok (.tuple #[tmps.getD u undef, x, tmps.getD v undef]) w := by
  have hp' : tmps[p]?.getD undef = .pointer (some ⟨g, 0, none⟩) := by simpa using hp
  simp only [results, h]
  simp [Result.andThen, hp', asAddr, run_loadVar_one w g t ty x d hg hu hd]
set_option maxRecDepth 100000 in
set_option maxHeartbeats 4000000 in
theorem fof_no (x : Ck) (hx : isW x = false) (hf : CkFine x) (A : Option Addr) (c : Nat) (K : Option Addr) (k : Nat) (w : World) (h : Chunk w w.heap.size A c K k x) (hh : Handle w) :
    Calls Tryz.prog 25 #[ckV x A c K k] w (OfW x w) := by
  have b0 : ∀ b : Bool, Below w.heap.size w (((w.alloc (.cells (ckCells x A c K k) 44)).alloc (.cells #[.slice none 0 0] 47)).alloc (.cells #[.bool b] 4)) := fun b => (((Below.refl _ w).alloc (Nat.le_refl _) _).alloc (by simp) _).alloc (by simp; omega) _
  have x0 : ∀ b : Bool, Whole (((w.alloc (.cells (ckCells x A c K k) 44)).alloc (.cells #[.slice none 0 0] 47)).alloc (.cells #[.bool b] 4)) w.heap.size 44 (ckCells x A c K k) := fun b => ((Whole.new w 44 (ckCells x A c K k)).alloc (.cells #[.slice none 0 0] 47)).alloc (.cells #[.bool b] 4)
  have y0 : ∀ b : Bool, Whole (((w.alloc (.cells (ckCells x A c K k) 44)).alloc (.cells #[.slice none 0 0] 47)).alloc (.cells #[.bool b] 4)) (w.heap.size + 1) 47 #[.slice none 0 0] := fun b => by
    have y := Whole.new (w.alloc (.cells (ckCells x A c K k) 44)) 47 #[.slice none 0 0]
    rw [World.size_alloc] at y
    exact y.alloc (.cells #[.bool b] 4)
  have z0 : ∀ b : Bool, Whole (((w.alloc (.cells (ckCells x A c K k) 44)).alloc (.cells #[.slice none 0 0] 47)).alloc (.cells #[.bool b] 4)) (w.heap.size + 2) 4 #[.bool b] := fun b => by
    have y := Whole.new ((w.alloc (.cells (ckCells x A c K k) 44)).alloc (.cells #[.slice none 0 0] 47)) 4 #[.bool b]
    rw [World.size_alloc, World.size_alloc] at y
    exact y
  have hz : ∀ b : Bool, w.heap.size + 1 < (((w.alloc (.cells (ckCells x A c K k) 44)).alloc (.cells #[.slice none 0 0] 47)).alloc (.cells #[.bool b] 4)).heap.size := fun b => by simp
  have HC : ∀ b : Bool, _ := fun b => ccheck_any x hf A c K k _ (h.on (b0 b)) (hh.below (b0 b) hh.lt)
  have HN := Lib.hid (fun (V : World) (hV : Below w.heap.size w V) => ofW_no (x := x) hx hV)
  have HE : Hid ((∃ b, x.t = tyF b ∧ chkC x ≠ 0) ∨ (x.t ≠ 192 ∧ x.t ≠ 194)) := by
    unfold Hid
    by_cases h1 : x.t = 192
    · refine .inl ⟨false, h1, fun h2 => ?_⟩
      unfold isW at hx
      rw [decide_eq_true h1, decide_eq_true h2] at hx
      exact absurd hx (by simp)
    · by_cases h3 : x.t = 194
      · refine .inl ⟨true, h3, fun h2 => ?_⟩
        unfold isW at hx
        rw [decide_eq_true h3, decide_eq_true h2] at hx
        exact absurd hx (by simp)
      · exact .inr ⟨h1, h3⟩
  have HCC := Lib.hid (fun hc : chkC x ≠ 0 => codeE_ne hc)
  clear h hf hh hx
  generalize hR : OfW x w = R at *
  clear hR
  generalize chkC x = cc at *
  obtain ⟨t, fl, d, ks⟩ := x
  simp only [ckV, ckCells] at *
  rcases HE.out with ⟨b, rfl, hc⟩ | ⟨ht1, ht2⟩
  · have HC' := HC b
    rw [HCC.out hc] at HC'
    have HB := Lib.hid (b0 b)
    have X0 := x0 b
    have Y0 := y0 b
    have Z0 := z0 b
    have hZ := hz b
    clear hc HCC HE HC b0 x0 y0 z0 hz
    cases b
    all_goals
      simp only [tyF] at *
    · have q0 := X0.cell 0
      refine (callsIn_wide (n := 6)).1 ?_
      refine callsIn_of_wp_marks Tryz.func25 rfl trivial ?_ rfl
      simp only [Tryz.ntmps25, List.size_toArray, List.length_cons, List.length_nil, Nat.reduceAdd, Nat.reduceSub, Array.replicate_succ, Array.replicate_zero, List.push_toArray, List.append_toArray, List.nil_append, List.cons_append]
      gi_wp2_with fail
      refine ⟨trivial, (callsIn_wide.2 HC').mono ?_⟩
      rintro e w2 ⟨rfl, b2⟩
      have B2 := Lib.hid (HB.out.trans (b2.mono (by omega)))
      have y2 := Y0.below b2 hZ
      have f0 := y2.frozen 0
      have e0 := y2.cell 0
      clear q0 X0 Y0 Z0 hZ b2 HC'
      gi_wp2_with fail
      refine ⟨_, results_tct rfl _ _ (w.heap.size + 1) 47 _ _ rfl (y2.set_ 0 _) Tryz.underlying47 rfl, ?_⟩
      exact HN.out _ (B2.out.setCell (Nat.le_succ _) _)
    · have q0 := X0.cell 0
      refine (callsIn_wide (n := 6)).1 ?_
      refine callsIn_of_wp_marks Tryz.func25 rfl trivial ?_ rfl
      simp only [Tryz.ntmps25, List.size_toArray, List.length_cons, List.length_nil, Nat.reduceAdd, Nat.reduceSub, Array.replicate_succ, Array.replicate_zero, List.push_toArray, List.append_toArray, List.nil_append, List.cons_append]
      gi_wp2_with fail
      refine ⟨trivial, (callsIn_wide.2 HC').mono ?_⟩
      rintro e w2 ⟨rfl, b2⟩
      have B2 := Lib.hid (HB.out.trans (b2.mono (by omega)))
      have y2 := Y0.below b2 hZ
      have f0 := y2.frozen 0
      have e0 := y2.cell 0
      clear q0 X0 Y0 Z0 hZ b2 HC'
      gi_wp2_with fail
      refine ⟨_, results_tct rfl _ _ (w.heap.size + 1) 47 _ _ rfl (y2.set_ 0 _) Tryz.underlying47 rfl, ?_⟩
      exact HN.out _ (B2.out.setCell (Nat.le_succ _) _)
  · have e1 : ((t.toNat : Int) == 194) = false := by rw [beq_eq_false_iff_ne]; intro e; exact ht2 (UInt8.toNat_inj.1 (by have : (194 : UInt8).toNat = 194 := rfl; omega))
    have e2 : ((t.toNat : Int) != 192) = true := by rw [bne_iff_ne]; intro e; exact ht1 (UInt8.toNat_inj.1 (by have : (192 : UInt8).toNat = 192 := rfl; omega))
    have HB := Lib.hid (b0 false)
    have X0 := x0 false
    have Y0 := y0 false
    have Z0 := z0 false
    clear ht1 ht2 HC HE HCC b0 x0 y0 z0 hz
    refine (callsIn_wide (n := 6)).1 ?_
    refine callsIn_of_wp_marks Tryz.func25 rfl trivial ?_ rfl
    simp only [Tryz.ntmps25, List.size_toArray, List.length_cons, List.length_nil, Nat.reduceAdd, Nat.reduceSub, Array.replicate_succ, Array.replicate_zero, List.push_toArray, List.append_toArray, List.nil_append, List.cons_append]
    gi_wp2_with fail
    refine ⟨trivial, ?_⟩
    generalize ((w.alloc (.cells #[bv t, bv fl, .slice A d.length c, .slice K ks.length k] 44)).alloc (.cells #[.slice none 0 0] 47)).alloc (.cells #[.bool false] 4) = wz at *
    clear X0 Z0
    have f0 := Y0.frozen 0
    have e0 := Y0.cell 0
    gi_wp2_with fail
    refine ⟨_, results_tct rfl _ _ (w.heap.size + 1) 47 _ _ rfl (Y0.set_ 0 _) Tryz.underlying47 rfl, ?_⟩
    exact HN.out _ (HB.out.setCell (Nat.le_succ _) _)
theorem nums4_4' {d : List UInt8} (h : 4 ≤ d.length) : nums 4 (d.take 4) = [nrd d 0 4] := by
  unfold nums
  rw [show (d.take 4).length / 4 = 1 by rw [List.length_take]; omega]
  have e0 : numAt 4 (d.take 4) 0 = nrd d 0 4 := by unfold numAt nrd; rw [Nat.zero_mul, List.drop_zero, List.take_take, List.drop_zero]; rfl
  simp [List.range_succ, e0]
theorem chunk8_comes (Bs Bn : Nat) (A : Option Addr) (m c k : Nat) (hk : 1 ≤ k) (hk2 : k ≤ 9223372036854775807) (hc : m ≤ c) (hm : c ≤ maxLen) (hs : m ≤ 10000000) (hA : 0 < m → ∃ ad, A = some ad)
    (w : World) (hBs : Whole w Bs 41 #[.slice A m c]) (hBn : Whole w Bn 3 #[.int .i64 (k : Int)]) :
    ComesL Fence.wide 5 Tryz.prog 125 #[.pointer (some ⟨Bs, 0, none⟩), .pointer (some ⟨Bn, 0, none⟩)] (encCh A k m) (KpC Bs Bn) (fun _ _ => False) (fun pre _ x => RowCh k m pre x) (FinCh k m) (fun p => RowCh k m p.1 p.2) (m + 1) w := by
  intro l J Jx W hW hJ hJx _ hY h0
  exact chunk1_in 5 (by omega) l Bs Bn 0 0 A m c k hk hk2 hc hm hs hA (fun _ i => i ≠ Bs ∧ i ≠ Bn) (fun A B row _ _ _ i h => h) J Jx (fun s A B h hg => hJ s A B none h hg (fun r e => by cases e))
    (fun pre x W1 h1 h2 h3 => by
      obtain ⟨fn, tmps, assign, body, hy, hR⟩ := hY pre x W1 h1 h2 h3
      exact ⟨fn, tmps, assign, body, hy, hR.mono fun e w' h => h.1.imp (fun ⟨a, b, c⟩ => ⟨a, b, c.kpg⟩) id⟩) W (Nat.zero_le _) (hBs.below hW hBs.lt) (fun h => h.1 rfl) (hBn.below hW hBn.lt) (fun h => h.2 rfl) h0
/-- what the loop of Of holds -/
structure FoI (g8 : Nat) (w0 : World) (b : Bool) (cd : Array Value) (l : List Fs) (P : Option Addr) (m cc u : Nat) (pre : List Nat) (V : World) : Prop where
  box : ∃ Av ac, Whole V (w0.heap.size + 1) 47 #[.slice Av pre.length ac] ∧ V.ownsRow w0.heap.size 70 3 (.slice Av pre.length ac) pre.length (fsFlat (l.take pre.length))
  xr : Whole V w0.heap.size 44 cd
  bl : Whole V (w0.heap.size + 2) 4 #[.bool b]
  low : Below w0.heap.size w0 V
  le : pre.length ≤ l.length
  bs : Whole V g8 41 #[.slice P m cc]
  bn : Whole V (g8 + 1) 3 #[.int .i64 (u : Int)]
theorem foI_own {g8 X : Nat} {w0 : World} {b : Bool} {cd : Array Value} {l : List Fs} {P : Option Addr} {m cc u : Nat} (hX : w0.heap.size ≤ X) : OwnFrom X (FoI g8 w0 b cd l P m cc u) := by
  rintro pre V V' row ⟨⟨Av, ac, h1, h2⟩, h3, h4, h5, h6, h7, h8⟩ hg hr
  have hr' := fun r e => (hr r e).2
  exact ⟨⟨Av, ac, whole_obj h1 hg hr', own_obj h2 hg hr'⟩, whole_obj h3 hg hr', whole_obj h4 hg hr', h5.grown hg h5.size (fun r e => Nat.le_trans hX (hr r e).1), h6, whole_obj h7 hg hr', whole_obj h8 hg hr'⟩
theorem fo_next {g8 X : Nat} {w0 : World} {b : Bool} {cd : Array Value} {l : List Fs} {P : Option Addr} {m cc u : Nat} {pre : List Nat} {V w7 : World} {Av A7 : Option Addr} {ac c7 : Nat} {news : List Value} (x : Nat)
    (hi : FoI g8 w0 b cd l P m cc u pre V) (hrow : V.ownsRow w0.heap.size 70 3 (.slice Av pre.length ac) pre.length (fsFlat (l.take pre.length))) (hw : Whole V (w0.heap.size + 1) 47 #[.slice Av pre.length ac])
    (x7 : Whole w7 (w0.heap.size + 1) 47 #[.slice Av pre.length ac]) (own7 : w7.ownsRow w0.heap.size 70 3 (.slice A7 (pre.length + 1) c7) (pre.length + 1) (fsFlat (l.take pre.length) ++ news)) (hT : fsFlat (l.take (pre.length + 1)) = fsFlat (l.take pre.length) ++ news)
    (B7 : ∀ k, k < V.heap.size → (Value.slice Av pre.length ac).ownBlock ≠ some k → w7.heap[k]? = V.heap[k]?) (low7 : Below w0.heap.size V w7) (hlt : w0.heap.size + 2 < g8) (hple : pre.length + 1 ≤ l.length) :
    KeepsFrom X V (w7.setCell ⟨w0.heap.size + 1, 0, none⟩ (.slice A7 (pre.length + 1) c7)) ∧ KpC g8 (g8 + 1) V (w7.setCell ⟨w0.heap.size + 1, 0, none⟩ (.slice A7 (pre.length + 1) c7)) ∧ FoI g8 w0 b cd l P m cc u (pre ++ [x]) (w7.setCell ⟨w0.heap.size + 1, 0, none⟩ (.slice A7 (pre.length + 1) c7)) := by
  have hl : (pre ++ [x]).length = pre.length + 1 := by simp
  have hsz : (w7.setCell ⟨w0.heap.size + 1, 0, none⟩ (.slice A7 (pre.length + 1) c7)).heap.size = w7.heap.size := by simp
  have hs : ∀ k, k < V.heap.size → k ≠ w0.heap.size + 1 → (Value.slice Av pre.length ac).ownBlock ≠ some k → (w7.setCell ⟨w0.heap.size + 1, 0, none⟩ (.slice A7 (pre.length + 1) c7)).heap[k]? = V.heap[k]? := fun k h1 h2 h3 => (Below.heap_setCell w7 ⟨w0.heap.size + 1, 0, none⟩ _ k h2).trans (B7 k h1 h3)
  have lowF : Below w0.heap.size V (w7.setCell ⟨w0.heap.size + 1, 0, none⟩ (.slice A7 (pre.length + 1) c7)) := low7.setCell (p := ⟨w0.heap.size + 1, 0, none⟩) (Nat.le_succ _) _
  have hbs : ∀ {g t : Nat} {cs : Array Value}, Whole V g t cs → t ≠ 70 → g ≠ w0.heap.size + 1 → Whole (w7.setCell ⟨w0.heap.size + 1, 0, none⟩ (.slice A7 (pre.length + 1) c7)) g t cs := fun h ht hn => (hs _ h.lt hn (whole_row_ne13 h ht hrow)).trans h
  refine ⟨⟨by rw [hsz]; exact low7.size, fun k o _ hk ho => ?_⟩, ⟨lowF.mono (Nat.zero_le _), hs _ hi.bs.lt (by omega) (whole_row_ne13 hi.bs (by decide) hrow), hs _ hi.bn.lt (by omega) (whole_row_ne13 hi.bn (by decide) hrow)⟩, ⟨?_, hbs hi.xr (by decide) (by omega), hbs hi.bl (by decide) (by omega), hi.low.trans lowF, by rw [hl]; exact hple, hbs hi.bs (by decide) (by omega), hbs hi.bn (by decide) (by omega)⟩⟩
  · refine (hs k (Array.getElem?_eq_some_iff.1 hk).1 (fun e => ?_) (own_ne_obj hrow hk ho)).trans hk
    subst e
    unfold Whole at hw
    rw [hw] at hk
    cases hk
    cases ho
  · rw [hl, hT]
    exact ⟨A7, c7, x7.set_ 0 _, own7.kept (grownBy_setCell1 w7 (w0.heap.size + 1) 0 _) (.inr (whole_row_ne13 x7 (by decide) own7))⟩
theorem fsinfo : (Tryz.prog.info? 70).map (fun i => (i.zero, i.size, i.bytes)) = some (some (.agg #[.int .u16 0, .bool false, .int .u32 0]), 3, 8) := by kernel_rfl
set_option maxRecDepth 100000 in
set_option maxHeartbeats 16000000 in
theorem fof_false (d : List UInt8) (hx : isW ⟨192, 0, d, []⟩ = true) (A : Option Addr) (c : Nat) (K : Option Addr) (k : Nat) (w : World) (h : Chunk w w.heap.size A c K k ⟨192, 0, d, []⟩) (hh : Handle w) :
    Calls Tryz.prog 25 #[.agg #[.int .u8 192, .int .u8 0, .slice A d.length c, .slice K 0 k]] w (OfW ⟨192, 0, d, []⟩ w) := by
  have hf : CkFine ⟨192, 0, d, []⟩ := ⟨by have := (isW_all hx).2.2.2.1; simp only at this ⊢; omega, by simp, by simp⟩
  have hit : itW ⟨192, 0, d, []⟩ = false := rfl
  have b0 : Below w.heap.size w (((w.alloc (.cells #[.int .u8 192, .int .u8 0, .slice A d.length c, .slice K 0 k] 44)).alloc (.cells #[.slice none 0 0] 47)).alloc (.cells #[.bool false] 4)) := (((Below.refl _ w).alloc (Nat.le_refl _) _).alloc (by simp) _).alloc (by simp; omega) _
  have x0 : Whole (((w.alloc (.cells #[.int .u8 192, .int .u8 0, .slice A d.length c, .slice K 0 k] 44)).alloc (.cells #[.slice none 0 0] 47)).alloc (.cells #[.bool false] 4)) w.heap.size 44 #[.int .u8 192, .int .u8 0, .slice A d.length c, .slice K 0 k] := ((Whole.new w 44 #[.int .u8 192, .int .u8 0, .slice A d.length c, .slice K 0 k]).alloc (.cells #[.slice none 0 0] 47)).alloc (.cells #[.bool false] 4)
  have y0 : Whole (((w.alloc (.cells #[.int .u8 192, .int .u8 0, .slice A d.length c, .slice K 0 k] 44)).alloc (.cells #[.slice none 0 0] 47)).alloc (.cells #[.bool false] 4)) (w.heap.size + 1) 47 #[.slice none 0 0] := by
    have y := Whole.new (w.alloc (.cells #[.int .u8 192, .int .u8 0, .slice A d.length c, .slice K 0 k] 44)) 47 #[.slice none 0 0]
    rw [World.size_alloc] at y
    exact y.alloc (.cells #[.bool false] 4)
  have z0 : Whole (((w.alloc (.cells #[.int .u8 192, .int .u8 0, .slice A d.length c, .slice K 0 k] 44)).alloc (.cells #[.slice none 0 0] 47)).alloc (.cells #[.bool false] 4)) (w.heap.size + 2) 4 #[.bool false] := by
    have y := Whole.new ((w.alloc (.cells #[.int .u8 192, .int .u8 0, .slice A d.length c, .slice K 0 k] 44)).alloc (.cells #[.slice none 0 0] 47)) 4 #[.bool false]
    rw [World.size_alloc, World.size_alloc] at y
    exact y
  have HC := ccheck_any ⟨192, 0, d, []⟩ hf A c K k _ (h.on b0) (hh.below b0 hh.lt)
  rw [(isW_parts hx).2] at HC
  have e0 : codeE 0 = .nilIface := rfl
  rw [e0] at HC
  obtain ⟨_, _, _, hd1, hd2, hd3⟩ := isW_all hx
  rw [hit] at hd3
  simp only at hd1 hd2 hd3
  have hOt : ofWt ⟨192, 0, d, []⟩ = nrd d 0 4 := by unfold ofWt; rw [if_pos hx]
  have hOl : ofWl ⟨192, 0, d, []⟩ = fwL false d := by unfold ofWl; rw [if_pos hx, hit]
  have L0 : Lies w w.heap.size A (d.map bv) := h.data
  have hdc : d.length ≤ c := h.dc
  have hdm := h.dm
  obtain ⟨ad, hA, hadb, _⟩   := L0 (fun e => by rw [List.map_eq_nil_iff] at e; rw [e] at hd2; simp at hd2)
  subst hA
  unfold OfW
  rw [hOt, hOl, hx]
  have hz : w.heap.size + 2 < (((w.alloc (.cells #[.int .u8 192, .int .u8 0, .slice (some ad) d.length c, .slice K 0 k] 44)).alloc (.cells #[.slice none 0 0] 47)).alloc (.cells #[.bool false] 4)).heap.size := by simp
  have HB := Lib.hid b0
  obtain ⟨l, hl⟩ : ∃ l, l = fwL false d := ⟨_, rfl⟩
  have HL := Lib.hid hl
  have HAT : Hid (∀ j, j < l.length → l[j]? = some (skN false ((d.drop (4 + 4 * j)).take 4))) := Lib.hid (fun j hj => by rw [hl] at hj ⊢; exact fwL_at hj)
  rw [← hl] at hd3 ⊢
  have HD3 : Hid (d.length = 4 + 4 * l.length) := Lib.hid hd3
  clear h hf b0 hh hx hOt hOl e0 hit hl hd3
  generalize hwa : ((w.alloc (.cells #[.int .u8 192, .int .u8 0, .slice (some ad) d.length c, .slice K 0 k] 44)).alloc (.cells #[.slice none 0 0] 47)).alloc (.cells #[.bool false] 4) = wa at *
  have HW := Lib.hid hwa
  clear hwa
  simp only [ckV] at HC
  refine (callsIn_wide (n := 6)).1 ?_
  refine callsIn_of_wp_marks Tryz.func25 rfl trivial ?_ rfl
  simp only [Tryz.ntmps25, List.size_toArray, List.length_cons, List.length_nil, Nat.reduceAdd, Nat.reduceSub, Array.replicate_succ, Array.replicate_zero, List.push_toArray, List.append_toArray, List.nil_append, List.cons_append]
  gi_upto_region 2 with fail
  rw [HW.out]
  clear HW
  obtain ⟨q0, q1, q2, q3⟩ := wh4 x0
  have t0 := z0.cell 0
  gi_wp2_with fail
  refine ⟨trivial, (callsIn_wide.2 HC).mono ?_⟩
  rintro e w2 ⟨rfl, b2⟩
  have x2 := x0.below b2 (by omega)
  have y2 := y0.below b2 (by omega)
  have z2 := z0.below b2 (by omega)
  have B2 := HB.out.trans (b2.mono (by omega))
  have L2 : Lies w2 w2.heap.size (some ad) (d.map bv) := (L0.below B2).more B2.size
  clear q0 q1 q2 q3 t0 x0 y0 z0 HC HB b2 hadb
  gi_upto_region 4 with fail
  have q2 := (wh4 x2).2.2.1
  have t0 : w2.cell? ⟨w.heap.size + 2, 0, none⟩ = some (.bool false) := z2.cell 0
  have hc4 : (4 : Int) ≤ (c : Int) := by omega
  have hd4i : (4 : Int) ≤ (d.length : Int) := by omega
  have hw2 : w.heap.size + 2 < w2.heap.size := z2.lt
  obtain ⟨P, hP⟩ : ∃ P, P = (if c = 4 then some ad else some (⟨ad.block, ad.off + 4, none⟩ : Addr)) := ⟨_, rfl⟩
  have HP := Lib.hid hP
  have HLP : Hid (∀ X, Below w.heap.size w X → Lies X w.heap.size P ((d.drop 4).map bv)) := Lib.hid (fun X hX => by
    have h4 := (L0.below hX).drop (k := 4) (c := c) (by simpa using hdc)
    rw [← List.map_drop] at h4
    rw [hP]
    by_cases hc : c = 4
    · rw [if_pos hc] at h4 ⊢; exact h4
    · rw [if_neg hc] at h4 ⊢
      rw [Option.map_some, add_pos (by omega)] at h4
      exact h4)
  clear hP
  have KS : Hid (∀ V, Below w2.heap.size w2 V → V.cell? ⟨w.heap.size, 2, none⟩ = some (.slice (some ad) d.length c) ∧ V.cell? ⟨w.heap.size + 2, 0, none⟩ = some (.bool false)) := Lib.hid (fun V hV => ⟨(hV.cell (p := ⟨w.heap.size, 2, none⟩) (by show w.heap.size < _; omega)).trans q2, (hV.cell (p := ⟨w.heap.size + 2, 0, none⟩) hw2).trans t0⟩)
  have HSZ : ∀ V, Calls Tryz.prog 72 #[.bool false] V fun e w' => e = .returned (.int .i64 4) ∧ V = w' := fun V => sizeOf_any false V
  have HCH : ∀ V, Calls Tryz.prog 71 #[.slice P (d.length - 4) (c - 4), .int .i64 4] V _ := fun V => callsIn_wide.1 (schunk_in 5 P (d.length - 4) (c - 4) 4 (by omega) V)
  clear q2 t0 hw2
  refine wpIn_onlyN (wpIn_wide.2 ?_)
  refine wp_region_held_drew (S := (fun V => V.cell? ⟨w.heap.size, 2, none⟩ = some (.slice (some ad) d.length c) ∧ V.cell? ⟨w.heap.size + 2, 0, none⟩ = some (.bool false))) (by kernel_rfl) (KS.out _ (below_drew (Below.refl _ _))) (fun hHeld => ?_)
  refine take_at (i := 0) (v := ?_) (some 22) rfl (by kernel_rfl) (by kernel_rfl) (by kernel_rfl) (fun _ _ _ h => h) (by kernel_rfl) (Or.inl ⟨by kernel_rfl, ?_⟩) (by assumption) ?_
  rotate_left
  · (intro w hSw; (try dsimp only at hSw); go_simp <;> with_reducible rfl)
  simp only [Act.put, List.setIfInBounds_toArray, List.set_cons_zero, List.set_cons_succ]
  refine take_at (i := 1) (v := ?_) (some 23) rfl (by kernel_rfl) (by kernel_rfl) (by kernel_rfl) (fun _ _ _ h => h) (by kernel_rfl) (Or.inl ⟨by kernel_rfl, ?_⟩) (by assumption) ?_
  rotate_left
  · (intro w hSw; (try dsimp only at hSw); go_simp <;> with_reducible rfl)
  simp only [Act.put, List.setIfInBounds_toArray, List.set_cons_zero, List.set_cons_succ]
  refine take_at (i := 2) (v := ?_) (some 24) rfl (by kernel_rfl) (by kernel_rfl) (by kernel_rfl) (fun _ _ _ h => h) (by kernel_rfl) (Or.inl ⟨by kernel_rfl, ?_⟩) (by assumption) ?_
  rotate_left
  · (intro w hSw; (try dsimp only at hSw); go_simp <;> with_reducible rfl)
  simp only [Act.put, List.setIfInBounds_toArray, List.set_cons_zero, List.set_cons_succ]
  refine take_at (i := 3) (v := ?_) (some 25) rfl (by kernel_rfl) (by kernel_rfl) (by kernel_rfl) (fun _ _ _ h => h) (by kernel_rfl) (Or.inl ⟨by kernel_rfl, ?_⟩) (by assumption) ?_
  rotate_left
  · (intro w hSw; (try dsimp only at hSw); go_simp <;> with_reducible rfl)
  simp only [Act.put, List.setIfInBounds_toArray, List.set_cons_zero, List.set_cons_succ]
  refine wpAnyH_ready (rs := [4]) (by kernel_rfl) (by simp) ?_
  refine AllReadyH.cons rfl (fun K hK => ?_) AllReadyH.nil
  rw [← HP.out]
  go_simp
  (with_reducible refine (HSZ w2.drew).mono ?_); rintro e w3 ⟨rfl, rfl⟩
  go_wp2_with fail
  clear hHeld
  refine hK.out _ _ (KS.out _ (below_drew (Below.refl _ _))) (fun hHeld => ?_)
  clear hK K
  try simp only [Act.put, List.setIfInBounds_toArray, List.set_cons_zero, List.set_cons_succ]
  refine wpAnyH_ready (rs := [5]) (by kernel_rfl) (by simp) ?_
  refine AllReadyH.cons rfl (fun K hK => ?_) AllReadyH.nil
  go_simp
  (with_reducible refine (HCH w2.drew).mono ?_); rintro e w3 ⟨rfl, rfl⟩
  go_wp2_with fail
  clear hHeld
  refine hK.out _ _ (KS.out _ (((below_drew (Below.refl _ w2)).alloc (Nat.le_refl _) _).alloc (by simp) _)) (fun hHeld => ?_)
  clear hK K
  try simp only [Act.put, List.setIfInBounds_toArray, List.set_cons_zero, List.set_cons_succ]
  refine wpAnyH_done (by kernel_rfl) ?_ _
  simp only [onlyN]
  have bb : Below w2.heap.size w2 (((w2.alloc (.cells #[.slice P (d.length - 4) (c - 4)] 41)).alloc (.cells #[.int .i64 4] 3)).drew) := below_drew (((Below.refl _ w2).alloc (Nat.le_refl _) _).alloc (by simp) _)
  have s9 : (((w2.alloc (.cells #[.slice P (d.length - 4) (c - 4)] 41)).alloc (.cells #[.int .i64 4] 3)).drew).heap.size = w2.heap.size + 2 := by show ((w2.alloc _).alloc _).heap.size = _; simp
  have vS : Whole (((w2.alloc (.cells #[.slice P (d.length - 4) (c - 4)] 41)).alloc (.cells #[.int .i64 4] 3)).drew) w2.heap.size 41 #[.slice P (d.length - 4) (c - 4)] := (Whole.new w2 41 #[.slice P (d.length - 4) (c - 4)]).alloc (.cells #[.int .i64 4] 3)
  have vN : Whole (((w2.alloc (.cells #[.slice P (d.length - 4) (c - 4)] 41)).alloc (.cells #[.int .i64 4] 3)).drew) (w2.heap.size + 1) 3 #[.int .i64 4] := by
    have y := Whole.new (w2.alloc (.cells #[.slice P (d.length - 4) (c - 4)] 41)) 3 #[.int .i64 4]
    rw [World.size_alloc] at y
    exact y
  have hw2 : w.heap.size + 2 < w2.heap.size := z2.lt
  have I0 : FoI w2.heap.size w false #[.int .u8 192, .int .u8 0, .slice (some ad) d.length c, .slice K 0 k] l P (d.length - 4) (c - 4) 4 [] (((w2.alloc (.cells #[.slice P (d.length - 4) (c - 4)] 41)).alloc (.cells #[.int .i64 4] 3)).drew) := ⟨⟨none, 0, y2.below bb (by omega), World.ownsRow_nil _ _ _ _⟩, x2.below bb (by omega), z2.below bb (by omega), B2.trans (bb.mono (by omega)), Nat.zero_le _, vS, vN⟩
  have hPA : 0 < d.length - 4 → ∃ ad', P = some ad' := fun _ => by
    have e := HP.out
    split at e <;> exact ⟨_, e⟩
  clear hHeld KS HSZ HCH y2 x2 z2 bb L2
  generalize (((w2.alloc (.cells #[.slice P (d.length - 4) (c - 4)] 41)).alloc (.cells #[.int .i64 4] 3)).drew) = W9 at *
  gi_wp2_with fail
  have hs9 : w.heap.size + 3 ≤ W9.heap.size := by omega
  refine each_leave .ret (F := Fence.wide) (n := 6) (P := Tryz.prog) rfl (by omega) (gf := 125) (lb := #[.pointer (some ⟨w2.heap.size, 0, none⟩), .pointer (some ⟨w2.heap.size + 1, 0, none⟩)]) rfl trivial (enters_of Tryz.func125 (by kernel_rfl) rfl)
    (encs := encCh P 4 (d.length - 4)) (Kp := KpC w2.heap.size (w2.heap.size + 1)) (G := fun _ _ => False) (Row := fun pre _ x => RowCh 4 (d.length - 4) pre x) (Fin := FinCh 4 (d.length - 4)) (FinX := fun q => RowCh 4 (d.length - 4) q.1 q.2) (N := d.length - 4 + 1) ?hseq (fun _ => rfl)
    KpC.trans ?hKb (FoI w2.heap.size w false #[.int .u8 192, .int .u8 0, .slice (some ad) d.length c, .slice K 0 k] l P (d.length - 4) (c - 4) 4) (foI_own (by omega)) (fun _ _ => False) (fun _ _ _ _ h _ _ => h) I0 (fun _ _ _ _ h => h.elim)
    (fun pre x a' V => a' = { tmps := #[.agg #[.int .u8 192, .int .u8 0, .slice (some ad) d.length c, .slice K 0 k], .pointer (some ⟨w.heap.size, 0, none⟩), .int .u32 0, .pointer (some ⟨w.heap.size + 1, 0, none⟩), .bool false, .pointer (some ⟨w.heap.size + 2, 0, none⟩), .slice (P.map (·.add x)) (min 4 (d.length - 4 - x)) (min 4 (d.length - 4 - x)), .pointer (some ⟨w.heap.size, 0, none⟩), .int .u8 192, .bool false, .bool false, .bool true, .bool true, .pointer (some ⟨w.heap.size, 0, none⟩), .int .u8 192, .bool false, .bool false, .bool false, .agg #[.int .u8 192, .int .u8 0, .slice (some ad) d.length c, .slice K 0 k], .nilIface, .bool false, .bool false, .pointer (some ⟨w.heap.size, 2, none⟩), .slice (some ad) d.length c, .slice P (d.length - 4) (c - 4), .bool false, .int .i64 4, .func (.func 125) #[] #[.pointer (some ⟨w2.heap.size, 0, none⟩), .pointer (some ⟨w2.heap.size + 1, 0, none⟩)], .slice (P.map (·.add x)) (min 4 (d.length - 4 - x)) (min 4 (d.length - 4 - x)), undef, undef, undef, undef, undef, undef, undef, undef, undef, undef, undef, undef, undef], defers := [] } ∧ FoI w2.heap.size w false #[.int .u8 192, .int .u8 0, .slice (some ad) d.length c, .slice K 0 k] l P (d.length - 4) (c - 4) 4 pre V ∧ RowCh 4 (d.length - 4) pre x) ?hAx
    ?assign ?body ?done ?stop
  case hseq => exact chunk8_comes w2.heap.size (w2.heap.size + 1) P (d.length - 4) (c - 4) 4 (by omega) (by omega) (by omega) (by omega) (by omega) hPA W9 vS vN
  case hKb =>
    intro V l o o' hl _ _
    exact KpC.put V l o' (by omega) (by omega)
  case hAx =>
    rintro pre x a' s X Y row ⟨ha, hi, hr1⟩ hg hr
    exact ⟨ha, foI_own (by omega) _ _ _ _ hi hg hr, hr1⟩
  case assign =>
    intro l' pre x V K hi hrx hK
    simp only [encCh]
    gi_wp2
    exact hK _ _ (KeepsFrom.refl _ _) ⟨Below.refl _ _, rfl, rfl⟩ ⟨rfl, hi, hrx⟩
  case stop => exact fun _ _ _ _ _ h _ => h.elim
  case done =>
    rintro D' xs V hD hF hi hKD
    obtain ⟨Av, ac, hw, hrow⟩ := hi.box
    have hxl : xs.length = l.length := by
      have h1 := hi.le
      have h2 := HD3.out
      unfold FinCh at hF
      omega
    rw [hxl] at hw hrow
    rw [List.take_length] at hrow
    have q2 := (wh4 hi.xr).2.2.1
    have q1 : V.cell? ⟨w.heap.size + 1, 0, none⟩ = some (.slice Av l.length ac) := hw.cell 0
    have HI := Lib.hid hi
    have HR := Lib.hid hrow
    have hVs : w.heap.size + 3 ≤ V.heap.size := by have := hi.bn.lt; omega
    have KS : Hid (∀ X, Below V.heap.size V X → X.cell? ⟨w.heap.size, 2, none⟩ = some (.slice (some ad) d.length c) ∧ X.cell? ⟨w.heap.size + 1, 0, none⟩ = some (.slice Av l.length ac)) := Lib.hid (fun X hX => ⟨(hX.cell (p := ⟨w.heap.size, 2, none⟩) (by show w.heap.size < _; omega)).trans q2, (hX.cell (p := ⟨w.heap.size + 1, 0, none⟩) (by show w.heap.size + 1 < _; omega)).trans q1⟩)
    have HN : Hid (∀ X, Below V.heap.size V X → Calls Tryz.prog 74 #[.int .i64 4, .slice (some ad) 4 c] X fun e w' => ∃ A' c', e = .returned (.slice A' 1 c') ∧ w'.ownsRow X.heap.size 22 1 (.slice A' 1 c') 1 ([nrd d 0 4].map uv) ∧ Below X.heap.size X w') := Lib.hid (fun X hX => by
      have hb := hi.low.trans (hX.mono (by omega))
      have h1 := num_len 4 rfl (some ad) c (d.take 4) 4 1 (by rw [List.length_take]; omega) rfl (by omega) (by omega) X (by rw [List.map_take]; exact ((L0.below hb).more hb.size).take _)
      rw [nums4_4' hd2] at h1
      exact h1)
    have hDne : D' ≠ w.heap.size + 1 := fun e => by
      have h9 := hw
      unfold Whole at h9
      rw [e, h9] at hKD
      cases hKD
    clear hi hF hxl hrow q1 q2 HAT HL HP HLP
    gi_upto_region 7 with fail
    refine wpIn_onlyN (wpIn_wide.2 ?_)
    refine wp_region_held_drew (S := (fun X => X.cell? ⟨w.heap.size, 2, none⟩ = some (.slice (some ad) d.length c) ∧ X.cell? ⟨w.heap.size + 1, 0, none⟩ = some (.slice Av l.length ac))) (by kernel_rfl) (KS.out _ (below_drew (Below.refl _ _))) (fun hHeld => ?_)
    refine take_at (i := 0) (v := ?_) (some 35) rfl (by kernel_rfl) (by kernel_rfl) (by kernel_rfl) (fun _ _ _ h => h) (by kernel_rfl) (Or.inl ⟨by kernel_rfl, ?_⟩) (by assumption) ?_
    rotate_left
    · (intro w hSw; (try dsimp only at hSw); go_simp <;> with_reducible rfl)
    simp only [Act.put, List.setIfInBounds_toArray, List.set_cons_zero, List.set_cons_succ]
    refine take_at (i := 1) (v := ?_) (some 36) rfl (by kernel_rfl) (by kernel_rfl) (by kernel_rfl) (fun _ _ _ h => h) (by kernel_rfl) (Or.inl ⟨by kernel_rfl, ?_⟩) (by assumption) ?_
    rotate_left
    · (intro w hSw; (try dsimp only at hSw); go_simp <;> with_reducible rfl)
    simp only [Act.put, List.setIfInBounds_toArray, List.set_cons_zero, List.set_cons_succ]
    refine take_at (i := 2) (v := ?_) (some 37) rfl (by kernel_rfl) (by kernel_rfl) (by kernel_rfl) (fun _ _ _ h => h) (by kernel_rfl) (Or.inl ⟨by kernel_rfl, ?_⟩) (by assumption) ?_
    rotate_left
    · (intro w hSw; (try dsimp only at hSw); go_simp <;> with_reducible rfl)
    simp only [Act.put, List.setIfInBounds_toArray, List.set_cons_zero, List.set_cons_succ]
    refine take_at (i := 6) (v := ?_) (some 41) rfl (by kernel_rfl) (by kernel_rfl) (by kernel_rfl) (fun _ _ _ h => h) (by kernel_rfl) (Or.inl ⟨by kernel_rfl, ?_⟩) (by assumption) ?_
    rotate_left
    · (intro w hSw; (try dsimp only at hSw); go_simp <;> with_reducible rfl)
    simp only [Act.put, List.setIfInBounds_toArray, List.set_cons_zero, List.set_cons_succ]
    refine wpAnyH_ready (rs := [3]) (by kernel_rfl) (by simp) ?_
    refine AllReadyH.cons rfl (fun K hK => ?_) AllReadyH.nil
    go_simp
    (with_reducible refine (HN.out V.drew (below_drew (Below.refl _ _))).mono ?_); rintro e w5 ⟨A5, c5, rfl, own5, b5⟩
    go_wp2_with fail
    obtain ⟨g5, rfl, _, _, hcl⟩ := own_cells2 own5 (by omega)
    have d5 := hcl 0 (uv (nrd d 0 4)) rfl
    have B5 : Below V.heap.size V w5 := (below_drew (Below.refl _ _)).trans b5
    have y5 := hw.below B5 hw.lt
    clear hcl own5 b5
    clear hHeld
    refine hK.out _ _ (KS.out _ B5) (fun hHeld => ?_)
    clear hK K
    try simp only [Act.put, List.setIfInBounds_toArray, List.set_cons_zero, List.set_cons_succ]
    refine take_at (i := 4) (v := ?_) (some 39) rfl (by kernel_rfl) (by kernel_rfl) (by kernel_rfl) (fun _ _ _ h => h) (by kernel_rfl) (Or.inl ⟨by kernel_rfl, ?_⟩) (by assumption) ?_
    rotate_left
    · (intro w hSw; (try dsimp only at hSw); go_simp <;> with_reducible rfl)
    simp only [Act.put, List.setIfInBounds_toArray, List.set_cons_zero, List.set_cons_succ]
    refine wpAnyH_ready (rs := [5]) (by kernel_rfl) (by simp) ?_
    refine AllReadyH.cons rfl (fun K hK => ?_) AllReadyH.nil
    go_simp
    clear hHeld
    refine hK.out _ _ (KS.out _ B5) (fun hHeld => ?_)
    clear hK K
    try simp only [Act.put, List.setIfInBounds_toArray, List.set_cons_zero, List.set_cons_succ]
    refine take_at (i := 7) (v := ?_) (some 2) rfl (by kernel_rfl) (by kernel_rfl) (by kernel_rfl) (fun _ _ _ h => h) (by kernel_rfl) (Or.inl ⟨by kernel_rfl, ?_⟩) (by assumption) ?_
    rotate_left
    · (intro w hSw; (try dsimp only at hSw); go_simp <;> with_reducible rfl)
    simp only [Act.put, List.setIfInBounds_toArray, List.set_cons_zero, List.set_cons_succ]
    refine wpAnyH_ready (rs := [8]) (by kernel_rfl) (by simp) ?_
    refine AllReadyH.cons rfl (fun K hK => ?_) AllReadyH.nil
    have f0 := y5.frozen 0
    have e0 : w5.cell? ⟨w.heap.size + 1, 0, none⟩ = some (.slice Av l.length ac) := y5.cell 0
    go_simp
    clear hHeld
    refine hK.out _ _ ⟨(World.cell?_setCell_far _ _ _ _ (by show w.heap.size + 1 ≠ w.heap.size; omega)).trans (KS.out _ B5).1, (y5.set_ 0 (.slice Av l.length ac)).cell 0⟩ (fun hHeld => ?_)
    clear hK K
    try simp only [Act.put, List.setIfInBounds_toArray, List.set_cons_zero, List.set_cons_succ]
    refine take_at (i := 9) (v := ?_) (some 4) rfl (by kernel_rfl) (by kernel_rfl) (by kernel_rfl) (fun _ _ _ h => h) (by kernel_rfl) (Or.inl ⟨by kernel_rfl, ?_⟩) (by assumption) ?_
    rotate_left
    · (intro w hSw; (try dsimp only at hSw); go_simp <;> with_reducible rfl)
    simp only [Act.put, List.setIfInBounds_toArray, List.set_cons_zero, List.set_cons_succ]
    refine wpAnyH_done (by kernel_rfl) ?_ _
    simp only [onlyN]
    gi_wp2_with fail
    have y6 := y5.set_ 0 (.slice Av l.length ac)
    have r5 := own_belowR HR.out B5
    have r6 := r5.kept (grownBy_setCell1 w5 (w.heap.size + 1) 0 (.slice Av l.length ac)) (.inr (whole_row_ne13 y5 (by decide) r5))
    have hK4 := ((Below.heap_setCell w5 ⟨w.heap.size + 1, 0, none⟩ (.slice Av l.length ac) D' hDne).trans (B5.block D' (Array.getElem?_eq_some_iff.1 hKD).1)).trans hKD
    have hl6 : Below w.heap.size w (w5.setCell ⟨w.heap.size + 1, 0, none⟩ (.slice Av l.length ac)) := (HI.out.low.trans (B5.mono (by omega))).setCell (p := ⟨w.heap.size + 1, 0, none⟩) (Nat.le_succ _) _
    generalize w5.setCell ⟨w.heap.size + 1, 0, none⟩ (.slice Av l.length ac) = X at *
    refine ⟨by simp, .inl ⟨_, _, rfl, run_takeDeferred hK4, ?_⟩⟩
    have hp := grownBy_putObj' X D' (.deferred none)
    have hpo : ∀ r, some D' = some r → ∃ o : Obj, X.heap[r]? = some o ∧ o.isCells = false := fun r e => by cases e; exact ⟨_, hK4, rfl⟩
    have y7 := whole_obj y6 hp hpo
    have r7 := own_obj r6 hp hpo
    have hl7 := hl6.grown hp hl6.size (fun r e => by cases e; omega)
    refine ⟨_, results_tct rfl _ _ (w.heap.size + 1) 47 _ _ rfl y7 Tryz.underlying47 rfl, ?_⟩
    exact ⟨hl7, Av, ac, rfl, own_liesW r7 (fun h0 => List.length_eq_zero_iff.1 (by rw [fsFlat_len]; omega)), (own_capG r7).1, (own_capG r7).2⟩
  case body =>
    rintro l' pre x a' V ⟨rfl, hi, hx1, hx2⟩ hlen
    obtain ⟨Av, ac, hw, hrow⟩ := hi.box
    have hdl := HD3.out
    have hpG : pre.length < l.length := by omega
    have hmin : min 4 (d.length - 4 - x) = 4 := by omega
    obtain ⟨s, hs, hse⟩ : ∃ s, l[pre.length]? = some s ∧ s = skN false ((d.drop (4 + 4 * pre.length)).take 4) := ⟨_, HAT.out _ hpG, rfl⟩
    have KK : Hid (∀ X, Below V.heap.size V X → Calls Tryz.prog 73 #[.bool false, .slice (P.map (·.add x)) 4 4] X fun e w' => e = .returned (fsV s) ∧ Below X.heap.size X w') := Lib.hid (fun X hX => by
      have hb := hi.low.trans (hX.mono hi.low.size)
      have hL := ((HLP.out X hb).drop (k := x) (c := c) (by rw [List.length_map, List.length_drop]; omega)).take 4
      rw [if_neg (by omega), ← List.map_drop, ← List.map_take, List.drop_drop, show 4 + x = 4 + 4 * pre.length by omega] at hL
      rw [hse]
      exact skip_f _ _ _ X (by rw [List.length_take, List.length_drop]; omega) (Nat.le_refl _) (hL.more hb.size))
    have HT : Hid (fsFlat (l.take (pre.length + 1)) = fsFlat (l.take pre.length) ++ [hv s.st, .bool s.un, uv s.sq]) := Lib.hid (by rw [take_some hs, fsFlat_snoc])
    have HPL := Lib.hid (show pre.length + 1 ≤ l.length from hpG)
    have hnb : pre.length ≤ 100000 := by omega
    have HX := Lib.hid hx1
    have HI := Lib.hid hi
    have hVs : w.heap.size + 3 ≤ V.heap.size := by have := hi.bn.lt; omega
    have KS : Hid (∀ X, Below V.heap.size V X → X.cell? ⟨w.heap.size + 2, 0, none⟩ = some (.bool false)) := Lib.hid (fun X hX => ((hi.bl.below hX hi.bl.lt).cell 0))
    have KL : Hid (∀ X, Below V.heap.size V X → X.cell? ⟨w.heap.size + 1, 0, none⟩ = some (.slice Av pre.length ac)) := Lib.hid (fun X hX => ((hw.below hX hw.lt).cell 0))
    obtain ⟨st, un, sq⟩ := s
    simp only [fsV] at KK HT
    simp only [hmin]
    generalize P.map (·.add x) = Q at *
    clear hs hse hx1 hi hdl hpG hmin HLP HP HAT hx2
    gi_upto_region 6 with fail
    refine region_round_held (S := (fun X => X.cell? ⟨w.heap.size + 2, 0, none⟩ = some (.bool false))) (by kernel_rfl) (by kernel_rfl) (by rintro ⟨a, w, h⟩; exact h) (KS.out _ (below_drew (Below.refl _ _))) (fun hHeld => ?_)
    refine take_at (i := 1) (v := ?_) (some 30) rfl (by kernel_rfl) (by kernel_rfl) (by kernel_rfl) (fun _ _ _ h => h) (by kernel_rfl) (Or.inl ⟨by kernel_rfl, ?_⟩) (by assumption) ?_
    rotate_left
    · (intro w hSw; (try dsimp only at hSw); go_simp <;> with_reducible rfl)
    simp only [Act.put, List.setIfInBounds_toArray, List.set_cons_zero, List.set_cons_succ]
    refine take_at (i := 2) (v := ?_) (some 31) rfl (by kernel_rfl) (by kernel_rfl) (by kernel_rfl) (fun _ _ _ h => h) (by kernel_rfl) (Or.inl ⟨by kernel_rfl, ?_⟩) (by assumption) ?_
    rotate_left
    · (intro w hSw; (try dsimp only at hSw); go_simp <;> with_reducible rfl)
    simp only [Act.put, List.setIfInBounds_toArray, List.set_cons_zero, List.set_cons_succ]
    refine wpAnyH_ready (rs := [0, 3]) (by kernel_rfl) (by simp) ?_
    refine AllReadyH.cons rfl (fun K hK => ?_) (AllReadyH.cons rfl (fun K hK => ?_) AllReadyH.nil)
    · have l0 := KL.out V.drew (below_drew (Below.refl _ _))
      go_simp
      clear l0
      clear hHeld
      refine hK.out _ _ (KS.out _ (below_drew (Below.refl _ _))) (fun hHeld => ?_)
      clear hK K
      try simp only [Act.put, List.setIfInBounds_toArray, List.set_cons_zero, List.set_cons_succ]
      refine wpAnyH_ready (rs := [3]) (by kernel_rfl) (by simp) ?_
      refine AllReadyH.cons rfl (fun K hK => ?_) AllReadyH.nil
      go_simp
      (with_reducible refine (KK.out V.drew (below_drew (Below.refl _ _))).mono ?_); rintro e w6 ⟨rfl, b6⟩
      go_wp2_with fail
      have B6 : Below V.heap.size V w6 := (below_drew (Below.refl _ _)).trans b6
      clear b6
      clear hHeld
      refine hK.out _ _ (KS.out _ B6) (fun hHeld => ?_)
      clear hK K
      try simp only [Act.put, List.setIfInBounds_toArray, List.set_cons_zero, List.set_cons_succ]
      refine wpAnyH_ready (rs := [4]) (by kernel_rfl) (by simp) ?_
      refine AllReadyH.cons rfl (fun K hK => ?_) AllReadyH.nil
      go_simp
      have B7 : Below V.heap.size V (w6.alloc (.cells #[hv st, .bool un, uv sq] 70)) := B6.alloc B6.size _
      have L7 : Lies (w6.alloc (.cells #[hv st, .bool un, uv sq] 70)) (w6.heap.size + 1) (some ⟨w6.heap.size, 0, none⟩) [hv st, .bool un, uv sq] := Lies.newN w6 [hv st, .bool un, uv sq] 70
      have r7 := own_belowR hrow B7
      have x7 := hw.below B7 hw.lt
      have z7 := HI.out.bl.below B7 HI.out.bl.lt
      generalize (w6.alloc (.cells #[hv st, .bool un, uv sq] 70)) = w7 at *
      clear hHeld
      refine hK.out _ _ (KS.out _ B7) (fun hHeld => ?_)
      clear hK K
      try simp only [Act.put, List.setIfInBounds_toArray, List.set_cons_zero, List.set_cons_succ]
      refine wpAnyH_ready (rs := [5]) (by kernel_rfl) (by simp) ?_
      refine AllReadyH.cons rfl (fun K hK => ?_) AllReadyH.nil
      have hone : ∀ u ∈ [hv st, .bool un, uv sq], u.oneCell' = true := by intro u hu; simp at hu; rcases hu with rfl | rfl | rfl <;> rfl
      refine wp_append_wide14 (.tmp 29) (.tmp 33) 47 rfl w.heap.size 70 _ 3 8 Tryz.underlying47 fsinfo rfl (by omega) (.slice Av pre.length ac) pre.length _ rfl r7 _ (some ⟨w6.heap.size, 0, none⟩) 1 1 [hv st, .bool un, uv sq] rfl rfl L7 hone (by omega) (by unfold maxLen; omega) (Nat.le_trans HI.out.low.size B7.size) ?_
      intro v' w8 own8 gr8
      obtain ⟨A8, c8, rfl⟩ := own_slice2 own8
      have x8 : Whole w8 (w.heap.size + 1) 47 _ := x7.grown gr8 (fun e => whole_row_ne13 x7 (by decide) r7 e.symm)
      have z8 : Whole w8 (w.heap.size + 2) 4 #[.bool false] := z7.grown gr8 (fun e => whole_row_ne13 z7 (by decide) r7 e.symm)
      have B8 : ∀ k, k < V.heap.size → (Value.slice Av pre.length ac).ownBlock ≠ some k → w8.heap[k]? = V.heap[k]? := fun k hk hn => (gr8.block k (Nat.lt_of_lt_of_le hk B7.size) (fun e => hn e.symm)).trans (B7.block k hk)
      have low8 : Below w.heap.size V w8 := (B7.mono HI.out.low.size).grown gr8 (Nat.le_trans HI.out.low.size B7.size) (fun r e => (r7.lt r e).1)
      have e8 : w8.cell? ⟨w.heap.size + 1, 0, none⟩ = some (.slice Av pre.length ac) := x8.cell 0
      have f8 := x8.frozen 0
      clear hHeld
      refine hK.out _ _ (z8.cell 0) (fun hHeld => ?_)
      clear hK K
      try simp only [Act.put, List.setIfInBounds_toArray, List.set_cons_zero, List.set_cons_succ]
      refine wpAnyH_ready (rs := [6]) (by kernel_rfl) (by simp) ?_
      refine AllReadyH.cons rfl (fun K hK => ?_) AllReadyH.nil
      go_simp
      clear hHeld
      refine hK.out _ _ ((z8.far (p := ⟨w.heap.size + 1, 0, none⟩) (by show w.heap.size + 2 ≠ w.heap.size + 1; omega) _).cell 0) (fun hHeld => ?_)
      clear hK K
      try simp only [Act.put, List.setIfInBounds_toArray, List.set_cons_zero, List.set_cons_succ]
      refine wpAnyH_done (by kernel_rfl) ?_ _
      (try simp only [Exit.inBlock, Exit.then])
      exact fo_next x HI.out hrow hw x8 own8 HT.out B8 low8 hw2 HPL.out
    · go_simp
      (with_reducible refine (KK.out V.drew (below_drew (Below.refl _ _))).mono ?_); rintro e w6 ⟨rfl, b6⟩
      go_wp2_with fail
      have B6 : Below V.heap.size V w6 := (below_drew (Below.refl _ _)).trans b6
      clear b6
      clear hHeld
      refine hK.out _ _ (KS.out _ B6) (fun hHeld => ?_)
      clear hK K
      try simp only [Act.put, List.setIfInBounds_toArray, List.set_cons_zero, List.set_cons_succ]
      refine wpAnyH_ready (rs := [0, 4]) (by kernel_rfl) (by simp) ?_
      refine AllReadyH.cons rfl (fun K hK => ?_) (AllReadyH.cons rfl (fun K hK => ?_) AllReadyH.nil)
      · have l0 := KL.out w6 B6
        go_simp
        clear l0
        clear hHeld
        refine hK.out _ _ (KS.out _ B6) (fun hHeld => ?_)
        clear hK K
        try simp only [Act.put, List.setIfInBounds_toArray, List.set_cons_zero, List.set_cons_succ]
        refine wpAnyH_ready (rs := [4]) (by kernel_rfl) (by simp) ?_
        refine AllReadyH.cons rfl (fun K hK => ?_) AllReadyH.nil
        go_simp
        have B7 : Below V.heap.size V (w6.alloc (.cells #[hv st, .bool un, uv sq] 70)) := B6.alloc B6.size _
        have L7 : Lies (w6.alloc (.cells #[hv st, .bool un, uv sq] 70)) (w6.heap.size + 1) (some ⟨w6.heap.size, 0, none⟩) [hv st, .bool un, uv sq] := Lies.newN w6 [hv st, .bool un, uv sq] 70
        have r7 := own_belowR hrow B7
        have x7 := hw.below B7 hw.lt
        have z7 := HI.out.bl.below B7 HI.out.bl.lt
        generalize (w6.alloc (.cells #[hv st, .bool un, uv sq] 70)) = w7 at *
        clear hHeld
        refine hK.out _ _ (KS.out _ B7) (fun hHeld => ?_)
        clear hK K
        try simp only [Act.put, List.setIfInBounds_toArray, List.set_cons_zero, List.set_cons_succ]
        refine wpAnyH_ready (rs := [5]) (by kernel_rfl) (by simp) ?_
        refine AllReadyH.cons rfl (fun K hK => ?_) AllReadyH.nil
        have hone : ∀ u ∈ [hv st, .bool un, uv sq], u.oneCell' = true := by intro u hu; simp at hu; rcases hu with rfl | rfl | rfl <;> rfl
        refine wp_append_wide14 (.tmp 29) (.tmp 33) 47 rfl w.heap.size 70 _ 3 8 Tryz.underlying47 fsinfo rfl (by omega) (.slice Av pre.length ac) pre.length _ rfl r7 _ (some ⟨w6.heap.size, 0, none⟩) 1 1 [hv st, .bool un, uv sq] rfl rfl L7 hone (by omega) (by unfold maxLen; omega) (Nat.le_trans HI.out.low.size B7.size) ?_
        intro v' w8 own8 gr8
        obtain ⟨A8, c8, rfl⟩ := own_slice2 own8
        have x8 : Whole w8 (w.heap.size + 1) 47 _ := x7.grown gr8 (fun e => whole_row_ne13 x7 (by decide) r7 e.symm)
        have z8 : Whole w8 (w.heap.size + 2) 4 #[.bool false] := z7.grown gr8 (fun e => whole_row_ne13 z7 (by decide) r7 e.symm)
        have B8 : ∀ k, k < V.heap.size → (Value.slice Av pre.length ac).ownBlock ≠ some k → w8.heap[k]? = V.heap[k]? := fun k hk hn => (gr8.block k (Nat.lt_of_lt_of_le hk B7.size) (fun e => hn e.symm)).trans (B7.block k hk)
        have low8 : Below w.heap.size V w8 := (B7.mono HI.out.low.size).grown gr8 (Nat.le_trans HI.out.low.size B7.size) (fun r e => (r7.lt r e).1)
        have e8 : w8.cell? ⟨w.heap.size + 1, 0, none⟩ = some (.slice Av pre.length ac) := x8.cell 0
        have f8 := x8.frozen 0
        clear hHeld
        refine hK.out _ _ (z8.cell 0) (fun hHeld => ?_)
        clear hK K
        try simp only [Act.put, List.setIfInBounds_toArray, List.set_cons_zero, List.set_cons_succ]
        refine wpAnyH_ready (rs := [6]) (by kernel_rfl) (by simp) ?_
        refine AllReadyH.cons rfl (fun K hK => ?_) AllReadyH.nil
        go_simp
        clear hHeld
        refine hK.out _ _ ((z8.far (p := ⟨w.heap.size + 1, 0, none⟩) (by show w.heap.size + 2 ≠ w.heap.size + 1; omega) _).cell 0) (fun hHeld => ?_)
        clear hK K
        try simp only [Act.put, List.setIfInBounds_toArray, List.set_cons_zero, List.set_cons_succ]
        refine wpAnyH_done (by kernel_rfl) ?_ _
        (try simp only [Exit.inBlock, Exit.then])
        exact fo_next x HI.out hrow hw x8 own8 HT.out B8 low8 hw2 HPL.out
      · go_simp
        have B7 : Below V.heap.size V (w6.alloc (.cells #[hv st, .bool un, uv sq] 70)) := B6.alloc B6.size _
        have L7 : Lies (w6.alloc (.cells #[hv st, .bool un, uv sq] 70)) (w6.heap.size + 1) (some ⟨w6.heap.size, 0, none⟩) [hv st, .bool un, uv sq] := Lies.newN w6 [hv st, .bool un, uv sq] 70
        have r7 := own_belowR hrow B7
        have x7 := hw.below B7 hw.lt
        have z7 := HI.out.bl.below B7 HI.out.bl.lt
        generalize (w6.alloc (.cells #[hv st, .bool un, uv sq] 70)) = w7 at *
        clear hHeld
        refine hK.out _ _ (KS.out _ B7) (fun hHeld => ?_)
        clear hK K
        try simp only [Act.put, List.setIfInBounds_toArray, List.set_cons_zero, List.set_cons_succ]
        refine wpAnyH_ready (rs := [0]) (by kernel_rfl) (by simp) ?_
        refine AllReadyH.cons rfl (fun K hK => ?_) AllReadyH.nil
        have l0 := KL.out w7 B7
        go_simp
        clear l0
        clear hHeld
        refine hK.out _ _ (KS.out _ B7) (fun hHeld => ?_)
        clear hK K
        try simp only [Act.put, List.setIfInBounds_toArray, List.set_cons_zero, List.set_cons_succ]
        refine wpAnyH_ready (rs := [5]) (by kernel_rfl) (by simp) ?_
        refine AllReadyH.cons rfl (fun K hK => ?_) AllReadyH.nil
        have hone : ∀ u ∈ [hv st, .bool un, uv sq], u.oneCell' = true := by intro u hu; simp at hu; rcases hu with rfl | rfl | rfl <;> rfl
        refine wp_append_wide14 (.tmp 29) (.tmp 33) 47 rfl w.heap.size 70 _ 3 8 Tryz.underlying47 fsinfo rfl (by omega) (.slice Av pre.length ac) pre.length _ rfl r7 _ (some ⟨w6.heap.size, 0, none⟩) 1 1 [hv st, .bool un, uv sq] rfl rfl L7 hone (by omega) (by unfold maxLen; omega) (Nat.le_trans HI.out.low.size B7.size) ?_
        intro v' w8 own8 gr8
        obtain ⟨A8, c8, rfl⟩ := own_slice2 own8
        have x8 : Whole w8 (w.heap.size + 1) 47 _ := x7.grown gr8 (fun e => whole_row_ne13 x7 (by decide) r7 e.symm)
        have z8 : Whole w8 (w.heap.size + 2) 4 #[.bool false] := z7.grown gr8 (fun e => whole_row_ne13 z7 (by decide) r7 e.symm)
        have B8 : ∀ k, k < V.heap.size → (Value.slice Av pre.length ac).ownBlock ≠ some k → w8.heap[k]? = V.heap[k]? := fun k hk hn => (gr8.block k (Nat.lt_of_lt_of_le hk B7.size) (fun e => hn e.symm)).trans (B7.block k hk)
        have low8 : Below w.heap.size V w8 := (B7.mono HI.out.low.size).grown gr8 (Nat.le_trans HI.out.low.size B7.size) (fun r e => (r7.lt r e).1)
        have e8 : w8.cell? ⟨w.heap.size + 1, 0, none⟩ = some (.slice Av pre.length ac) := x8.cell 0
        have f8 := x8.frozen 0
        clear hHeld
        refine hK.out _ _ (z8.cell 0) (fun hHeld => ?_)
        clear hK K
        try simp only [Act.put, List.setIfInBounds_toArray, List.set_cons_zero, List.set_cons_succ]
        refine wpAnyH_ready (rs := [6]) (by kernel_rfl) (by simp) ?_
        refine AllReadyH.cons rfl (fun K hK => ?_) AllReadyH.nil
        go_simp
        clear hHeld
        refine hK.out _ _ ((z8.far (p := ⟨w.heap.size + 1, 0, none⟩) (by show w.heap.size + 2 ≠ w.heap.size + 1; omega) _).cell 0) (fun hHeld => ?_)
        clear hK K
        try simp only [Act.put, List.setIfInBounds_toArray, List.set_cons_zero, List.set_cons_succ]
        refine wpAnyH_done (by kernel_rfl) ?_ _
        (try simp only [Exit.inBlock, Exit.then])
        exact fo_next x HI.out hrow hw x8 own8 HT.out B8 low8 hw2 HPL.out
set_option maxRecDepth 100000 in
set_option maxHeartbeats 16000000 in
theorem fof_true (d : List UInt8) (hx : isW ⟨194, 0, d, []⟩ = true) (A : Option Addr) (c : Nat) (K : Option Addr) (k : Nat) (w : World) (h : Chunk w w.heap.size A c K k ⟨194, 0, d, []⟩) (hh : Handle w) :
    Calls Tryz.prog 25 #[.agg #[.int .u8 194, .int .u8 0, .slice A d.length c, .slice K 0 k]] w (OfW ⟨194, 0, d, []⟩ w) := by
  have hf : CkFine ⟨194, 0, d, []⟩ := ⟨by have := (isW_all hx).2.2.2.1; simp only at this ⊢; omega, by simp, by simp⟩
  have hit : itW ⟨194, 0, d, []⟩ = true := rfl
  have b0 : Below w.heap.size w (((w.alloc (.cells #[.int .u8 194, .int .u8 0, .slice A d.length c, .slice K 0 k] 44)).alloc (.cells #[.slice none 0 0] 47)).alloc (.cells #[.bool true] 4)) := (((Below.refl _ w).alloc (Nat.le_refl _) _).alloc (by simp) _).alloc (by simp; omega) _
  have x0 : Whole (((w.alloc (.cells #[.int .u8 194, .int .u8 0, .slice A d.length c, .slice K 0 k] 44)).alloc (.cells #[.slice none 0 0] 47)).alloc (.cells #[.bool true] 4)) w.heap.size 44 #[.int .u8 194, .int .u8 0, .slice A d.length c, .slice K 0 k] := ((Whole.new w 44 #[.int .u8 194, .int .u8 0, .slice A d.length c, .slice K 0 k]).alloc (.cells #[.slice none 0 0] 47)).alloc (.cells #[.bool true] 4)
  have y0 : Whole (((w.alloc (.cells #[.int .u8 194, .int .u8 0, .slice A d.length c, .slice K 0 k] 44)).alloc (.cells #[.slice none 0 0] 47)).alloc (.cells #[.bool true] 4)) (w.heap.size + 1) 47 #[.slice none 0 0] := by
    have y := Whole.new (w.alloc (.cells #[.int .u8 194, .int .u8 0, .slice A d.length c, .slice K 0 k] 44)) 47 #[.slice none 0 0]
    rw [World.size_alloc] at y
    exact y.alloc (.cells #[.bool true] 4)
  have z0 : Whole (((w.alloc (.cells #[.int .u8 194, .int .u8 0, .slice A d.length c, .slice K 0 k] 44)).alloc (.cells #[.slice none 0 0] 47)).alloc (.cells #[.bool true] 4)) (w.heap.size + 2) 4 #[.bool true] := by
    have y := Whole.new ((w.alloc (.cells #[.int .u8 194, .int .u8 0, .slice A d.length c, .slice K 0 k] 44)).alloc (.cells #[.slice none 0 0] 47)) 4 #[.bool true]
    rw [World.size_alloc, World.size_alloc] at y
    exact y
  have HC := ccheck_any ⟨194, 0, d, []⟩ hf A c K k _ (h.on b0) (hh.below b0 hh.lt)
  rw [(isW_parts hx).2] at HC
  have e0 : codeE 0 = .nilIface := rfl
  rw [e0] at HC
  obtain ⟨_, _, _, hd1, hd2, hd3⟩ := isW_all hx
  rw [hit] at hd3
  simp only at hd1 hd2 hd3
  have hOt : ofWt ⟨194, 0, d, []⟩ = nrd d 0 4 := by unfold ofWt; rw [if_pos hx]
  have hOl : ofWl ⟨194, 0, d, []⟩ = fwL true d := by unfold ofWl; rw [if_pos hx, hit]
  have L0 : Lies w w.heap.size A (d.map bv) := h.data
  have hdc : d.length ≤ c := h.dc
  have hdm := h.dm
  obtain ⟨ad, hA, hadb, _⟩   := L0 (fun e => by rw [List.map_eq_nil_iff] at e; rw [e] at hd2; simp at hd2)
  subst hA
  unfold OfW
  rw [hOt, hOl, hx]
  have hz : w.heap.size + 2 < (((w.alloc (.cells #[.int .u8 194, .int .u8 0, .slice (some ad) d.length c, .slice K 0 k] 44)).alloc (.cells #[.slice none 0 0] 47)).alloc (.cells #[.bool true] 4)).heap.size := by simp
  have HB := Lib.hid b0
  obtain ⟨l, hl⟩ : ∃ l, l = fwL true d := ⟨_, rfl⟩
  have HL := Lib.hid hl
  have HAT : Hid (∀ j, j < l.length → l[j]? = some (skN true ((d.drop (4 + 8 * j)).take 8))) := Lib.hid (fun j hj => by rw [hl] at hj ⊢; exact fwL_at hj)
  rw [← hl] at hd3 ⊢
  have HD3 : Hid (d.length = 4 + 8 * l.length) := Lib.hid hd3
  clear h hf b0 hh hx hOt hOl e0 hit hl hd3
  generalize hwa : ((w.alloc (.cells #[.int .u8 194, .int .u8 0, .slice (some ad) d.length c, .slice K 0 k] 44)).alloc (.cells #[.slice none 0 0] 47)).alloc (.cells #[.bool true] 4) = wa at *
  have HW := Lib.hid hwa
  clear hwa
  simp only [ckV] at HC
  refine (callsIn_wide (n := 6)).1 ?_
  refine callsIn_of_wp_marks Tryz.func25 rfl trivial ?_ rfl
  simp only [Tryz.ntmps25, List.size_toArray, List.length_cons, List.length_nil, Nat.reduceAdd, Nat.reduceSub, Array.replicate_succ, Array.replicate_zero, List.push_toArray, List.append_toArray, List.nil_append, List.cons_append]
  gi_upto_region 2 with fail
  rw [HW.out]
  clear HW
  obtain ⟨q0, q1, q2, q3⟩ := wh4 x0
  have t0 := z0.cell 0
  gi_wp2_with fail
  refine ⟨trivial, (callsIn_wide.2 HC).mono ?_⟩
  rintro e w2 ⟨rfl, b2⟩
  have x2 := x0.below b2 (by omega)
  have y2 := y0.below b2 (by omega)
  have z2 := z0.below b2 (by omega)
  have B2 := HB.out.trans (b2.mono (by omega))
  have L2 : Lies w2 w2.heap.size (some ad) (d.map bv) := (L0.below B2).more B2.size
  clear q0 q1 q2 q3 t0 x0 y0 z0 HC HB b2 hadb
  gi_upto_region 4 with fail
  have q2 := (wh4 x2).2.2.1
  have t0 : w2.cell? ⟨w.heap.size + 2, 0, none⟩ = some (.bool true) := z2.cell 0
  have hc4 : (4 : Int) ≤ (c : Int) := by omega
  have hd4i : (4 : Int) ≤ (d.length : Int) := by omega
  have hw2 : w.heap.size + 2 < w2.heap.size := z2.lt
  obtain ⟨P, hP⟩ : ∃ P, P = (if c = 4 then some ad else some (⟨ad.block, ad.off + 4, none⟩ : Addr)) := ⟨_, rfl⟩
  have HP := Lib.hid hP
  have HLP : Hid (∀ X, Below w.heap.size w X → Lies X w.heap.size P ((d.drop 4).map bv)) := Lib.hid (fun X hX => by
    have h4 := (L0.below hX).drop (k := 4) (c := c) (by simpa using hdc)
    rw [← List.map_drop] at h4
    rw [hP]
    by_cases hc : c = 4
    · rw [if_pos hc] at h4 ⊢; exact h4
    · rw [if_neg hc] at h4 ⊢
      rw [Option.map_some, add_pos (by omega)] at h4
      exact h4)
  clear hP
  have KS : Hid (∀ V, Below w2.heap.size w2 V → V.cell? ⟨w.heap.size, 2, none⟩ = some (.slice (some ad) d.length c) ∧ V.cell? ⟨w.heap.size + 2, 0, none⟩ = some (.bool true)) := Lib.hid (fun V hV => ⟨(hV.cell (p := ⟨w.heap.size, 2, none⟩) (by show w.heap.size < _; omega)).trans q2, (hV.cell (p := ⟨w.heap.size + 2, 0, none⟩) hw2).trans t0⟩)
  have HSZ : ∀ V, Calls Tryz.prog 72 #[.bool true] V fun e w' => e = .returned (.int .i64 8) ∧ V = w' := fun V => sizeOf_any true V
  have HCH : ∀ V, Calls Tryz.prog 71 #[.slice P (d.length - 4) (c - 4), .int .i64 8] V _ := fun V => callsIn_wide.1 (schunk_in 5 P (d.length - 4) (c - 4) 8 (by omega) V)
  clear q2 t0 hw2
  refine wpIn_onlyN (wpIn_wide.2 ?_)
  refine wp_region_held_drew (S := (fun V => V.cell? ⟨w.heap.size, 2, none⟩ = some (.slice (some ad) d.length c) ∧ V.cell? ⟨w.heap.size + 2, 0, none⟩ = some (.bool true))) (by kernel_rfl) (KS.out _ (below_drew (Below.refl _ _))) (fun hHeld => ?_)
  refine take_at (i := 0) (v := ?_) (some 22) rfl (by kernel_rfl) (by kernel_rfl) (by kernel_rfl) (fun _ _ _ h => h) (by kernel_rfl) (Or.inl ⟨by kernel_rfl, ?_⟩) (by assumption) ?_
  rotate_left
  · (intro w hSw; (try dsimp only at hSw); go_simp <;> with_reducible rfl)
  simp only [Act.put, List.setIfInBounds_toArray, List.set_cons_zero, List.set_cons_succ]
  refine take_at (i := 1) (v := ?_) (some 23) rfl (by kernel_rfl) (by kernel_rfl) (by kernel_rfl) (fun _ _ _ h => h) (by kernel_rfl) (Or.inl ⟨by kernel_rfl, ?_⟩) (by assumption) ?_
  rotate_left
  · (intro w hSw; (try dsimp only at hSw); go_simp <;> with_reducible rfl)
  simp only [Act.put, List.setIfInBounds_toArray, List.set_cons_zero, List.set_cons_succ]
  refine take_at (i := 2) (v := ?_) (some 24) rfl (by kernel_rfl) (by kernel_rfl) (by kernel_rfl) (fun _ _ _ h => h) (by kernel_rfl) (Or.inl ⟨by kernel_rfl, ?_⟩) (by assumption) ?_
  rotate_left
  · (intro w hSw; (try dsimp only at hSw); go_simp <;> with_reducible rfl)
  simp only [Act.put, List.setIfInBounds_toArray, List.set_cons_zero, List.set_cons_succ]
  refine take_at (i := 3) (v := ?_) (some 25) rfl (by kernel_rfl) (by kernel_rfl) (by kernel_rfl) (fun _ _ _ h => h) (by kernel_rfl) (Or.inl ⟨by kernel_rfl, ?_⟩) (by assumption) ?_
  rotate_left
  · (intro w hSw; (try dsimp only at hSw); go_simp <;> with_reducible rfl)
  simp only [Act.put, List.setIfInBounds_toArray, List.set_cons_zero, List.set_cons_succ]
  refine wpAnyH_ready (rs := [4]) (by kernel_rfl) (by simp) ?_
  refine AllReadyH.cons rfl (fun K hK => ?_) AllReadyH.nil
  rw [← HP.out]
  go_simp
  (with_reducible refine (HSZ w2.drew).mono ?_); rintro e w3 ⟨rfl, rfl⟩
  go_wp2_with fail
  clear hHeld
  refine hK.out _ _ (KS.out _ (below_drew (Below.refl _ _))) (fun hHeld => ?_)
  clear hK K
  try simp only [Act.put, List.setIfInBounds_toArray, List.set_cons_zero, List.set_cons_succ]
  refine wpAnyH_ready (rs := [5]) (by kernel_rfl) (by simp) ?_
  refine AllReadyH.cons rfl (fun K hK => ?_) AllReadyH.nil
  go_simp
  (with_reducible refine (HCH w2.drew).mono ?_); rintro e w3 ⟨rfl, rfl⟩
  go_wp2_with fail
  clear hHeld
  refine hK.out _ _ (KS.out _ (((below_drew (Below.refl _ w2)).alloc (Nat.le_refl _) _).alloc (by simp) _)) (fun hHeld => ?_)
  clear hK K
  try simp only [Act.put, List.setIfInBounds_toArray, List.set_cons_zero, List.set_cons_succ]
  refine wpAnyH_done (by kernel_rfl) ?_ _
  simp only [onlyN]
  have bb : Below w2.heap.size w2 (((w2.alloc (.cells #[.slice P (d.length - 4) (c - 4)] 41)).alloc (.cells #[.int .i64 8] 3)).drew) := below_drew (((Below.refl _ w2).alloc (Nat.le_refl _) _).alloc (by simp) _)
  have s9 : (((w2.alloc (.cells #[.slice P (d.length - 4) (c - 4)] 41)).alloc (.cells #[.int .i64 8] 3)).drew).heap.size = w2.heap.size + 2 := by show ((w2.alloc _).alloc _).heap.size = _; simp
  have vS : Whole (((w2.alloc (.cells #[.slice P (d.length - 4) (c - 4)] 41)).alloc (.cells #[.int .i64 8] 3)).drew) w2.heap.size 41 #[.slice P (d.length - 4) (c - 4)] := (Whole.new w2 41 #[.slice P (d.length - 4) (c - 4)]).alloc (.cells #[.int .i64 8] 3)
  have vN : Whole (((w2.alloc (.cells #[.slice P (d.length - 4) (c - 4)] 41)).alloc (.cells #[.int .i64 8] 3)).drew) (w2.heap.size + 1) 3 #[.int .i64 8] := by
    have y := Whole.new (w2.alloc (.cells #[.slice P (d.length - 4) (c - 4)] 41)) 3 #[.int .i64 8]
    rw [World.size_alloc] at y
    exact y
  have hw2 : w.heap.size + 2 < w2.heap.size := z2.lt
  have I0 : FoI w2.heap.size w true #[.int .u8 194, .int .u8 0, .slice (some ad) d.length c, .slice K 0 k] l P (d.length - 4) (c - 4) 8 [] (((w2.alloc (.cells #[.slice P (d.length - 4) (c - 4)] 41)).alloc (.cells #[.int .i64 8] 3)).drew) := ⟨⟨none, 0, y2.below bb (by omega), World.ownsRow_nil _ _ _ _⟩, x2.below bb (by omega), z2.below bb (by omega), B2.trans (bb.mono (by omega)), Nat.zero_le _, vS, vN⟩
  have hPA : 0 < d.length - 4 → ∃ ad', P = some ad' := fun _ => by
    have e := HP.out
    split at e <;> exact ⟨_, e⟩
  clear hHeld KS HSZ HCH y2 x2 z2 bb L2
  generalize (((w2.alloc (.cells #[.slice P (d.length - 4) (c - 4)] 41)).alloc (.cells #[.int .i64 8] 3)).drew) = W9 at *
  gi_wp2_with fail
  have hs9 : w.heap.size + 3 ≤ W9.heap.size := by omega
  refine each_leave .ret (F := Fence.wide) (n := 6) (P := Tryz.prog) rfl (by omega) (gf := 125) (lb := #[.pointer (some ⟨w2.heap.size, 0, none⟩), .pointer (some ⟨w2.heap.size + 1, 0, none⟩)]) rfl trivial (enters_of Tryz.func125 (by kernel_rfl) rfl)
    (encs := encCh P 8 (d.length - 4)) (Kp := KpC w2.heap.size (w2.heap.size + 1)) (G := fun _ _ => False) (Row := fun pre _ x => RowCh 8 (d.length - 4) pre x) (Fin := FinCh 8 (d.length - 4)) (FinX := fun q => RowCh 8 (d.length - 4) q.1 q.2) (N := d.length - 4 + 1) ?hseq (fun _ => rfl)
    KpC.trans ?hKb (FoI w2.heap.size w true #[.int .u8 194, .int .u8 0, .slice (some ad) d.length c, .slice K 0 k] l P (d.length - 4) (c - 4) 8) (foI_own (by omega)) (fun _ _ => False) (fun _ _ _ _ h _ _ => h) I0 (fun _ _ _ _ h => h.elim)
    (fun pre x a' V => a' = { tmps := #[.agg #[.int .u8 194, .int .u8 0, .slice (some ad) d.length c, .slice K 0 k], .pointer (some ⟨w.heap.size, 0, none⟩), .int .u32 0, .pointer (some ⟨w.heap.size + 1, 0, none⟩), .bool false, .pointer (some ⟨w.heap.size + 2, 0, none⟩), .slice (P.map (·.add x)) (min 8 (d.length - 4 - x)) (min 8 (d.length - 4 - x)), .pointer (some ⟨w.heap.size, 0, none⟩), .int .u8 194, .bool true, .bool true, .bool false, .bool false, undef, undef, undef, .bool false, .bool false, .agg #[.int .u8 194, .int .u8 0, .slice (some ad) d.length c, .slice K 0 k], .nilIface, .bool false, .bool false, .pointer (some ⟨w.heap.size, 2, none⟩), .slice (some ad) d.length c, .slice P (d.length - 4) (c - 4), .bool true, .int .i64 8, .func (.func 125) #[] #[.pointer (some ⟨w2.heap.size, 0, none⟩), .pointer (some ⟨w2.heap.size + 1, 0, none⟩)], .slice (P.map (·.add x)) (min 8 (d.length - 4 - x)) (min 8 (d.length - 4 - x)), undef, undef, undef, undef, undef, undef, undef, undef, undef, undef, undef, undef, undef], defers := [] } ∧ FoI w2.heap.size w true #[.int .u8 194, .int .u8 0, .slice (some ad) d.length c, .slice K 0 k] l P (d.length - 4) (c - 4) 8 pre V ∧ RowCh 8 (d.length - 4) pre x) ?hAx
    ?assign ?body ?done ?stop
  case hseq => exact chunk8_comes w2.heap.size (w2.heap.size + 1) P (d.length - 4) (c - 4) 8 (by omega) (by omega) (by omega) (by omega) (by omega) hPA W9 vS vN
  case hKb =>
    intro V l o o' hl _ _
    exact KpC.put V l o' (by omega) (by omega)
  case hAx =>
    rintro pre x a' s X Y row ⟨ha, hi, hr1⟩ hg hr
    exact ⟨ha, foI_own (by omega) _ _ _ _ hi hg hr, hr1⟩
  case assign =>
    intro l' pre x V K hi hrx hK
    simp only [encCh]
    gi_wp2
    exact hK _ _ (KeepsFrom.refl _ _) ⟨Below.refl _ _, rfl, rfl⟩ ⟨rfl, hi, hrx⟩
  case stop => exact fun _ _ _ _ _ h _ => h.elim
  case done =>
    rintro D' xs V hD hF hi hKD
    obtain ⟨Av, ac, hw, hrow⟩ := hi.box
    have hxl : xs.length = l.length := by
      have h1 := hi.le
      have h2 := HD3.out
      unfold FinCh at hF
      omega
    rw [hxl] at hw hrow
    rw [List.take_length] at hrow
    have q2 := (wh4 hi.xr).2.2.1
    have q1 : V.cell? ⟨w.heap.size + 1, 0, none⟩ = some (.slice Av l.length ac) := hw.cell 0
    have HI := Lib.hid hi
    have HR := Lib.hid hrow
    have hVs : w.heap.size + 3 ≤ V.heap.size := by have := hi.bn.lt; omega
    have KS : Hid (∀ X, Below V.heap.size V X → X.cell? ⟨w.heap.size, 2, none⟩ = some (.slice (some ad) d.length c) ∧ X.cell? ⟨w.heap.size + 1, 0, none⟩ = some (.slice Av l.length ac)) := Lib.hid (fun X hX => ⟨(hX.cell (p := ⟨w.heap.size, 2, none⟩) (by show w.heap.size < _; omega)).trans q2, (hX.cell (p := ⟨w.heap.size + 1, 0, none⟩) (by show w.heap.size + 1 < _; omega)).trans q1⟩)
    have HN : Hid (∀ X, Below V.heap.size V X → Calls Tryz.prog 74 #[.int .i64 4, .slice (some ad) 4 c] X fun e w' => ∃ A' c', e = .returned (.slice A' 1 c') ∧ w'.ownsRow X.heap.size 22 1 (.slice A' 1 c') 1 ([nrd d 0 4].map uv) ∧ Below X.heap.size X w') := Lib.hid (fun X hX => by
      have hb := hi.low.trans (hX.mono (by omega))
      have h1 := num_len 4 rfl (some ad) c (d.take 4) 4 1 (by rw [List.length_take]; omega) rfl (by omega) (by omega) X (by rw [List.map_take]; exact ((L0.below hb).more hb.size).take _)
      rw [nums4_4' hd2] at h1
      exact h1)
    have hDne : D' ≠ w.heap.size + 1 := fun e => by
      have h9 := hw
      unfold Whole at h9
      rw [e, h9] at hKD
      cases hKD
    clear hi hF hxl hrow q1 q2 HAT HL HP HLP
    gi_upto_region 7 with fail
    refine wpIn_onlyN (wpIn_wide.2 ?_)
    refine wp_region_held_drew (S := (fun X => X.cell? ⟨w.heap.size, 2, none⟩ = some (.slice (some ad) d.length c) ∧ X.cell? ⟨w.heap.size + 1, 0, none⟩ = some (.slice Av l.length ac))) (by kernel_rfl) (KS.out _ (below_drew (Below.refl _ _))) (fun hHeld => ?_)
    refine take_at (i := 0) (v := ?_) (some 35) rfl (by kernel_rfl) (by kernel_rfl) (by kernel_rfl) (fun _ _ _ h => h) (by kernel_rfl) (Or.inl ⟨by kernel_rfl, ?_⟩) (by assumption) ?_
    rotate_left
    · (intro w hSw; (try dsimp only at hSw); go_simp <;> with_reducible rfl)
    simp only [Act.put, List.setIfInBounds_toArray, List.set_cons_zero, List.set_cons_succ]
    refine take_at (i := 1) (v := ?_) (some 36) rfl (by kernel_rfl) (by kernel_rfl) (by kernel_rfl) (fun _ _ _ h => h) (by kernel_rfl) (Or.inl ⟨by kernel_rfl, ?_⟩) (by assumption) ?_
    rotate_left
    · (intro w hSw; (try dsimp only at hSw); go_simp <;> with_reducible rfl)
    simp only [Act.put, List.setIfInBounds_toArray, List.set_cons_zero, List.set_cons_succ]
    refine take_at (i := 2) (v := ?_) (some 37) rfl (by kernel_rfl) (by kernel_rfl) (by kernel_rfl) (fun _ _ _ h => h) (by kernel_rfl) (Or.inl ⟨by kernel_rfl, ?_⟩) (by assumption) ?_
    rotate_left
    · (intro w hSw; (try dsimp only at hSw); go_simp <;> with_reducible rfl)
    simp only [Act.put, List.setIfInBounds_toArray, List.set_cons_zero, List.set_cons_succ]
    refine take_at (i := 6) (v := ?_) (some 41) rfl (by kernel_rfl) (by kernel_rfl) (by kernel_rfl) (fun _ _ _ h => h) (by kernel_rfl) (Or.inl ⟨by kernel_rfl, ?_⟩) (by assumption) ?_
    rotate_left
    · (intro w hSw; (try dsimp only at hSw); go_simp <;> with_reducible rfl)
    simp only [Act.put, List.setIfInBounds_toArray, List.set_cons_zero, List.set_cons_succ]
    refine wpAnyH_ready (rs := [3]) (by kernel_rfl) (by simp) ?_
    refine AllReadyH.cons rfl (fun K hK => ?_) AllReadyH.nil
    go_simp
    (with_reducible refine (HN.out V.drew (below_drew (Below.refl _ _))).mono ?_); rintro e w5 ⟨A5, c5, rfl, own5, b5⟩
    go_wp2_with fail
    obtain ⟨g5, rfl, _, _, hcl⟩ := own_cells2 own5 (by omega)
    have d5 := hcl 0 (uv (nrd d 0 4)) rfl
    have B5 : Below V.heap.size V w5 := (below_drew (Below.refl _ _)).trans b5
    have y5 := hw.below B5 hw.lt
    clear hcl own5 b5
    clear hHeld
    refine hK.out _ _ (KS.out _ B5) (fun hHeld => ?_)
    clear hK K
    try simp only [Act.put, List.setIfInBounds_toArray, List.set_cons_zero, List.set_cons_succ]
    refine take_at (i := 4) (v := ?_) (some 39) rfl (by kernel_rfl) (by kernel_rfl) (by kernel_rfl) (fun _ _ _ h => h) (by kernel_rfl) (Or.inl ⟨by kernel_rfl, ?_⟩) (by assumption) ?_
    rotate_left
    · (intro w hSw; (try dsimp only at hSw); go_simp <;> with_reducible rfl)
    simp only [Act.put, List.setIfInBounds_toArray, List.set_cons_zero, List.set_cons_succ]
    refine wpAnyH_ready (rs := [5]) (by kernel_rfl) (by simp) ?_
    refine AllReadyH.cons rfl (fun K hK => ?_) AllReadyH.nil
    go_simp
    clear hHeld
    refine hK.out _ _ (KS.out _ B5) (fun hHeld => ?_)
    clear hK K
    try simp only [Act.put, List.setIfInBounds_toArray, List.set_cons_zero, List.set_cons_succ]
    refine take_at (i := 7) (v := ?_) (some 2) rfl (by kernel_rfl) (by kernel_rfl) (by kernel_rfl) (fun _ _ _ h => h) (by kernel_rfl) (Or.inl ⟨by kernel_rfl, ?_⟩) (by assumption) ?_
    rotate_left
    · (intro w hSw; (try dsimp only at hSw); go_simp <;> with_reducible rfl)
    simp only [Act.put, List.setIfInBounds_toArray, List.set_cons_zero, List.set_cons_succ]
    refine wpAnyH_ready (rs := [8]) (by kernel_rfl) (by simp) ?_
    refine AllReadyH.cons rfl (fun K hK => ?_) AllReadyH.nil
    have f0 := y5.frozen 0
    have e0 : w5.cell? ⟨w.heap.size + 1, 0, none⟩ = some (.slice Av l.length ac) := y5.cell 0
    go_simp
    clear hHeld
    refine hK.out _ _ ⟨(World.cell?_setCell_far _ _ _ _ (by show w.heap.size + 1 ≠ w.heap.size; omega)).trans (KS.out _ B5).1, (y5.set_ 0 (.slice Av l.length ac)).cell 0⟩ (fun hHeld => ?_)
    clear hK K
    try simp only [Act.put, List.setIfInBounds_toArray, List.set_cons_zero, List.set_cons_succ]
    refine take_at (i := 9) (v := ?_) (some 4) rfl (by kernel_rfl) (by kernel_rfl) (by kernel_rfl) (fun _ _ _ h => h) (by kernel_rfl) (Or.inl ⟨by kernel_rfl, ?_⟩) (by assumption) ?_
    rotate_left
    · (intro w hSw; (try dsimp only at hSw); go_simp <;> with_reducible rfl)
    simp only [Act.put, List.setIfInBounds_toArray, List.set_cons_zero, List.set_cons_succ]
    refine wpAnyH_done (by kernel_rfl) ?_ _
    simp only [onlyN]
    gi_wp2_with fail
    have y6 := y5.set_ 0 (.slice Av l.length ac)
    have r5 := own_belowR HR.out B5
    have r6 := r5.kept (grownBy_setCell1 w5 (w.heap.size + 1) 0 (.slice Av l.length ac)) (.inr (whole_row_ne13 y5 (by decide) r5))
    have hK4 := ((Below.heap_setCell w5 ⟨w.heap.size + 1, 0, none⟩ (.slice Av l.length ac) D' hDne).trans (B5.block D' (Array.getElem?_eq_some_iff.1 hKD).1)).trans hKD
    have hl6 : Below w.heap.size w (w5.setCell ⟨w.heap.size + 1, 0, none⟩ (.slice Av l.length ac)) := (HI.out.low.trans (B5.mono (by omega))).setCell (p := ⟨w.heap.size + 1, 0, none⟩) (Nat.le_succ _) _
    generalize w5.setCell ⟨w.heap.size + 1, 0, none⟩ (.slice Av l.length ac) = X at *
    refine ⟨by simp, .inl ⟨_, _, rfl, run_takeDeferred hK4, ?_⟩⟩
    have hp := grownBy_putObj' X D' (.deferred none)
    have hpo : ∀ r, some D' = some r → ∃ o : Obj, X.heap[r]? = some o ∧ o.isCells = false := fun r e => by cases e; exact ⟨_, hK4, rfl⟩
    have y7 := whole_obj y6 hp hpo
    have r7 := own_obj r6 hp hpo
    have hl7 := hl6.grown hp hl6.size (fun r e => by cases e; omega)
    refine ⟨_, results_tct rfl _ _ (w.heap.size + 1) 47 _ _ rfl y7 Tryz.underlying47 rfl, ?_⟩
    exact ⟨hl7, Av, ac, rfl, own_liesW r7 (fun h0 => List.length_eq_zero_iff.1 (by rw [fsFlat_len]; omega)), (own_capG r7).1, (own_capG r7).2⟩
  case body =>
    rintro l' pre x a' V ⟨rfl, hi, hx1, hx2⟩ hlen
    obtain ⟨Av, ac, hw, hrow⟩ := hi.box
    have hdl := HD3.out
    have hpG : pre.length < l.length := by omega
    have hmin : min 8 (d.length - 4 - x) = 8 := by omega
    obtain ⟨s, hs, hse⟩ : ∃ s, l[pre.length]? = some s ∧ s = skN true ((d.drop (4 + 8 * pre.length)).take 8) := ⟨_, HAT.out _ hpG, rfl⟩
    have KK : Hid (∀ X, Below V.heap.size V X → Calls Tryz.prog 73 #[.bool true, .slice (P.map (·.add x)) 8 8] X fun e w' => e = .returned (fsV s) ∧ Below X.heap.size X w') := Lib.hid (fun X hX => by
      have hb := hi.low.trans (hX.mono hi.low.size)
      have hL := ((HLP.out X hb).drop (k := x) (c := c) (by rw [List.length_map, List.length_drop]; omega)).take 8
      rw [if_neg (by omega), ← List.map_drop, ← List.map_take, List.drop_drop, show 4 + x = 4 + 8 * pre.length by omega] at hL
      rw [hse]
      exact skip_t _ _ _ X (by rw [List.length_take, List.length_drop]; omega) (Nat.le_refl _) (hL.more hb.size))
    have HT : Hid (fsFlat (l.take (pre.length + 1)) = fsFlat (l.take pre.length) ++ [hv s.st, .bool s.un, uv s.sq]) := Lib.hid (by rw [take_some hs, fsFlat_snoc])
    have HPL := Lib.hid (show pre.length + 1 ≤ l.length from hpG)
    have hnb : pre.length ≤ 100000 := by omega
    have HX := Lib.hid hx1
    have HI := Lib.hid hi
    have hVs : w.heap.size + 3 ≤ V.heap.size := by have := hi.bn.lt; omega
    have KS : Hid (∀ X, Below V.heap.size V X → X.cell? ⟨w.heap.size + 2, 0, none⟩ = some (.bool true)) := Lib.hid (fun X hX => ((hi.bl.below hX hi.bl.lt).cell 0))
    have KL : Hid (∀ X, Below V.heap.size V X → X.cell? ⟨w.heap.size + 1, 0, none⟩ = some (.slice Av pre.length ac)) := Lib.hid (fun X hX => ((hw.below hX hw.lt).cell 0))
    obtain ⟨st, un, sq⟩ := s
    simp only [fsV] at KK HT
    simp only [hmin]
    generalize P.map (·.add x) = Q at *
    clear hs hse hx1 hi hdl hpG hmin HLP HP HAT hx2
    gi_upto_region 6 with fail
    refine region_round_held (S := (fun X => X.cell? ⟨w.heap.size + 2, 0, none⟩ = some (.bool true))) (by kernel_rfl) (by kernel_rfl) (by rintro ⟨a, w, h⟩; exact h) (KS.out _ (below_drew (Below.refl _ _))) (fun hHeld => ?_)
    refine take_at (i := 1) (v := ?_) (some 30) rfl (by kernel_rfl) (by kernel_rfl) (by kernel_rfl) (fun _ _ _ h => h) (by kernel_rfl) (Or.inl ⟨by kernel_rfl, ?_⟩) (by assumption) ?_
    rotate_left
    · (intro w hSw; (try dsimp only at hSw); go_simp <;> with_reducible rfl)
    simp only [Act.put, List.setIfInBounds_toArray, List.set_cons_zero, List.set_cons_succ]
    refine take_at (i := 2) (v := ?_) (some 31) rfl (by kernel_rfl) (by kernel_rfl) (by kernel_rfl) (fun _ _ _ h => h) (by kernel_rfl) (Or.inl ⟨by kernel_rfl, ?_⟩) (by assumption) ?_
    rotate_left
    · (intro w hSw; (try dsimp only at hSw); go_simp <;> with_reducible rfl)
    simp only [Act.put, List.setIfInBounds_toArray, List.set_cons_zero, List.set_cons_succ]
    refine wpAnyH_ready (rs := [0, 3]) (by kernel_rfl) (by simp) ?_
    refine AllReadyH.cons rfl (fun K hK => ?_) (AllReadyH.cons rfl (fun K hK => ?_) AllReadyH.nil)
    · have l0 := KL.out V.drew (below_drew (Below.refl _ _))
      go_simp
      clear l0
      clear hHeld
      refine hK.out _ _ (KS.out _ (below_drew (Below.refl _ _))) (fun hHeld => ?_)
      clear hK K
      try simp only [Act.put, List.setIfInBounds_toArray, List.set_cons_zero, List.set_cons_succ]
      refine wpAnyH_ready (rs := [3]) (by kernel_rfl) (by simp) ?_
      refine AllReadyH.cons rfl (fun K hK => ?_) AllReadyH.nil
      go_simp
      (with_reducible refine (KK.out V.drew (below_drew (Below.refl _ _))).mono ?_); rintro e w6 ⟨rfl, b6⟩
      go_wp2_with fail
      have B6 : Below V.heap.size V w6 := (below_drew (Below.refl _ _)).trans b6
      clear b6
      clear hHeld
      refine hK.out _ _ (KS.out _ B6) (fun hHeld => ?_)
      clear hK K
      try simp only [Act.put, List.setIfInBounds_toArray, List.set_cons_zero, List.set_cons_succ]
      refine wpAnyH_ready (rs := [4]) (by kernel_rfl) (by simp) ?_
      refine AllReadyH.cons rfl (fun K hK => ?_) AllReadyH.nil
      go_simp
      have B7 : Below V.heap.size V (w6.alloc (.cells #[hv st, .bool un, uv sq] 70)) := B6.alloc B6.size _
      have L7 : Lies (w6.alloc (.cells #[hv st, .bool un, uv sq] 70)) (w6.heap.size + 1) (some ⟨w6.heap.size, 0, none⟩) [hv st, .bool un, uv sq] := Lies.newN w6 [hv st, .bool un, uv sq] 70
      have r7 := own_belowR hrow B7
      have x7 := hw.below B7 hw.lt
      have z7 := HI.out.bl.below B7 HI.out.bl.lt
      generalize (w6.alloc (.cells #[hv st, .bool un, uv sq] 70)) = w7 at *
      clear hHeld
      refine hK.out _ _ (KS.out _ B7) (fun hHeld => ?_)
      clear hK K
      try simp only [Act.put, List.setIfInBounds_toArray, List.set_cons_zero, List.set_cons_succ]
      refine wpAnyH_ready (rs := [5]) (by kernel_rfl) (by simp) ?_
      refine AllReadyH.cons rfl (fun K hK => ?_) AllReadyH.nil
      have hone : ∀ u ∈ [hv st, .bool un, uv sq], u.oneCell' = true := by intro u hu; simp at hu; rcases hu with rfl | rfl | rfl <;> rfl
      refine wp_append_wide14 (.tmp 29) (.tmp 33) 47 rfl w.heap.size 70 _ 3 8 Tryz.underlying47 fsinfo rfl (by omega) (.slice Av pre.length ac) pre.length _ rfl r7 _ (some ⟨w6.heap.size, 0, none⟩) 1 1 [hv st, .bool un, uv sq] rfl rfl L7 hone (by omega) (by unfold maxLen; omega) (Nat.le_trans HI.out.low.size B7.size) ?_
      intro v' w8 own8 gr8
      obtain ⟨A8, c8, rfl⟩ := own_slice2 own8
      have x8 : Whole w8 (w.heap.size + 1) 47 _ := x7.grown gr8 (fun e => whole_row_ne13 x7 (by decide) r7 e.symm)
      have z8 : Whole w8 (w.heap.size + 2) 4 #[.bool true] := z7.grown gr8 (fun e => whole_row_ne13 z7 (by decide) r7 e.symm)
      have B8 : ∀ k, k < V.heap.size → (Value.slice Av pre.length ac).ownBlock ≠ some k → w8.heap[k]? = V.heap[k]? := fun k hk hn => (gr8.block k (Nat.lt_of_lt_of_le hk B7.size) (fun e => hn e.symm)).trans (B7.block k hk)
      have low8 : Below w.heap.size V w8 := (B7.mono HI.out.low.size).grown gr8 (Nat.le_trans HI.out.low.size B7.size) (fun r e => (r7.lt r e).1)
      have e8 : w8.cell? ⟨w.heap.size + 1, 0, none⟩ = some (.slice Av pre.length ac) := x8.cell 0
      have f8 := x8.frozen 0
      clear hHeld
      refine hK.out _ _ (z8.cell 0) (fun hHeld => ?_)
      clear hK K
      try simp only [Act.put, List.setIfInBounds_toArray, List.set_cons_zero, List.set_cons_succ]
      refine wpAnyH_ready (rs := [6]) (by kernel_rfl) (by simp) ?_
      refine AllReadyH.cons rfl (fun K hK => ?_) AllReadyH.nil
      go_simp
      clear hHeld
      refine hK.out _ _ ((z8.far (p := ⟨w.heap.size + 1, 0, none⟩) (by show w.heap.size + 2 ≠ w.heap.size + 1; omega) _).cell 0) (fun hHeld => ?_)
      clear hK K
      try simp only [Act.put, List.setIfInBounds_toArray, List.set_cons_zero, List.set_cons_succ]
      refine wpAnyH_done (by kernel_rfl) ?_ _
      (try simp only [Exit.inBlock, Exit.then])
      exact fo_next x HI.out hrow hw x8 own8 HT.out B8 low8 hw2 HPL.out
    · go_simp
      (with_reducible refine (KK.out V.drew (below_drew (Below.refl _ _))).mono ?_); rintro e w6 ⟨rfl, b6⟩
      go_wp2_with fail
      have B6 : Below V.heap.size V w6 := (below_drew (Below.refl _ _)).trans b6
      clear b6
      clear hHeld
      refine hK.out _ _ (KS.out _ B6) (fun hHeld => ?_)
      clear hK K
      try simp only [Act.put, List.setIfInBounds_toArray, List.set_cons_zero, List.set_cons_succ]
      refine wpAnyH_ready (rs := [0, 4]) (by kernel_rfl) (by simp) ?_
      refine AllReadyH.cons rfl (fun K hK => ?_) (AllReadyH.cons rfl (fun K hK => ?_) AllReadyH.nil)
      · have l0 := KL.out w6 B6
        go_simp
        clear l0
        clear hHeld
        refine hK.out _ _ (KS.out _ B6) (fun hHeld => ?_)
        clear hK K
        try simp only [Act.put, List.setIfInBounds_toArray, List.set_cons_zero, List.set_cons_succ]
        refine wpAnyH_ready (rs := [4]) (by kernel_rfl) (by simp) ?_
        refine AllReadyH.cons rfl (fun K hK => ?_) AllReadyH.nil
        go_simp
        have B7 : Below V.heap.size V (w6.alloc (.cells #[hv st, .bool un, uv sq] 70)) := B6.alloc B6.size _
        have L7 : Lies (w6.alloc (.cells #[hv st, .bool un, uv sq] 70)) (w6.heap.size + 1) (some ⟨w6.heap.size, 0, none⟩) [hv st, .bool un, uv sq] := Lies.newN w6 [hv st, .bool un, uv sq] 70
        have r7 := own_belowR hrow B7
        have x7 := hw.below B7 hw.lt
        have z7 := HI.out.bl.below B7 HI.out.bl.lt
        generalize (w6.alloc (.cells #[hv st, .bool un, uv sq] 70)) = w7 at *
        clear hHeld
        refine hK.out _ _ (KS.out _ B7) (fun hHeld => ?_)
        clear hK K
        try simp only [Act.put, List.setIfInBounds_toArray, List.set_cons_zero, List.set_cons_succ]
        refine wpAnyH_ready (rs := [5]) (by kernel_rfl) (by simp) ?_
        refine AllReadyH.cons rfl (fun K hK => ?_) AllReadyH.nil
        have hone : ∀ u ∈ [hv st, .bool un, uv sq], u.oneCell' = true := by intro u hu; simp at hu; rcases hu with rfl | rfl | rfl <;> rfl
        refine wp_append_wide14 (.tmp 29) (.tmp 33) 47 rfl w.heap.size 70 _ 3 8 Tryz.underlying47 fsinfo rfl (by omega) (.slice Av pre.length ac) pre.length _ rfl r7 _ (some ⟨w6.heap.size, 0, none⟩) 1 1 [hv st, .bool un, uv sq] rfl rfl L7 hone (by omega) (by unfold maxLen; omega) (Nat.le_trans HI.out.low.size B7.size) ?_
        intro v' w8 own8 gr8
        obtain ⟨A8, c8, rfl⟩ := own_slice2 own8
        have x8 : Whole w8 (w.heap.size + 1) 47 _ := x7.grown gr8 (fun e => whole_row_ne13 x7 (by decide) r7 e.symm)
        have z8 : Whole w8 (w.heap.size + 2) 4 #[.bool true] := z7.grown gr8 (fun e => whole_row_ne13 z7 (by decide) r7 e.symm)
        have B8 : ∀ k, k < V.heap.size → (Value.slice Av pre.length ac).ownBlock ≠ some k → w8.heap[k]? = V.heap[k]? := fun k hk hn => (gr8.block k (Nat.lt_of_lt_of_le hk B7.size) (fun e => hn e.symm)).trans (B7.block k hk)
        have low8 : Below w.heap.size V w8 := (B7.mono HI.out.low.size).grown gr8 (Nat.le_trans HI.out.low.size B7.size) (fun r e => (r7.lt r e).1)
        have e8 : w8.cell? ⟨w.heap.size + 1, 0, none⟩ = some (.slice Av pre.length ac) := x8.cell 0
        have f8 := x8.frozen 0
        clear hHeld
        refine hK.out _ _ (z8.cell 0) (fun hHeld => ?_)
        clear hK K
        try simp only [Act.put, List.setIfInBounds_toArray, List.set_cons_zero, List.set_cons_succ]
        refine wpAnyH_ready (rs := [6]) (by kernel_rfl) (by simp) ?_
        refine AllReadyH.cons rfl (fun K hK => ?_) AllReadyH.nil
        go_simp
        clear hHeld
        refine hK.out _ _ ((z8.far (p := ⟨w.heap.size + 1, 0, none⟩) (by show w.heap.size + 2 ≠ w.heap.size + 1; omega) _).cell 0) (fun hHeld => ?_)
        clear hK K
        try simp only [Act.put, List.setIfInBounds_toArray, List.set_cons_zero, List.set_cons_succ]
        refine wpAnyH_done (by kernel_rfl) ?_ _
        (try simp only [Exit.inBlock, Exit.then])
        exact fo_next x HI.out hrow hw x8 own8 HT.out B8 low8 hw2 HPL.out
      · go_simp
        have B7 : Below V.heap.size V (w6.alloc (.cells #[hv st, .bool un, uv sq] 70)) := B6.alloc B6.size _
        have L7 : Lies (w6.alloc (.cells #[hv st, .bool un, uv sq] 70)) (w6.heap.size + 1) (some ⟨w6.heap.size, 0, none⟩) [hv st, .bool un, uv sq] := Lies.newN w6 [hv st, .bool un, uv sq] 70
        have r7 := own_belowR hrow B7
        have x7 := hw.below B7 hw.lt
        have z7 := HI.out.bl.below B7 HI.out.bl.lt
        generalize (w6.alloc (.cells #[hv st, .bool un, uv sq] 70)) = w7 at *
        clear hHeld
        refine hK.out _ _ (KS.out _ B7) (fun hHeld => ?_)
        clear hK K
        try simp only [Act.put, List.setIfInBounds_toArray, List.set_cons_zero, List.set_cons_succ]
        refine wpAnyH_ready (rs := [0]) (by kernel_rfl) (by simp) ?_
        refine AllReadyH.cons rfl (fun K hK => ?_) AllReadyH.nil
        have l0 := KL.out w7 B7
        go_simp
        clear l0
        clear hHeld
        refine hK.out _ _ (KS.out _ B7) (fun hHeld => ?_)
        clear hK K
        try simp only [Act.put, List.setIfInBounds_toArray, List.set_cons_zero, List.set_cons_succ]
        refine wpAnyH_ready (rs := [5]) (by kernel_rfl) (by simp) ?_
        refine AllReadyH.cons rfl (fun K hK => ?_) AllReadyH.nil
        have hone : ∀ u ∈ [hv st, .bool un, uv sq], u.oneCell' = true := by intro u hu; simp at hu; rcases hu with rfl | rfl | rfl <;> rfl
        refine wp_append_wide14 (.tmp 29) (.tmp 33) 47 rfl w.heap.size 70 _ 3 8 Tryz.underlying47 fsinfo rfl (by omega) (.slice Av pre.length ac) pre.length _ rfl r7 _ (some ⟨w6.heap.size, 0, none⟩) 1 1 [hv st, .bool un, uv sq] rfl rfl L7 hone (by omega) (by unfold maxLen; omega) (Nat.le_trans HI.out.low.size B7.size) ?_
        intro v' w8 own8 gr8
        obtain ⟨A8, c8, rfl⟩ := own_slice2 own8
        have x8 : Whole w8 (w.heap.size + 1) 47 _ := x7.grown gr8 (fun e => whole_row_ne13 x7 (by decide) r7 e.symm)
        have z8 : Whole w8 (w.heap.size + 2) 4 #[.bool true] := z7.grown gr8 (fun e => whole_row_ne13 z7 (by decide) r7 e.symm)
        have B8 : ∀ k, k < V.heap.size → (Value.slice Av pre.length ac).ownBlock ≠ some k → w8.heap[k]? = V.heap[k]? := fun k hk hn => (gr8.block k (Nat.lt_of_lt_of_le hk B7.size) (fun e => hn e.symm)).trans (B7.block k hk)
        have low8 : Below w.heap.size V w8 := (B7.mono HI.out.low.size).grown gr8 (Nat.le_trans HI.out.low.size B7.size) (fun r e => (r7.lt r e).1)
        have e8 : w8.cell? ⟨w.heap.size + 1, 0, none⟩ = some (.slice Av pre.length ac) := x8.cell 0
        have f8 := x8.frozen 0
        clear hHeld
        refine hK.out _ _ (z8.cell 0) (fun hHeld => ?_)
        clear hK K
        try simp only [Act.put, List.setIfInBounds_toArray, List.set_cons_zero, List.set_cons_succ]
        refine wpAnyH_ready (rs := [6]) (by kernel_rfl) (by simp) ?_
        refine AllReadyH.cons rfl (fun K hK => ?_) AllReadyH.nil
        go_simp
        clear hHeld
        refine hK.out _ _ ((z8.far (p := ⟨w.heap.size + 1, 0, none⟩) (by show w.heap.size + 2 ≠ w.heap.size + 1; omega) _).cell 0) (fun hHeld => ?_)
        clear hK K
        try simp only [Act.put, List.setIfInBounds_toArray, List.set_cons_zero, List.set_cons_succ]
        refine wpAnyH_done (by kernel_rfl) ?_ _
        (try simp only [Exit.inBlock, Exit.then])
        exact fo_next x HI.out hrow hw x8 own8 HT.out B8 low8 hw2 HPL.out
theorem fof_any (x : Ck) (hf : CkFine x) (A : Option Addr) (c : Nat) (K : Option Addr) (k : Nat) (w : World) (h : Chunk w w.heap.size A c K k x) (hh : Handle w) :
    Calls Tryz.prog 25 #[ckV x A c K k] w (OfW x w) := by
  cases hx : isW x with
  | false => exact fof_no x hx hf A c K k w h hh
  | true =>
    obtain ⟨h1, h2, h3, _⟩ := isW_all hx
    obtain ⟨t, fl, d, ks⟩ := x
    simp only at h1 h2 h3
    subst h2 h3
    cases hb : itW ⟨t, 0, d, []⟩ with
    | false =>
      rw [hb] at h1
      obtain rfl : t = 192 := h1
      exact fof_false d hx A c K k w h hh
    | true =>
      rw [hb] at h1
      obtain rfl : t = 194 := h1
      exact fof_true d hx A c K k w h hh
end Go.Proofs.YtmohbkniekeafaaGreatDoor


