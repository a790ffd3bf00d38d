/- Layer 12: the reference's Parse (written by tools/gen_chunk_w.py). It writes nothing that was there. -/
import Derived.Test.YthkbcpbgoefanaaGreatDoorQCT
import Derived.Test.YthkbcpbgoefanaaGreatDoorQCR
import Derived.Test.YthkbcpbgoefanaaGreatDoorQCM
import Derived.Test.YthkbcpbgoefanaaGreatDoorQNodePX
import Derived.Test.YthkbcpbgoefanaaGreatDoorQK
import Derived.BigGuard
import Derived.Deep.RegionHeld3
namespace Go.Proofs.YthkbcpbgoefanaaGreatDoor
open Go.RowKit

set_option linter.unusedSimpArgs false
/-- how the reference's Parse ends: what is read lies below B or in new blocks -/
def RCR (w : World) (B : Nat) (r : CR) (e : Ending) (w' : World) : Prop := Below w.heap.size w w' ∧ match r with
  | .ok x => ∃ A c K k, e = .returned (.tuple #[ckV x A c K k, .int .i64 0, .int .i64 0]) ∧ ChunkS w' (fun q => q < B ∨ (w.heap.size ≤ q ∧ q < w'.heap.size)) A c K k x
  | .bad code a => e = .returned (.tuple #[zck, .int .i64 (code : Int), .int .i64 (a : Int)])
theorem rcr_bad {w w' : World} {B : Nat} {r : CR} {code a : Nat} (hr : r = .bad code a) (hb : Below w.heap.size w w') {x y : Int} (hx : x = (code : Int)) (hy : y = (a : Int)) : RCR w B r (.returned (.tuple #[zck, .int .i64 x, .int .i64 y])) w' := by
  subst hr hx hy
  exact ⟨hb, rfl⟩
theorem Whole.cs4 {W : World} {g : Nat} {t : TypeId} {a b c d : Value} (hW : Whole W g t #[a, b, c, d]) : W.cell? ⟨g, 0, none⟩ = some a ∧ W.cell? ⟨g, 1, none⟩ = some b ∧ W.cell? ⟨g, 2, none⟩ = some c ∧ W.cell? ⟨g, 3, none⟩ = some d := by
  refine ⟨?_, ?_, ?_, ?_⟩ <;> (rw [hW.cell]; rfl)
set_option maxRecDepth 100000 in
set_option maxHeartbeats 4000000 in
/-- no bytes, whatever the class -/
theorem rparse_nil (c : Int) (A : Option Addr) (cc at_ : Nat) (w : World) (hm : cc ≤ maxLen) :
    Calls Tryz.prog 76 #[.int .i64 c, .slice A 0 cc, .int .i64 (at_ : Int), .int .i64 1] w fun e w' => e = .returned (.agg #[.slice none 0 0, .int .i64 0, .int .i64 0]) ∧ Below w.heap.size w w' := by
  have hz0 : Below w.heap.size w (w.alloc (.cells #[.slice none 0 0, .int .i64 0, .int .i64 0] 111)) := (Below.refl _ w).alloc (Nat.le_refl _) _
  have q8 := Whole.new w 111 #[.slice none 0 0, .int .i64 0, .int .i64 0]
  have hSp := rsplit_any 0 A cc [] (w.alloc (.cells #[.slice none 0 0, .int .i64 0, .int .i64 0] 111)) (Nat.zero_le _) (fun h => absurd rfl h) (Nat.zero_le _) hm (by simp)
  have hy : (yla ([] : List UInt8) 0) = [] := yla_none (by simp [fa])
  go_enter Tryz.func76, Tryz.ntmps76
  go_wp2_with fail
  refine Calls.mono (R := SGives (w.alloc (.cells #[.slice none 0 0, .int .i64 0, .int .i64 0] 111)) 0 []) hSp ?_
  rintro e w1 ⟨b1, ⟨A1, c1, A2, c2, us, hsp, rfl, L1, hul, hE1, L2, hc2, hm2⟩ | ⟨code, k, A1, n1, c1, A2, n2, c2, hsp, rfl⟩⟩
  rotate_left
  · exfalso
    unfold spl at hsp
    rw [hy] at hsp
    cases hsp
  rw [hy]
  clear hSp hsp hE1 hul L1 L2 hy
  have q8' := (q8.below b1 (by simp)).alloc (.cells #[.slice A1 0 c1, .slice A2 0 c2, .int .i64 0, .int .i64 0] 166)
  have q9 := Whole.new w1 166 #[.slice A1 0 c1, .slice A2 0 c2, .int .i64 0, .int .i64 0]
  have b10 := hz0.trans (b1.mono (by simp))
  have b20 := b10.alloc b10.size (.cells #[.slice A1 0 c1, .slice A2 0 c2, .int .i64 0, .int .i64 0] 166)
  have hs1 : w1.heap.size < (w1.alloc (.cells #[.slice A1 0 c1, .slice A2 0 c2, .int .i64 0, .int .i64 0] 166)).heap.size := by simp
  go_upto_region 2 with fail
  try simp only [List.length_nil]
  generalize w1.alloc (.cells #[.slice A1 0 c1, .slice A2 0 c2, .int .i64 0, .int .i64 0] 166) = w2 at *
  have zs2 := q9.cell 2
  simp only [List.getElem?_toArray, List.getElem?_cons_zero, List.getElem?_cons_succ] at zs2
  go_upto_region 5 with fail
  have q88 := q8'.alloc (.cells #[.slice none 0 0, .int .i64 0, .int .i64 0] 111)
  have q99 := q9.alloc (.cells #[.slice none 0 0, .int .i64 0, .int .i64 0] 111)
  have q10 := Whole.new w2 111 #[.slice none 0 0, .int .i64 0, .int .i64 0]
  have b30 := b20.alloc b20.size (.cells #[.slice none 0 0, .int .i64 0, .int .i64 0] 111)
  generalize w2.alloc (.cells #[.slice none 0 0, .int .i64 0, .int .i64 0] 111) = w3 at *
  clear zs2 q8' q9 b20
  go_wp2_with fail
  go_loopw [11] (fun i wr => i = .int .i64 0 ∧ wr = w3) (fun _ _ => 0)
  case atStart => exact ⟨rfl, rfl⟩
  case round =>
    obtain ⟨rfl, rfl⟩ := hrel
    have z100 := q10.cell 0
    have z101 := q10.cell 1
    have z102 := q10.cell 2
    have zr0 := q88.cell 0
    have zr1 := q88.cell 1
    have zr2 := q88.cell 2
    have yr0 := q88.frozen 0
    have yr1 := q88.frozen 1
    have yr2 := q88.frozen 2
    have y90 := q99.cell 0
    simp only [List.getElem?_toArray, List.getElem?_cons_zero, List.getElem?_cons_succ] at z100 z101 z102 zr0 zr1 zr2 y90
    go_wp2_with fail
    (try simp only [Exit.inBlock, Exit.then])
    refine bodyPost_ret (results_cell_row rfl _ _ w.heap.size 111 #[.slice none 0 0, .int .i64 0, .int .i64 0] (0, 0) _ rfl (((q88.set_ 0 _).set_ 1 _).set_ 2 _) Tryz.underlying111 rfl (by kernel_rfl)) rfl ?_
    exact ⟨rfl, ((b30.setCell (Nat.le_refl _) _).setCell (Nat.le_refl _) _).setCell (Nat.le_refl _) _⟩
theorem kids_row {W : World} {B G g : Nat} {A : Option Addr} {ks : List Nd} (h : NodesS W (fun x => x < B ∨ (G ≤ x ∧ x < W.heap.size)) A ks) (hB : B ≤ g) (hg : g < G) (cs : Array Value) :
    NodesS (W.setRow g cs) (fun y => y < B ∨ (g ≤ y ∧ y < (W.setRow g cs).heap.size)) A ks := by
  have hsz := (below_setRow (Below.refl 0 W) (Nat.zero_le g) cs).size
  refine h.turn (fun p hp => World.cell?_of_block (setRow_other W g p.block cs (by rcases hp with hp | hp <;> omega))) (fun y hy => ?_)
  rcases hy with hy | hy
  · exact .inl hy
  · exact .inr ⟨by omega, by omega⟩
theorem wgOf_le (d : List UInt8) : wgOf d ≤ d.length + 4 := by
  unfold wgOf
  cases h : grp d with
  | none => simp; omega
  | some g =>
    unfold grp at h
    have := List.mem_of_find?_eq_some h
    rw [List.mem_range] at this
    simp
    omega
theorem kin_ki (t : UInt8) : kin t = decide ((kdOf t).ki ≠ 0) := by
  unfold kin
  have h := kdOf_ki t
  generalize (kdOf t).ki = i at *
  have h7 : i = 0 ∨ i = 1 ∨ i = 2 ∨ i = 3 ∨ i = 4 ∨ i = 5 ∨ i = 6 := by omega
  rcases h7 with rfl | rfl | rfl | rfl | rfl | rfl | rfl <;> decide
theorem rcr_fin {w w' : World} {B : Nat} {P : Option Addr} {c4 : Nat} {K : Option Addr} {k : Nat} {t fl : UInt8} {d : List UInt8} {ns : List Nd} (hB : B ≤ w.heap.size) (hL : Lies w B P (d.map bv)) (hb : Below w.heap.size w w') (h1 : d.length ≤ c4) (h2 : c4 ≤ maxLen)
    (hN : NodesS w' (fun q => q < B ∨ (w.heap.size ≤ q ∧ q < w'.heap.size)) K ns) (h3 : ns.length ≤ k) (h4 : k ≤ maxLen) : ChunkS w' (fun q => q < B ∨ (w.heap.size ≤ q ∧ q < w'.heap.size)) P c4 K k ⟨t, fl, d, ns⟩ :=
  ⟨fun hne => by
    obtain ⟨ad, g1, g2, g3⟩ := hL hne
    exact ⟨ad, g1, .inl g2, fun j u hu => (hb.cell (p := ad.add j) (by rw [blk_add]; omega)).trans (g3 j u hu)⟩, h1, h2, hN, h3, h4⟩
set_option maxRecDepth 100000 in
set_option maxHeartbeats 16000000 in
theorem rparse12_whole (b : List UInt8) (hs : b.length ≤ 2000) (hwh : whB b = true) (B : Nat) (A : Option Addr) (c : Nat) (w : World) (hB : B ≤ w.heap.size) (h : Lies w B A (b.map bv)) (hc : b.length ≤ c) (hm : c ≤ maxLen) :
    Calls Tryz.prog 25 #[.slice A b.length c] w (RCR w B (cpa b)) := by
  have z0 := Whole.new w 25 #[.int .u8 0, .int .u8 0, .slice none 0 0, .slice none 0 0]
  have hz0 : Below w.heap.size w (w.alloc (.cells #[.int .u8 0, .int .u8 0, .slice none 0 0, .slice none 0 0] 25)) := (Below.refl _ w).alloc (Nat.le_refl _) _
  obtain ⟨h4, h2⟩ : 4 ≤ b.length ∧ num2 b 2 = b.length := by unfold whB at hwh; simpa using hwh
  have hfb := fr_bounds h4
  have HC : Hid (cpa b = if flB (frontC b) = true then .bad 6 1 else if daB (frontC b) = true then .bad 7 0 else if cntC (frontC b) = true then .bad 8 12 else match cvalO (frontC b) with
    | some a => .bad 11 a
    | none => match pa 4 (kc (b.getD 0 0)) (b.drop (frO b)) with
      | .bad code k => .bad code (k + frO b)
      | .ok ns => if kidP (kdOf (b.getD 0 0)).ki ns = true then .bad 7 0 else .ok ⟨b.getD 0 0, b.getD 1 0, (frontC b).d, ns⟩) := by
    unfold Hid cpa ck4
    rw [if_neg (by simp [hwh])]
    cases flB (frontC b) <;> cases daB (frontC b) <;> cases cntC (frontC b) <;> cases cvalO (frontC b) <;> rfl
  have hne : b.map bv ≠ [] := fun e => by rw [List.map_eq_nil_iff] at e; rw [e] at h4; simp at h4
  obtain ⟨ad, rfl, hadb, hcl⟩ := h hne
  have e0 : Hid (∀ W, Below w.heap.size w W → W.cell? ad = some (bv (b.getD 0 0))) := fun W hW => byte_cell0 (h.below (hW.mono hB)) (by omega)
  have e1 : Hid (∀ W, Below w.heap.size w W → W.cell? ⟨ad.block, ad.off + 1, none⟩ = some (bv (b.getD 1 0))) := fun W hW => byte_cell (h.below (hW.mono hB)) (by omega) (by omega)
  have HL : Hid (∀ W, Below w.heap.size w W → Lies W B (some ad) (b.map bv)) := fun W hW => h.below (hW.mono hB)
  have hN : ∀ W, Below (w.alloc (.cells #[.int .u8 0, .int .u8 0, .slice none 0 0, .slice none 0 0] 25)).heap.size (w.alloc (.cells #[.int .u8 0, .int .u8 0, .slice none 0 0, .slice none 0 0] 25)) W → Calls Tryz.prog 75 #[.slice (some ad) b.length c, .int .i64 (2 : Int)] W fun e w' => e = .returned (.int .i64 (b.length : Int)) ∧ Below W.heap.size W w' := fun W hW => by
    have h9 := rnumber12 (some ad) c b 2 (by omega) (by omega) (by omega) W ((HL.out W (hz0.trans (hW.mono hz0.size))).more (by have := hz0.size; have := hW.size; omega))
    rw [h2] at h9
    exact h9
  have HN := Lib.hid hN
  clear hN
  have HFD : Hid (frO b = 4 + (frontC b).d.length ∧ (frontC b).d.length ≤ b.length - 4) := by
    unfold Hid frontC
    simp only [List.length_take, List.length_drop]
    omega
  have HPC : Hid (∀ i, Lies w B (some (ad.add i)) ((b.drop i).map bv)) := fun i => by
    have h9 := lies_piece h i (b.length - i)
    rwa [List.take_of_length_le (by simp)] at h9
  have hI0 : (0 : Int) < (b.length : Int) := by omega
  have hI1 : (1 : Int) < (b.length : Int) := by omega
  have hI4 : (4 : Int) ≤ (b.length : Int) := by omega
  have hIc : (b.length : Int) ≤ (c : Int) := by omega
  have hlb0 : 0 < b.length := by omega
  have hbn : b ≠ [] := fun e => hne (by rw [e]; rfl)
  obtain ⟨P, hPP⟩ : ∃ P : Option Addr, (if c = 4 then some ad else some ⟨ad.block, ad.off + 4, none⟩) = P := ⟨_, rfl⟩
  have HLP : Hid (Lies w B P ((frontC b).d.map bv) ∧ (frontC b).d.length ≤ c - 4 ∧ c - 4 ≤ maxLen) := by
    have h9 := HFD.out
    refine ⟨?_, by omega, by omega⟩
    rw [← hPP]
    by_cases h : c = 4
    · rw [if_pos h, List.eq_nil_of_length_eq_zero (show (frontC b).d.length = 0 by omega)]
      exact Lies.nil
    · rw [if_neg h]
      exact lies_piece (by assumption) 4 _
  have hO := rkof_any (b.getD 0 0)
  rw [kV_of] at hO
  have HXT : Hid (frontC b = ⟨b.getD 0 0, b.getD 1 0, (frontC b).d, []⟩) := rfl
  have hflB : flB (frontC b) = (kn (b.getD 0 0) && mskB (b.getD 1 0).toNat (kdOf (b.getD 0 0)).ms.toNat) := rfl
  have hdaB : daB (frontC b) = (kn (b.getD 0 0) && !kfitsB (kdOf (b.getD 0 0)) ((frontC b).d.length : Int)) := rfl
  rw [hflB, hdaB] at HC
  have hM := fun h : kn (b.getD 0 0) = true => and_all _ (ms_cases h) (b.getD 1 0).toNat (b.getD 1 0).toNat_lt
  have HUK : Hid (kn (b.getD 0 0) = false → (frontC b).d.length = b.length - 4 ∧ cpa b = .ok ⟨b.getD 0 0, b.getD 1 0, (frontC b).d, []⟩) := fun hk => by
    have hfr : frO b = b.length := by
      unfold frO
      rw [if_neg]
      rw [kin_ki, kdOf_zero hk]
      decide
    have h9 := HFD.out
    refine ⟨by omega, ?_⟩
    have h8 := HC.out
    rw [hk] at h8
    have h7 : cntC (frontC b) = false := by unfold cntC; rw [decide_eq_false (fun e => by have e' : b.getD 0 0 = 3 := e; rw [e'] at hk; exact absurd hk (by decide)), Bool.false_and]
    have h6 : cvalO (frontC b) = none := by
      unfold cvalO
      rw [if_neg (fun e => by have e' : b.getD 0 0 = 64 := e; rw [e'] at hk; exact absurd hk (by decide)), if_neg (fun e => by have e' : b.getD 0 0 = 194 := e; rw [e'] at hk; exact absurd hk (by decide))]
    rw [h7, h6, hfr, List.drop_of_length_le (Nat.le_refl _), pa_nil12, kdOf_zero hk] at h8
    rw [h8]
    rfl
  have HDL : Hid (kn (b.getD 0 0) = true → kfitsB (kdOf (b.getD 0 0)) ((frontC b).d.length : Int) = true → daB (frontC b) = false) := fun h1 h2 => by rw [hdaB, h1, h2]; rfl
  have hdl1 : (frontC b).d.length ≤ 1000000 := by have := HFD.out; omega
  have HFT := Lib.hid (fun h : kn (b.getD 0 0) = true => fun W => rkfits_any (kdOf (b.getD 0 0)) (kdOf_tame h) ((frontC b).d.length : Int) W)
  have HCO : Hid (kn (b.getD 0 0) = true → kfitsB (kdOf (b.getD 0 0)) ((frontC b).d.length : Int) = true → ∀ W, Lies W W.heap.size P ((frontC b).d.map bv) → Calls Tryz.prog 51 #[bv (b.getD 0 0), .slice P (frontC b).d.length (c - 4)] W fun e w' => e = .returned (.bool (!cntC (frontC b))) ∧ Below W.heap.size W w') := fun h1 h2 W hW => rcounted12 (frontC b) hdl1 (fun ht => da_sack (HDL.out h1 h2) ht) P (c - 4) W hW
  have HOD : Hid (kn (b.getD 0 0) = true → kfitsB (kdOf (b.getD 0 0)) ((frontC b).d.length : Int) = true → ∀ W, Lies W W.heap.size P ((frontC b).d.map bv) → Calls Tryz.prog 52 #[bv (b.getD 0 0), .slice P (frontC b).d.length (c - 4)] W fun e w' => e = .returned (.int .i64 (oddI (frontC b))) ∧ Below W.heap.size W w') := fun h1 h2 W hW => rodd12 (frontC b) hdl1 (fun ht => da_idata (HDL.out h1 h2) ht) (fun ht => da_ifwd (HDL.out h1 h2) ht) P (c - 4) W hW
  have HCL := Lib.hid (fun W => rclass12 (kdOf (b.getD 0 0)).ki (kdOf_ki (b.getD 0 0)) W)
  have HWA := Lib.hid (fun (ns : List Nd) (hl : ns.length ≤ 1000000000) (K : Option Addr) (k : Nat) (W : World) (hN : Nodes W W.heap.size K ns) => rwanted12 (kdOf (b.getD 0 0)) (kdOf_ki (b.getD 0 0)) ns hl K k W hN)
  have HOI : Hid (∀ a, cvalO (frontC b) = some a → 0 ≤ oddI (frontC b) ∧ 4 + oddI (frontC b) = (a : Int) ∧ a ≤ 100000000) := fun a ha => by
    have hw := wgOf_le (frontC b).d
    unfold oddI
    rw [ha]
    unfold cvalO at ha
    simp only []
    split at ha
    · split at ha
      · cases ha; omega
      · cases ha
    · split at ha
      · split at ha
        · cases ha; omega
        · cases ha
      · cases ha
  have HON : Hid (cvalO (frontC b) = none → oddI (frontC b) = -1) := fun ha => by unfold oddI; rw [ha]
  have HKI : Hid (kn (b.getD 0 0) = true → ((kdOf (b.getD 0 0)).ki = 0 → (frontC b).d.length = b.length - 4) ∧ ((kdOf (b.getD 0 0)).ki ≠ 0 → min (kdOf (b.getD 0 0)).lo ((b.length - 4 : Nat) : Int) = ((frontC b).d.length : Int))) := fun hk => by
    have h9 := HFD.out
    have h8 := (kT_all _ (kdOf_mem hk).1).1
    unfold frO at h9
    rw [kin_ki] at h9
    constructor
    · intro h0
      rw [if_neg (by rw [h0]; decide)] at h9
      omega
    · intro h0
      rw [if_pos (by simpa using h0)] at h9
      omega
  have HP8 : Hid (kn (b.getD 0 0) = true → ∀ (Q : Option Addr) (cq : Nat) (W : World), Below w.heap.size w W → Lies W B Q ((b.drop (frO b)).map bv) → b.length - frO b ≤ cq → cq ≤ maxLen → Calls Tryz.prog 76 #[.int .i64 (rcl (kdOf (b.getD 0 0)).ki), .slice Q (b.length - frO b) cq, .int .i64 ((frO b : Nat) : Int), .int .i64 1] W (RP W B (pa 4 (kc (b.getD 0 0)) (b.drop (frO b))) (frO b))) := fun hk Q cq W hW hL h1 h2 => by
    by_cases h0 : (kdOf (b.getD 0 0)).ki = 0
    · have hfr : frO b = b.length := by
        unfold frO
        rw [kin_ki, if_neg (by rw [h0]; decide)]
      rw [hfr, List.drop_of_length_le (Nat.le_refl _), pa_nil12, Nat.sub_self]
      refine (rparse_nil _ Q cq _ W h2).mono ?_
      rintro e w' ⟨rfl, h3⟩
      exact ⟨h3, none, 0, rfl, NodesS.nil _ _ _, Nat.le_refl _, Nat.zero_le _⟩
    · rw [rcl_kc h0]
      have h9 := rparse_all 4 (kc (b.getD 0 0)) (b.drop (frO b)) (frO b) 1 B Q cq W rfl (kc_or _) (Nat.le_trans hB hW.size) hL (by rw [List.length_drop]; exact h1) h2 (by rw [List.length_drop]; omega) (by rw [List.length_drop]; omega)
      rw [List.length_drop] at h9
      exact h9
  have HPL : Hid (∀ ns, pa 4 (kc (b.getD 0 0)) (b.drop (frO b)) = .ok ns → ns.length ≤ 1000000000) := fun ns hp => by
    have := pa_len hp
    rw [List.length_drop] at this
    omega
  have HPQ := Lib.hid (HPC.out (frO b))
  have HPZ : Hid (b.length ≤ frO b → ∃ ns, pa 4 (kc (b.getD 0 0)) (b.drop (frO b)) = .ok ns) := fun h9 => ⟨[], by rw [List.drop_of_length_le h9, pa_nil12]⟩
  have HFE : Hid (kn (b.getD 0 0) = true → (kdOf (b.getD 0 0)).ki = 0 → b.length ≤ frO b) := fun hk h0 => by
    unfold frO
    rw [kin_ki, if_neg (by rw [h0]; decide)]
    exact Nat.le_refl _
  have HPN : Hid (∀ code j, pa 4 (kc (b.getD 0 0)) (b.drop (frO b)) = .bad code j → code ≠ 0) := fun code j h => pa_code h
  have HKG := Lib.hid (kdOf_ki (b.getD 0 0))
  have HLW : Hid (∀ W, Below w.heap.size w W → Lies W W.heap.size P ((frontC b).d.map bv)) := fun W hW => (HLP.out.1.below (hW.mono hB)).more (Nat.le_trans hB hW.size)
  have HFR : Hid ((4 : Int) + ((frontC b).d.length : Int) = ((frO b : Nat) : Int)) := by have := HFD.out; unfold Hid; omega
  generalize (frontC b).d = d at *
  generalize kdOf (b.getD 0 0) = f at *
  generalize kn (b.getD 0 0) = kb at *
  generalize b.getD 0 0 = t at *
  generalize b.getD 1 0 = fl at *
  generalize cntC (frontC b) = cb at *
  generalize cvalO (frontC b) = ov at *
  generalize oddI (frontC b) = oi at *
  generalize pa 4 (kc t) (b.drop (frO b)) = pr at *
  generalize frO b = fr at *
  obtain ⟨ty, nm, mk, lo, hi, un, ki⟩ := f
  unfold Kd.val at hO HFT HWA
  simp only [] at hO hM HC HUK HFT HCO HOD HCL HWA HKI HP8 HKG HFE
  generalize hfbe : kfitsB ⟨ty, nm, mk, lo, hi, un, ki⟩ (d.length : Int) = fb at *
  generalize cpa b = res at *
  clear hwh hne hcl h2 h4 hflB hdaB HDL hfbe HXT HPC
  go_enter Tryz.func25, Tryz.ntmps25
  go_wp2_with fail
  refine (HN.out _ (by first | exact Below.refl _ _ | exact (Below.refl _ _).alloc (Nat.le_refl _) _)).mono ?_
  rintro e w1 ⟨rfl, b1⟩
  have z1 := z0.below b1 (by simp)
  have hb1 := hz0.trans (b1.mono (by simp))
  go_upto_region 3 with fail
  have s0 := e0.out _ hb1
  have s1 := e1.out _ hb1
  go_region_held3 (fun W => W.cell? ad = some (bv t) ∧ W.cell? ⟨ad.block, ad.off + 1, none⟩ = some (bv fl)) (go_keep) (fail)
  have x2 : Whole (w1.alloc (.cells #[.int .u8 (t.toNat : Int), .int .u8 (fl.toNat : Int), .slice P (b.length - 4) (c - 4), .slice none 0 0] 25)).drew w1.heap.size 25 #[bv t, bv fl, .slice P (b.length - 4) (c - 4), .slice none 0 0] := Whole.new w1 _ _
  have z2 : Whole (w1.alloc (.cells #[.int .u8 (t.toNat : Int), .int .u8 (fl.toNat : Int), .slice P (b.length - 4) (c - 4), .slice none 0 0] 25)).drew w.heap.size 25 #[.int .u8 0, .int .u8 0, .slice none 0 0, .slice none 0 0] := z1.alloc (.cells #[.int .u8 (t.toNat : Int), .int .u8 (fl.toNat : Int), .slice P (b.length - 4) (c - 4), .slice none 0 0] 25)
  have hb2 : Below w.heap.size w (w1.alloc (.cells #[.int .u8 (t.toNat : Int), .int .u8 (fl.toNat : Int), .slice P (b.length - 4) (c - 4), .slice none 0 0] 25)).drew := below_drew (hb1.alloc hb1.size _)
  have hg1 : w1.heap.size < (w1.alloc (.cells #[.int .u8 (t.toNat : Int), .int .u8 (fl.toNat : Int), .slice P (b.length - 4) (c - 4), .slice none 0 0] 25)).drew.heap.size := by show w1.heap.size < (w1.alloc (.cells #[.int .u8 (t.toNat : Int), .int .u8 (fl.toNat : Int), .slice P (b.length - 4) (c - 4), .slice none 0 0] 25)).heap.size; simp
  have hg0 : w.heap.size < w1.heap.size := z1.lt
  generalize (w1.alloc (.cells #[.int .u8 (t.toNat : Int), .int .u8 (fl.toNat : Int), .slice P (b.length - 4) (c - 4), .slice none 0 0] 25)).drew = w2 at *
  generalize w1.heap.size = g1 at *
  generalize b.length - 4 = n4 at *
  generalize c - 4 = c4 at *
  clear b1 hb1 z1 s0 s1 hz0 z0 HN e0 e1
  obtain ⟨q0, q1, q2, q3⟩ := x2.cs4
  go_wp2_with fail
  refine (hO _).mono ?_
  rintro e w3 ⟨rfl, b3⟩
  have hb3 := hb2.trans (b3.mono hb2.size)
  have z4 := (z2.below b3 z2.lt).alloc (.cells #[bv ty, .string nm, bv mk, .int .i64 lo, .int .i64 hi, .int .i64 un, .int .i64 ki] 45)
  have x4 := (x2.below b3 x2.lt).alloc (.cells #[bv ty, .string nm, bv mk, .int .i64 lo, .int .i64 hi, .int .i64 un, .int .i64 ki] 45)
  have k4 := Whole.new w3 45 #[bv ty, .string nm, bv mk, .int .i64 lo, .int .i64 hi, .int .i64 un, .int .i64 ki]
  have hb4 := hb3.alloc hb3.size (.cells #[bv ty, .string nm, bv mk, .int .i64 lo, .int .i64 hi, .int .i64 un, .int .i64 ki] 45)
  have hg2 : g1 < w3.heap.size := by have := b3.size; omega
  go_upto_region 5 with fail
  generalize w3.alloc (.cells #[bv ty, .string nm, bv mk, .int .i64 lo, .int .i64 hi, .int .i64 un, .int .i64 ki] 45) = w4 at *
  generalize w3.heap.size = g2 at *
  clear q0 q1 q2 q3 b3 hb2 hb3 z2 x2 hO
  obtain ⟨q0, q1, q2, q3⟩ := x4.cs4
  have r2 := x4.frozen 2
  have r3 := x4.frozen 3
  obtain ⟨d0, d1, d2, d3, d4, d5, d6⟩ := k4.kd7
  cases kb with
  | false =>
    obtain ⟨hmn, hcp⟩ := HUK.out rfl
    subst hmn
    have HR := Lib.hid hcp
    have HFIN : Hid (∀ cs, ChunkS (w4.setRow w.heap.size cs) (fun q => q < B ∨ (w.heap.size ≤ q ∧ q < (w4.setRow w.heap.size cs).heap.size)) P c4 none 0 ⟨t, fl, d, []⟩) := fun cs => rcr_fin hB HLP.out.1 (below_setRow hb4 (Nat.le_refl _) cs) HLP.out.2.1 HLP.out.2.2 (NodesS.nil _ _ _) (Nat.le_refl _) (Nat.zero_le _)
    clear HC
    go_wp2_with (first | (at_builtin; fail) | (refine wpList_store_row rfl 25 _ _ rfl w.heap.size #[bv t, bv fl, .slice P d.length c4, .slice none 0 0] rfl rfl _ _ z4 (by kernel_rfl) rfl (by simp [Value.oneCell']) ?_))
    (try simp only [Exit.inBlock, Exit.then])
    refine bodyPost_ret (results_row_tmp2 rfl _ _ w.heap.size 25 _ _ rfl (z4.setRow _) Tryz.underlying25 rfl (by kernel_rfl)) rfl ?_
    try rw [HR.out]
    refine ⟨below_setRow hb4 (Nat.le_refl _) _, P, c4, none, 0, rfl, ?_⟩
    exact HFIN.out _
  | true =>
    have hm0 := hM rfl
    have w5 : wrap64 (fl.toNat : Int) = (fl.toNat : Int) := by have := fl.toNat_lt; unfold wrap64; omega
    have w6 : wrap64 (mk.toNat : Int) = (mk.toNat : Int) := by have := mk.toNat_lt; unfold wrap64; omega
    have w7 : wrap64 (255 - (mk.toNat : Int)) = 255 - (mk.toNat : Int) := by have := mk.toNat_lt; unfold wrap64; omega
    have hm9 : (bits BinOp.and IntKind.i64 (wrap64 (fl.toNat : Int)) (wrap64 (255 - wrap64 (mk.toNat : Int))) != 0) = mskB fl.toNat mk.toNat := by rw [w6, w7, w5]; exact hm0
    clear w5 w6 w7 hm0
    generalize mskB fl.toNat mk.toNat = mb at *
    clear hM HUK
    cases mb with
    | true =>
      have HR : Hid (res = .bad 6 1) := HC.out
      clear HC
      go_wp2_with (first | (at_builtin; fail) | (refine wpList_store_row rfl 25 _ _ rfl w.heap.size #[.int .u8 0, .int .u8 0, .slice none 0 0, .slice none 0 0] rfl rfl _ _ z4 (by kernel_rfl) rfl (by simp [Value.oneCell']) ?_))
      (try simp only [Exit.inBlock, Exit.then])
      refine bodyPost_ret (results_row_tmp2 rfl _ _ w.heap.size 25 _ _ rfl (z4.setRow _) Tryz.underlying25 rfl (by kernel_rfl)) rfl ?_
      exact rcr_bad HR.out (below_setRow hb4 (Nat.le_refl _) _) (by first | rfl | omega) (by first | rfl | omega)
    | false =>
      obtain ⟨hk0, hk1⟩ := HKI.out rfl
      clear HKI
      by_cases hki : ki = 0
      · have hkz : ¬ (0 : Int) < ki := by omega
        have e9 := hk0 hki
        subst e9
        clear hk0 hk1
        subst hki
        go_wp2_with fail
        refine (HFT.out (by first | exact rfl | trivial) _).mono ?_
        rintro e w5 ⟨rfl, b5⟩
        have hb5 := hb4.trans (b5.mono hb4.size)
        have z5 := z4.below b5 z4.lt
        have x5 := x4.below b5 x4.lt
        have k5 := k4.below b5 k4.lt
        clear q0 q1 q2 q3 r2 r3 d0 d1 d2 d3 d4 d5 d6
        obtain ⟨q0, q1, q2, q3⟩ := x5.cs4
        have r2 := x5.frozen 2
        have r3 := x5.frozen 3
        obtain ⟨d0, d1, d2, d3, d4, d5, d6⟩ := k5.kd7
        cases fb with
        | false =>
          have HR : Hid (res = .bad 7 0) := HC.out
          clear HC
          go_wp2_with (first | (at_builtin; fail) | (refine wpList_store_row rfl 25 _ _ rfl w.heap.size #[.int .u8 0, .int .u8 0, .slice none 0 0, .slice none 0 0] rfl rfl _ _ z5 (by kernel_rfl) rfl (by simp [Value.oneCell']) ?_))
          (try simp only [Exit.inBlock, Exit.then])
          refine bodyPost_ret (results_row_tmp2 rfl _ _ w.heap.size 25 _ _ rfl (z5.setRow _) Tryz.underlying25 rfl (by kernel_rfl)) rfl ?_
          exact rcr_bad HR.out (below_setRow hb5 (Nat.le_refl _) _) (by first | rfl | omega) (by first | rfl | omega)
        | true =>
          go_wp2_with fail
          refine (HCO.out (by first | exact rfl | trivial) (by first | exact rfl | trivial) _ (HLW.out _ hb5)).mono ?_
          rintro e w6 ⟨rfl, b6⟩
          have hb6 := hb5.trans (b6.mono hb5.size)
          have z6 := z5.below b6 z5.lt
          have x6 := x5.below b6 x5.lt
          have k6 := k5.below b6 k5.lt
          clear q0 q1 q2 q3 r2 r3 d0 d1 d2 d3 d4 d5 d6
          obtain ⟨q0, q1, q2, q3⟩ := x6.cs4
          have r2 := x6.frozen 2
          have r3 := x6.frozen 3
          obtain ⟨d0, d1, d2, d3, d4, d5, d6⟩ := k6.kd7
          cases cb with
          | true =>
            have HR : Hid (res = .bad 8 12) := HC.out
            clear HC
            go_wp2_with (first | (at_builtin; fail) | (refine wpList_store_row rfl 25 _ _ rfl w.heap.size #[.int .u8 0, .int .u8 0, .slice none 0 0, .slice none 0 0] rfl rfl _ _ z6 (by kernel_rfl) rfl (by simp [Value.oneCell']) ?_))
            (try simp only [Exit.inBlock, Exit.then])
            refine bodyPost_ret (results_row_tmp2 rfl _ _ w.heap.size 25 _ _ rfl (z6.setRow _) Tryz.underlying25 rfl (by kernel_rfl)) rfl ?_
            exact rcr_bad HR.out (below_setRow hb6 (Nat.le_refl _) _) (by first | rfl | omega) (by first | rfl | omega)
          | false =>
            go_wp2_with fail
            refine (HOD.out (by first | exact rfl | trivial) (by first | exact rfl | trivial) _ (HLW.out _ hb6)).mono ?_
            rintro e w7 ⟨rfl, b7⟩
            have hb7 := hb6.trans (b7.mono hb6.size)
            have z7 := z6.below b7 z6.lt
            have x7 := x6.below b7 x6.lt
            have k7 := k6.below b7 k6.lt
            clear q0 q1 q2 q3 r2 r3 d0 d1 d2 d3 d4 d5 d6
            obtain ⟨q0, q1, q2, q3⟩ := x7.cs4
            have r2 := x7.frozen 2
            have r3 := x7.frozen 3
            obtain ⟨d0, d1, d2, d3, d4, d5, d6⟩ := k7.kd7
            cases ov with
            | some a =>
              obtain ⟨g0, ga, gl⟩ := HOI.out a rfl
              have gw : wrap64 (4 + oi) = 4 + oi := by unfold wrap64; omega
              go_wp2_with fail
              refine (HOD.out (by first | exact rfl | trivial) (by first | exact rfl | trivial) _ (HLW.out _ hb7)).mono ?_
              rintro e w8 ⟨rfl, b8⟩
              have hb8 := hb7.trans (b8.mono hb7.size)
              have z8 := z7.below b8 z7.lt
              have x8 := x7.below b8 x7.lt
              have k8 := k7.below b8 k7.lt
              clear q0 q1 q2 q3 r2 r3 d0 d1 d2 d3 d4 d5 d6
              obtain ⟨q0, q1, q2, q3⟩ := x8.cs4
              have r2 := x8.frozen 2
              have r3 := x8.frozen 3
              obtain ⟨d0, d1, d2, d3, d4, d5, d6⟩ := k8.kd7
              have HR : Hid (res = .bad 11 a) := HC.out
              clear HC
              go_wp2_with (first | (at_builtin; fail) | (refine wpList_store_row rfl 25 _ _ rfl w.heap.size #[.int .u8 0, .int .u8 0, .slice none 0 0, .slice none 0 0] rfl rfl _ _ z8 (by kernel_rfl) rfl (by simp [Value.oneCell']) ?_))
              (try simp only [Exit.inBlock, Exit.then])
              refine bodyPost_ret (results_row_tmp2 rfl _ _ w.heap.size 25 _ _ rfl (z8.setRow _) Tryz.underlying25 rfl (by kernel_rfl)) rfl ?_
              exact rcr_bad HR.out (below_setRow hb8 (Nat.le_refl _) _) (by first | rfl | omega) (by first | rfl | omega)
            | none =>
              have g0 := HON.out rfl
              subst g0
              go_upto_region 18 with fail
              rw [HFR.out]
              have hi0 : (0 : Int) ≤ (fr : Int) := by omega
              have hi1 : (fr : Int) ≤ (b.length : Int) := by omega
              have hi2 : (fr : Int) ≤ (c : Int) := by omega
              have KS : Hid (∀ W, Below w7.heap.size w7 W → W.cell? ⟨g2, 6, none⟩ = some (.int .i64 0)) := fun W hW => (k7.below hW k7.lt).kd7.2.2.2.2.2.2
              by_cases hcf : c = fr
              · subst hcf
                have HP9 : Hid (∀ W, Below w7.heap.size w7 W → Calls Tryz.prog 76 #[.int .i64 (rcl 0), .slice (some ad) 0 0, .int .i64 (c : Int), .int .i64 1] W (RP W B pr c)) := fun W hW => by
                  have h9 := HP8.out (by first | exact rfl | trivial) (some ad) 0 W (hb7.trans (hW.mono hb7.size)) (by rw [List.drop_of_length_le (by omega)]; exact Lies.nil) (by omega) (by omega)
                  rwa [show b.length - c = 0 by omega] at h9
                clear HFT HCO HOD HOI HON HLW HPQ HP8 HFD
                obtain ⟨ns, hns⟩ := HPZ.out (by first | omega | exact HFE.out (by first | exact rfl | trivial) (by first | exact rfl | trivial))
                subst hns
                have HP10 : Hid (∀ W, Below w7.heap.size w7 W → Calls Tryz.prog 76 #[.int .i64 (rcl 0), .slice (some ad) 0 (0), .int .i64 (c : Int), .int .i64 1] W fun e w' => ∃ A' c', e = .returned (.agg #[.slice A' ns.length c', .int .i64 0, .int .i64 0]) ∧ Hid (NodesS w' (fun x => x < B ∨ (W.heap.size ≤ x ∧ x < w'.heap.size)) A' ns ∧ ns.length ≤ c' ∧ c' ≤ maxLen) ∧ Below W.heap.size W w') := fun W hW => Calls.mono (R := RP W B (.ok ns) c) (HP9.out W hW) (by rintro e w' ⟨h1, A', c', h2, h3⟩; exact ⟨A', c', h2, h3, h1⟩)
                have HWT : Hid (∀ (K : Option Addr) (k : Nat) (W : World), Nodes W W.heap.size K ns → _) := fun K k W hW => HWA.out ns (HPL.out ns rfl) K k W hW
                have HCK : Hid (res = if kidP 0 ns = true then .bad 7 0 else .ok ⟨t, fl, d, ns⟩) := HC.out
                generalize kidP 0 ns = kp at *
                clear HP9 HC HWA HPL HPN HPZ HFE
                go_region_held3 (fun W => W.cell? ⟨g2, 6, none⟩ = some (.int .i64 0))
                  (first | exact KS.out _ (below_drew (Below.refl _ _)) | exact KS.out _ (below_drew ((Below.refl _ _).alloc (Nat.le_refl _) _)) | exact KS.out _ R9 | exact KS.out _ (R9.alloc R9.size _) | exact KS.out _ (((R9.setCell (Nat.le_refl _) _).setCell (Nat.le_refl _) _).setCell (Nat.le_refl _) _) | fail)
                  (first
                  | (go_at_call 31; (with_reducible refine (HCL.out _).mono ?_); rintro e v1 ⟨rfl, rfl⟩)
                  | (go_at_call 76; (with_reducible refine (HP10.out _ (by first | exact below_drew (Below.refl _ _) | exact below_drew ((Below.refl _ _).alloc (Nat.le_refl _) _) | fail)).mono ?_); rintro e v9 ⟨K9, k9, rfl, hN9, b9⟩; have R9 : Below w7.heap.size w7 v9 := (by first | exact below_undrew b9 | exact ((Below.refl _ _).alloc (Nat.le_refl _) _).trans ((below_undrew b9).mono (by simp))); (try (have q16 := (Whole.drew (Whole.new _ _ _)).below b9 (by simp); have p160 := q16.cell 0; have p161 := q16.cell 1; have p162 := q16.cell 2; have p163 := q16.frozen 0; have p164 := q16.frozen 1; have p165 := q16.frozen 2; simp only [List.getElem?_toArray, List.getElem?_cons_zero, List.getElem?_cons_succ] at p160 p161 p162)))
                  | fail)
                all_goals
                  have hB9 : B < w7.heap.size := by have := z7.lt; omega
                  have hB9g : B < g1 := by omega
                  first
                  | (have q20 := ((q16.set_ 0 (.slice K9 ns.length k9)).set_ 1 (.int .i64 0)).set_ 2 (.int .i64 0)
                     have lo10 : Below w7.heap.size w7 (((v9.setCell ⟨w7.heap.size, 0, none⟩ (.slice K9 ns.length k9)).setCell ⟨w7.heap.size, 1, none⟩ (.int .i64 0)).setCell ⟨w7.heap.size, 2, none⟩ (.int .i64 0)) := ((R9.setCell (Nat.le_refl _) _).setCell (Nat.le_refl _) _).setCell (Nat.le_refl _) _
                     have hG : ∃ G, g1 < G ∧ w.heap.size < G ∧ Hid (NodesS (((v9.setCell ⟨w7.heap.size, 0, none⟩ (.slice K9 ns.length k9)).setCell ⟨w7.heap.size, 1, none⟩ (.int .i64 0)).setCell ⟨w7.heap.size, 2, none⟩ (.int .i64 0)) (fun x => x < B ∨ (G ≤ x ∧ x < (((v9.setCell ⟨w7.heap.size, 0, none⟩ (.slice K9 ns.length k9)).setCell ⟨w7.heap.size, 1, none⟩ (.int .i64 0)).setCell ⟨w7.heap.size, 2, none⟩ (.int .i64 0)).heap.size)) K9 ns) := ⟨w7.heap.size, x7.lt, z7.lt, kids_set hN9.out.1 hB9⟩
                     have hg16 : w.heap.size < w7.heap.size ∧ g1 < w7.heap.size ∧ g2 < w7.heap.size := ⟨z7.lt, x7.lt, k7.lt⟩
                     generalize ((v9.setCell ⟨w7.heap.size, 0, none⟩ (.slice K9 ns.length k9)).setCell ⟨w7.heap.size, 1, none⟩ (.int .i64 0)).setCell ⟨w7.heap.size, 2, none⟩ (.int .i64 0) = w20 at *
                     have hz20 := lo10.size
                     have hb20 := hb7.trans (lo10.mono hb7.size)
                     have z20 := z7.below lo10 z7.lt
                     have x20 := x7.below lo10 x7.lt
                     have k20 := k7.below lo10 k7.lt
                     generalize w7.heap.size = g16 at *)
                  | (have q20 := Whole.new v9 111 #[.slice K9 ns.length k9, .int .i64 0, .int .i64 0]
                     have lo10 : Below w7.heap.size w7 (v9.alloc (.cells #[.slice K9 ns.length k9, .int .i64 0, .int .i64 0] 111)) := R9.alloc R9.size _
                     have hG : ∃ G, g1 < G ∧ w.heap.size < G ∧ Hid (NodesS (v9.alloc (.cells #[.slice K9 ns.length k9, .int .i64 0, .int .i64 0] 111)) (fun x => x < B ∨ (G ≤ x ∧ x < (v9.alloc (.cells #[.slice K9 ns.length k9, .int .i64 0, .int .i64 0] 111)).heap.size)) K9 ns) := ⟨w7.heap.size, x7.lt, z7.lt, kids_alloc hN9.out.1 (by have := R9.size; omega) _⟩
                     have hg16 : w.heap.size < v9.heap.size ∧ g1 < v9.heap.size ∧ g2 < v9.heap.size := by have h8 := R9.size; have h7 := z7.lt; have h6 := x7.lt; have h5 := k7.lt; omega
                     generalize v9.alloc (.cells #[.slice K9 ns.length k9, .int .i64 0, .int .i64 0] 111) = w20 at *
                     have hb20 := hb7.trans (lo10.mono hb7.size)
                     have z20 := z7.below lo10 z7.lt
                     have x20 := x7.below lo10 x7.lt
                     have k20 := k7.below lo10 k7.lt
                     generalize v9.heap.size = g16 at *)
                  obtain ⟨G, hG1, hG2, hkG⟩ := hG
                  have hkl := hN9.out.2
                  have k160 := q20.cell 0
                  have k161 := q20.cell 1
                  (try simp only [List.getElem?_setIfInBounds, List.getElem?_toArray, List.getElem?_cons_zero, List.getElem?_cons_succ] at k160 k161)
                  obtain ⟨q0, q1, q2, q3⟩ := x20.cs4
                  have r3 := x20.frozen 3
                  obtain ⟨d0, d1, d2, d3, d4, d5, d6⟩ := k20.kd7
                  obtain ⟨g16a, g16b, g16c⟩ := hg16
                  (try clear p160 p161 p162 p163 p164 p165 q16)
                  clear q20 hN9 R9 b9
                  go_upto_region 22 with fail
                  have x21 : Whole (w20.setCell ⟨g1, 3, none⟩ (.slice K9 ns.length k9)) g1 25 #[bv t, bv fl, .slice P d.length c4, .slice K9 ns.length k9] := x20.set_ 3 _
                  have z21 := z20.far (p := ⟨g1, 3, none⟩) (show w.heap.size ≠ g1 by omega) (.slice K9 ns.length k9)
                  have k21 := k20.far (p := ⟨g1, 3, none⟩) (show g2 ≠ g1 by omega) (.slice K9 ns.length k9)
                  have hb21 : Below w.heap.size w (w20.setCell ⟨g1, 3, none⟩ (.slice K9 ns.length k9)) := hb20.setCell (Nat.le_of_lt hg0) _
                  have hk21 := Lib.hid (kids_far hkG.out (Nat.le_of_lt hB9g) hG1 3 (.slice K9 ns.length k9))
                  generalize w20.setCell ⟨g1, 3, none⟩ (.slice K9 ns.length k9) = w21 at *
                  clear q0 q1 q2 q3 r3 d0 d1 d2 d3 d4 d5 d6 k160 k161 x20 z20 k20 hkG
                  obtain ⟨q0, q1, q2, q3⟩ := x21.cs4
                  obtain ⟨d0, d1, d2, d3, d4, d5, d6⟩ := k21.kd7
                  have hsz21 := hb21.size
                  have hw21 := HWT.out K9 k9 w21 (hk21.out.nodes (fun q hq => by rcases hq with hq | hq <;> omega))
                  go_wp2_with fail
                  refine hw21.mono ?_
                  rintro e w22 ⟨rfl, b22⟩
                  have hb22 := hb21.trans (b22.mono hb21.size)
                  have z22 := z21.below b22 z21.lt
                  have x22 := x21.below b22 x21.lt
                  have hk22 : Hid (NodesS w22 (fun q => q < B ∨ (G ≤ q ∧ q < w22.heap.size)) K9 ns) := hk21.out.turn (fun p hp => b22.cell (by rcases hp with hp | hp <;> omega)) (fun q hq => by have := b22.size; rcases hq with hq | hq; (exact .inl hq); (exact .inr ⟨hq.1, by omega⟩))
                  clear q0 q1 q2 q3 d0 d1 d2 d3 d4 d5 d6
                  obtain ⟨q0, q1, q2, q3⟩ := x22.cs4
                  cases kp with
                  | true =>
                    have HR : Hid (res = .bad 7 0) := HCK.out
                    clear HCK
                    go_wp2_with (first | (at_builtin; fail) | (refine wpList_store_row rfl 25 _ _ rfl w.heap.size #[.int .u8 0, .int .u8 0, .slice none 0 0, .slice none 0 0] rfl rfl _ _ z22 (by kernel_rfl) rfl (by simp [Value.oneCell']) ?_))
                    (try simp only [Exit.inBlock, Exit.then])
                    refine bodyPost_ret (results_row_tmp2 rfl _ _ w.heap.size 25 _ _ rfl (z22.setRow _) Tryz.underlying25 rfl (by kernel_rfl)) rfl ?_
                    exact rcr_bad HR.out (below_setRow hb22 (Nat.le_refl _) _) (by first | rfl | omega) (by first | rfl | omega)
                  | false =>
                    have HR : Hid (res = .ok ⟨t, fl, d, ns⟩) := HCK.out
                    have HFIN : Hid (∀ cs, ChunkS (w22.setRow w.heap.size cs) (fun q => q < B ∨ (w.heap.size ≤ q ∧ q < (w22.setRow w.heap.size cs).heap.size)) P c4 K9 k9 ⟨t, fl, d, ns⟩) := fun cs => rcr_fin hB HLP.out.1 (below_setRow hb22 (Nat.le_refl _) cs) HLP.out.2.1 HLP.out.2.2 (kids_row hk22.out hB hG2 cs) hkl.1 hkl.2
                    clear HCK
                    go_wp2_with (first | (at_builtin; fail) | (refine wpList_store_row rfl 25 _ _ rfl w.heap.size #[bv t, bv fl, .slice P d.length c4, .slice K9 ns.length k9] rfl rfl _ _ z22 (by kernel_rfl) rfl (by simp [Value.oneCell']) ?_))
                    (try simp only [Exit.inBlock, Exit.then])
                    refine bodyPost_ret (results_row_tmp2 rfl _ _ w.heap.size 25 _ _ rfl (z22.setRow _) Tryz.underlying25 rfl (by kernel_rfl)) rfl ?_
                    try rw [HR.out]
                    exact ⟨below_setRow hb22 (Nat.le_refl _) _, P, c4, K9, k9, rfl, HFIN.out _⟩
              · have HP9 : Hid (∀ W, Below w7.heap.size w7 W → Calls Tryz.prog 76 #[.int .i64 (rcl 0), .slice (some (ad.add fr)) (b.length - fr) (c - fr), .int .i64 (fr : Int), .int .i64 1] W (RP W B pr fr)) := fun W hW =>
                  HP8.out (by first | exact rfl | trivial) (some (ad.add fr)) (c - fr) W (hb7.trans (hW.mono hb7.size)) (HPQ.out.below ((hb7.trans (hW.mono hb7.size)).mono hB)) (by omega) (by omega)
                clear HFT HCO HOD HOI HON HLW HPQ HP8 HFD
                obtain ⟨ns, hns⟩ := HPZ.out (by first | omega | exact HFE.out (by first | exact rfl | trivial) (by first | exact rfl | trivial))
                subst hns
                have HP10 : Hid (∀ W, Below w7.heap.size w7 W → Calls Tryz.prog 76 #[.int .i64 (rcl 0), .slice (some (ad.add fr)) (b.length - fr) (c - fr), .int .i64 (fr : Int), .int .i64 1] W fun e w' => ∃ A' c', e = .returned (.agg #[.slice A' ns.length c', .int .i64 0, .int .i64 0]) ∧ Hid (NodesS w' (fun x => x < B ∨ (W.heap.size ≤ x ∧ x < w'.heap.size)) A' ns ∧ ns.length ≤ c' ∧ c' ≤ maxLen) ∧ Below W.heap.size W w') := fun W hW => Calls.mono (R := RP W B (.ok ns) fr) (HP9.out W hW) (by rintro e w' ⟨h1, A', c', h2, h3⟩; exact ⟨A', c', h2, h3, h1⟩)
                have HWT : Hid (∀ (K : Option Addr) (k : Nat) (W : World), Nodes W W.heap.size K ns → _) := fun K k W hW => HWA.out ns (HPL.out ns rfl) K k W hW
                have HCK : Hid (res = if kidP 0 ns = true then .bad 7 0 else .ok ⟨t, fl, d, ns⟩) := HC.out
                generalize kidP 0 ns = kp at *
                clear HP9 HC HWA HPL HPN HPZ HFE
                go_region_held3 (fun W => W.cell? ⟨g2, 6, none⟩ = some (.int .i64 0))
                  (first | exact KS.out _ (below_drew (Below.refl _ _)) | exact KS.out _ (below_drew ((Below.refl _ _).alloc (Nat.le_refl _) _)) | exact KS.out _ R9 | exact KS.out _ (R9.alloc R9.size _) | exact KS.out _ (((R9.setCell (Nat.le_refl _) _).setCell (Nat.le_refl _) _).setCell (Nat.le_refl _) _) | fail)
                  (first
                  | (go_at_call 31; (with_reducible refine (HCL.out _).mono ?_); rintro e v1 ⟨rfl, rfl⟩)
                  | (go_at_call 76; (with_reducible refine (HP10.out _ (by first | exact below_drew (Below.refl _ _) | exact below_drew ((Below.refl _ _).alloc (Nat.le_refl _) _) | fail)).mono ?_); rintro e v9 ⟨K9, k9, rfl, hN9, b9⟩; have R9 : Below w7.heap.size w7 v9 := (by first | exact below_undrew b9 | exact ((Below.refl _ _).alloc (Nat.le_refl _) _).trans ((below_undrew b9).mono (by simp))); (try (have q16 := (Whole.drew (Whole.new _ _ _)).below b9 (by simp); have p160 := q16.cell 0; have p161 := q16.cell 1; have p162 := q16.cell 2; have p163 := q16.frozen 0; have p164 := q16.frozen 1; have p165 := q16.frozen 2; simp only [List.getElem?_toArray, List.getElem?_cons_zero, List.getElem?_cons_succ] at p160 p161 p162)))
                  | fail)
                all_goals
                  have hB9 : B < w7.heap.size := by have := z7.lt; omega
                  have hB9g : B < g1 := by omega
                  first
                  | (have q20 := ((q16.set_ 0 (.slice K9 ns.length k9)).set_ 1 (.int .i64 0)).set_ 2 (.int .i64 0)
                     have lo10 : Below w7.heap.size w7 (((v9.setCell ⟨w7.heap.size, 0, none⟩ (.slice K9 ns.length k9)).setCell ⟨w7.heap.size, 1, none⟩ (.int .i64 0)).setCell ⟨w7.heap.size, 2, none⟩ (.int .i64 0)) := ((R9.setCell (Nat.le_refl _) _).setCell (Nat.le_refl _) _).setCell (Nat.le_refl _) _
                     have hG : ∃ G, g1 < G ∧ w.heap.size < G ∧ Hid (NodesS (((v9.setCell ⟨w7.heap.size, 0, none⟩ (.slice K9 ns.length k9)).setCell ⟨w7.heap.size, 1, none⟩ (.int .i64 0)).setCell ⟨w7.heap.size, 2, none⟩ (.int .i64 0)) (fun x => x < B ∨ (G ≤ x ∧ x < (((v9.setCell ⟨w7.heap.size, 0, none⟩ (.slice K9 ns.length k9)).setCell ⟨w7.heap.size, 1, none⟩ (.int .i64 0)).setCell ⟨w7.heap.size, 2, none⟩ (.int .i64 0)).heap.size)) K9 ns) := ⟨w7.heap.size, x7.lt, z7.lt, kids_set hN9.out.1 hB9⟩
                     have hg16 : w.heap.size < w7.heap.size ∧ g1 < w7.heap.size ∧ g2 < w7.heap.size := ⟨z7.lt, x7.lt, k7.lt⟩
                     generalize ((v9.setCell ⟨w7.heap.size, 0, none⟩ (.slice K9 ns.length k9)).setCell ⟨w7.heap.size, 1, none⟩ (.int .i64 0)).setCell ⟨w7.heap.size, 2, none⟩ (.int .i64 0) = w20 at *
                     have hz20 := lo10.size
                     have hb20 := hb7.trans (lo10.mono hb7.size)
                     have z20 := z7.below lo10 z7.lt
                     have x20 := x7.below lo10 x7.lt
                     have k20 := k7.below lo10 k7.lt
                     generalize w7.heap.size = g16 at *)
                  | (have q20 := Whole.new v9 111 #[.slice K9 ns.length k9, .int .i64 0, .int .i64 0]
                     have lo10 : Below w7.heap.size w7 (v9.alloc (.cells #[.slice K9 ns.length k9, .int .i64 0, .int .i64 0] 111)) := R9.alloc R9.size _
                     have hG : ∃ G, g1 < G ∧ w.heap.size < G ∧ Hid (NodesS (v9.alloc (.cells #[.slice K9 ns.length k9, .int .i64 0, .int .i64 0] 111)) (fun x => x < B ∨ (G ≤ x ∧ x < (v9.alloc (.cells #[.slice K9 ns.length k9, .int .i64 0, .int .i64 0] 111)).heap.size)) K9 ns) := ⟨w7.heap.size, x7.lt, z7.lt, kids_alloc hN9.out.1 (by have := R9.size; omega) _⟩
                     have hg16 : w.heap.size < v9.heap.size ∧ g1 < v9.heap.size ∧ g2 < v9.heap.size := by have h8 := R9.size; have h7 := z7.lt; have h6 := x7.lt; have h5 := k7.lt; omega
                     generalize v9.alloc (.cells #[.slice K9 ns.length k9, .int .i64 0, .int .i64 0] 111) = w20 at *
                     have hb20 := hb7.trans (lo10.mono hb7.size)
                     have z20 := z7.below lo10 z7.lt
                     have x20 := x7.below lo10 x7.lt
                     have k20 := k7.below lo10 k7.lt
                     generalize v9.heap.size = g16 at *)
                  obtain ⟨G, hG1, hG2, hkG⟩ := hG
                  have hkl := hN9.out.2
                  have k160 := q20.cell 0
                  have k161 := q20.cell 1
                  (try simp only [List.getElem?_setIfInBounds, List.getElem?_toArray, List.getElem?_cons_zero, List.getElem?_cons_succ] at k160 k161)
                  obtain ⟨q0, q1, q2, q3⟩ := x20.cs4
                  have r3 := x20.frozen 3
                  obtain ⟨d0, d1, d2, d3, d4, d5, d6⟩ := k20.kd7
                  obtain ⟨g16a, g16b, g16c⟩ := hg16
                  (try clear p160 p161 p162 p163 p164 p165 q16)
                  clear q20 hN9 R9 b9
                  go_upto_region 22 with fail
                  have x21 : Whole (w20.setCell ⟨g1, 3, none⟩ (.slice K9 ns.length k9)) g1 25 #[bv t, bv fl, .slice P d.length c4, .slice K9 ns.length k9] := x20.set_ 3 _
                  have z21 := z20.far (p := ⟨g1, 3, none⟩) (show w.heap.size ≠ g1 by omega) (.slice K9 ns.length k9)
                  have k21 := k20.far (p := ⟨g1, 3, none⟩) (show g2 ≠ g1 by omega) (.slice K9 ns.length k9)
                  have hb21 : Below w.heap.size w (w20.setCell ⟨g1, 3, none⟩ (.slice K9 ns.length k9)) := hb20.setCell (Nat.le_of_lt hg0) _
                  have hk21 := Lib.hid (kids_far hkG.out (Nat.le_of_lt hB9g) hG1 3 (.slice K9 ns.length k9))
                  generalize w20.setCell ⟨g1, 3, none⟩ (.slice K9 ns.length k9) = w21 at *
                  clear q0 q1 q2 q3 r3 d0 d1 d2 d3 d4 d5 d6 k160 k161 x20 z20 k20 hkG
                  obtain ⟨q0, q1, q2, q3⟩ := x21.cs4
                  obtain ⟨d0, d1, d2, d3, d4, d5, d6⟩ := k21.kd7
                  have hsz21 := hb21.size
                  have hw21 := HWT.out K9 k9 w21 (hk21.out.nodes (fun q hq => by rcases hq with hq | hq <;> omega))
                  go_wp2_with fail
                  refine hw21.mono ?_
                  rintro e w22 ⟨rfl, b22⟩
                  have hb22 := hb21.trans (b22.mono hb21.size)
                  have z22 := z21.below b22 z21.lt
                  have x22 := x21.below b22 x21.lt
                  have hk22 : Hid (NodesS w22 (fun q => q < B ∨ (G ≤ q ∧ q < w22.heap.size)) K9 ns) := hk21.out.turn (fun p hp => b22.cell (by rcases hp with hp | hp <;> omega)) (fun q hq => by have := b22.size; rcases hq with hq | hq; (exact .inl hq); (exact .inr ⟨hq.1, by omega⟩))
                  clear q0 q1 q2 q3 d0 d1 d2 d3 d4 d5 d6
                  obtain ⟨q0, q1, q2, q3⟩ := x22.cs4
                  cases kp with
                  | true =>
                    have HR : Hid (res = .bad 7 0) := HCK.out
                    clear HCK
                    go_wp2_with (first | (at_builtin; fail) | (refine wpList_store_row rfl 25 _ _ rfl w.heap.size #[.int .u8 0, .int .u8 0, .slice none 0 0, .slice none 0 0] rfl rfl _ _ z22 (by kernel_rfl) rfl (by simp [Value.oneCell']) ?_))
                    (try simp only [Exit.inBlock, Exit.then])
                    refine bodyPost_ret (results_row_tmp2 rfl _ _ w.heap.size 25 _ _ rfl (z22.setRow _) Tryz.underlying25 rfl (by kernel_rfl)) rfl ?_
                    exact rcr_bad HR.out (below_setRow hb22 (Nat.le_refl _) _) (by first | rfl | omega) (by first | rfl | omega)
                  | false =>
                    have HR : Hid (res = .ok ⟨t, fl, d, ns⟩) := HCK.out
                    have HFIN : Hid (∀ cs, ChunkS (w22.setRow w.heap.size cs) (fun q => q < B ∨ (w.heap.size ≤ q ∧ q < (w22.setRow w.heap.size cs).heap.size)) P c4 K9 k9 ⟨t, fl, d, ns⟩) := fun cs => rcr_fin hB HLP.out.1 (below_setRow hb22 (Nat.le_refl _) cs) HLP.out.2.1 HLP.out.2.2 (kids_row hk22.out hB hG2 cs) hkl.1 hkl.2
                    clear HCK
                    go_wp2_with (first | (at_builtin; fail) | (refine wpList_store_row rfl 25 _ _ rfl w.heap.size #[bv t, bv fl, .slice P d.length c4, .slice K9 ns.length k9] rfl rfl _ _ z22 (by kernel_rfl) rfl (by simp [Value.oneCell']) ?_))
                    (try simp only [Exit.inBlock, Exit.then])
                    refine bodyPost_ret (results_row_tmp2 rfl _ _ w.heap.size 25 _ _ rfl (z22.setRow _) Tryz.underlying25 rfl (by kernel_rfl)) rfl ?_
                    try rw [HR.out]
                    exact ⟨below_setRow hb22 (Nat.le_refl _) _, P, c4, K9, k9, rfl, HFIN.out _⟩
      · have hki0 := HKG.out
        have hkz : (0 : Int) < ki := by omega
        have hmin := hk1 hki
        have hmc : (d.length : Int) ≤ (c4 : Int) := by have := HLP.out.2.1; omega
        have hm0 : (0 : Int) ≤ (d.length : Int) := by omega
        clear hk0 hk1 hki0
        go_upto_region 11 with fail
        have x5 : Whole (w4.setCell ⟨g1, 2, none⟩ (.slice P d.length c4)) g1 25 #[bv t, bv fl, .slice P d.length c4, .slice none 0 0] := x4.set_ 2 _
        have z5 := z4.far (p := ⟨g1, 2, none⟩) (show w.heap.size ≠ g1 by omega) (.slice P d.length c4)
        have k5 := k4.far (p := ⟨g1, 2, none⟩) (show g2 ≠ g1 by omega) (.slice P d.length c4)
        have hb5 : Below w.heap.size w (w4.setCell ⟨g1, 2, none⟩ (.slice P d.length c4)) := hb4.setCell (Nat.le_of_lt hg0) _
        generalize w4.setCell ⟨g1, 2, none⟩ (.slice P d.length c4) = w5 at *
        clear q0 q1 q2 q3 r2 r3 d0 d1 d2 d3 d4 d5 d6 x4 z4 k4 hmin hb4
        obtain ⟨q0, q1, q2, q3⟩ := x5.cs4
        have r2 := x5.frozen 2
        have r3 := x5.frozen 3
        obtain ⟨d0, d1, d2, d3, d4, d5, d6⟩ := k5.kd7
        go_wp2_with fail
        refine (HFT.out (by first | exact rfl | trivial) _).mono ?_
        rintro e w6 ⟨rfl, b6⟩
        have hb6 := hb5.trans (b6.mono hb5.size)
        have z6 := z5.below b6 z5.lt
        have x6 := x5.below b6 x5.lt
        have k6 := k5.below b6 k5.lt
        clear q0 q1 q2 q3 r2 r3 d0 d1 d2 d3 d4 d5 d6
        obtain ⟨q0, q1, q2, q3⟩ := x6.cs4
        have r2 := x6.frozen 2
        have r3 := x6.frozen 3
        obtain ⟨d0, d1, d2, d3, d4, d5, d6⟩ := k6.kd7
        cases fb with
        | false =>
          have HR : Hid (res = .bad 7 0) := HC.out
          clear HC
          go_wp2_with (first | (at_builtin; fail) | (refine wpList_store_row rfl 25 _ _ rfl w.heap.size #[.int .u8 0, .int .u8 0, .slice none 0 0, .slice none 0 0] rfl rfl _ _ z6 (by kernel_rfl) rfl (by simp [Value.oneCell']) ?_))
          (try simp only [Exit.inBlock, Exit.then])
          refine bodyPost_ret (results_row_tmp2 rfl _ _ w.heap.size 25 _ _ rfl (z6.setRow _) Tryz.underlying25 rfl (by kernel_rfl)) rfl ?_
          exact rcr_bad HR.out (below_setRow hb6 (Nat.le_refl _) _) (by first | rfl | omega) (by first | rfl | omega)
        | true =>
          go_wp2_with fail
          refine (HCO.out (by first | exact rfl | trivial) (by first | exact rfl | trivial) _ (HLW.out _ hb6)).mono ?_
          rintro e w7 ⟨rfl, b7⟩
          have hb7 := hb6.trans (b7.mono hb6.size)
          have z7 := z6.below b7 z6.lt
          have x7 := x6.below b7 x6.lt
          have k7 := k6.below b7 k6.lt
          clear q0 q1 q2 q3 r2 r3 d0 d1 d2 d3 d4 d5 d6
          obtain ⟨q0, q1, q2, q3⟩ := x7.cs4
          have r2 := x7.frozen 2
          have r3 := x7.frozen 3
          obtain ⟨d0, d1, d2, d3, d4, d5, d6⟩ := k7.kd7
          cases cb with
          | true =>
            have HR : Hid (res = .bad 8 12) := HC.out
            clear HC
            go_wp2_with (first | (at_builtin; fail) | (refine wpList_store_row rfl 25 _ _ rfl w.heap.size #[.int .u8 0, .int .u8 0, .slice none 0 0, .slice none 0 0] rfl rfl _ _ z7 (by kernel_rfl) rfl (by simp [Value.oneCell']) ?_))
            (try simp only [Exit.inBlock, Exit.then])
            refine bodyPost_ret (results_row_tmp2 rfl _ _ w.heap.size 25 _ _ rfl (z7.setRow _) Tryz.underlying25 rfl (by kernel_rfl)) rfl ?_
            exact rcr_bad HR.out (below_setRow hb7 (Nat.le_refl _) _) (by first | rfl | omega) (by first | rfl | omega)
          | false =>
            go_wp2_with fail
            refine (HOD.out (by first | exact rfl | trivial) (by first | exact rfl | trivial) _ (HLW.out _ hb7)).mono ?_
            rintro e w8 ⟨rfl, b8⟩
            have hb8 := hb7.trans (b8.mono hb7.size)
            have z8 := z7.below b8 z7.lt
            have x8 := x7.below b8 x7.lt
            have k8 := k7.below b8 k7.lt
            clear q0 q1 q2 q3 r2 r3 d0 d1 d2 d3 d4 d5 d6
            obtain ⟨q0, q1, q2, q3⟩ := x8.cs4
            have r2 := x8.frozen 2
            have r3 := x8.frozen 3
            obtain ⟨d0, d1, d2, d3, d4, d5, d6⟩ := k8.kd7
            cases ov with
            | some a =>
              obtain ⟨g0, ga, gl⟩ := HOI.out a rfl
              have gw : wrap64 (4 + oi) = 4 + oi := by unfold wrap64; omega
              go_wp2_with fail
              refine (HOD.out (by first | exact rfl | trivial) (by first | exact rfl | trivial) _ (HLW.out _ hb8)).mono ?_
              rintro e w9 ⟨rfl, b9⟩
              have hb9 := hb8.trans (b9.mono hb8.size)
              have z9 := z8.below b9 z8.lt
              have x9 := x8.below b9 x8.lt
              have k9 := k8.below b9 k8.lt
              clear q0 q1 q2 q3 r2 r3 d0 d1 d2 d3 d4 d5 d6
              obtain ⟨q0, q1, q2, q3⟩ := x9.cs4
              have r2 := x9.frozen 2
              have r3 := x9.frozen 3
              obtain ⟨d0, d1, d2, d3, d4, d5, d6⟩ := k9.kd7
              have HR : Hid (res = .bad 11 a) := HC.out
              clear HC
              go_wp2_with (first | (at_builtin; fail) | (refine wpList_store_row rfl 25 _ _ rfl w.heap.size #[.int .u8 0, .int .u8 0, .slice none 0 0, .slice none 0 0] rfl rfl _ _ z9 (by kernel_rfl) rfl (by simp [Value.oneCell']) ?_))
              (try simp only [Exit.inBlock, Exit.then])
              refine bodyPost_ret (results_row_tmp2 rfl _ _ w.heap.size 25 _ _ rfl (z9.setRow _) Tryz.underlying25 rfl (by kernel_rfl)) rfl ?_
              exact rcr_bad HR.out (below_setRow hb9 (Nat.le_refl _) _) (by first | rfl | omega) (by first | rfl | omega)
            | none =>
              have g0 := HON.out rfl
              subst g0
              go_upto_region 18 with fail
              rw [HFR.out]
              have hi0 : (0 : Int) ≤ (fr : Int) := by omega
              have hi1 : (fr : Int) ≤ (b.length : Int) := by omega
              have hi2 : (fr : Int) ≤ (c : Int) := by omega
              have KS : Hid (∀ W, Below w8.heap.size w8 W → W.cell? ⟨g2, 6, none⟩ = some (.int .i64 ki)) := fun W hW => (k8.below hW k8.lt).kd7.2.2.2.2.2.2
              by_cases hcf : c = fr
              · subst hcf
                have HP9 : Hid (∀ W, Below w8.heap.size w8 W → Calls Tryz.prog 76 #[.int .i64 (rcl ki), .slice (some ad) 0 0, .int .i64 (c : Int), .int .i64 1] W (RP W B pr c)) := fun W hW => by
                  have h9 := HP8.out (by first | exact rfl | trivial) (some ad) 0 W (hb8.trans (hW.mono hb8.size)) (by rw [List.drop_of_length_le (by omega)]; exact Lies.nil) (by omega) (by omega)
                  rwa [show b.length - c = 0 by omega] at h9
                clear HFT HCO HOD HOI HON HLW HPQ HP8 HFD
                obtain ⟨ns, hns⟩ := HPZ.out (by first | omega | exact HFE.out (by first | exact rfl | trivial) (by first | exact rfl | trivial))
                subst hns
                have HP10 : Hid (∀ W, Below w8.heap.size w8 W → Calls Tryz.prog 76 #[.int .i64 (rcl ki), .slice (some ad) 0 (0), .int .i64 (c : Int), .int .i64 1] W fun e w' => ∃ A' c', e = .returned (.agg #[.slice A' ns.length c', .int .i64 0, .int .i64 0]) ∧ Hid (NodesS w' (fun x => x < B ∨ (W.heap.size ≤ x ∧ x < w'.heap.size)) A' ns ∧ ns.length ≤ c' ∧ c' ≤ maxLen) ∧ Below W.heap.size W w') := fun W hW => Calls.mono (R := RP W B (.ok ns) c) (HP9.out W hW) (by rintro e w' ⟨h1, A', c', h2, h3⟩; exact ⟨A', c', h2, h3, h1⟩)
                have HWT : Hid (∀ (K : Option Addr) (k : Nat) (W : World), Nodes W W.heap.size K ns → _) := fun K k W hW => HWA.out ns (HPL.out ns rfl) K k W hW
                have HCK : Hid (res = if kidP ki ns = true then .bad 7 0 else .ok ⟨t, fl, d, ns⟩) := HC.out
                generalize kidP ki ns = kp at *
                clear HP9 HC HWA HPL HPN HPZ HFE
                go_region_held3 (fun W => W.cell? ⟨g2, 6, none⟩ = some (.int .i64 ki))
                  (first | exact KS.out _ (below_drew (Below.refl _ _)) | exact KS.out _ (below_drew ((Below.refl _ _).alloc (Nat.le_refl _) _)) | exact KS.out _ R9 | exact KS.out _ (R9.alloc R9.size _) | exact KS.out _ (((R9.setCell (Nat.le_refl _) _).setCell (Nat.le_refl _) _).setCell (Nat.le_refl _) _) | fail)
                  (first
                  | (go_at_call 31; (with_reducible refine (HCL.out _).mono ?_); rintro e v1 ⟨rfl, rfl⟩)
                  | (go_at_call 76; (with_reducible refine (HP10.out _ (by first | exact below_drew (Below.refl _ _) | exact below_drew ((Below.refl _ _).alloc (Nat.le_refl _) _) | fail)).mono ?_); rintro e v9 ⟨K9, k9, rfl, hN9, b9⟩; have R9 : Below w8.heap.size w8 v9 := (by first | exact below_undrew b9 | exact ((Below.refl _ _).alloc (Nat.le_refl _) _).trans ((below_undrew b9).mono (by simp))); (try (have q16 := (Whole.drew (Whole.new _ _ _)).below b9 (by simp); have p160 := q16.cell 0; have p161 := q16.cell 1; have p162 := q16.cell 2; have p163 := q16.frozen 0; have p164 := q16.frozen 1; have p165 := q16.frozen 2; simp only [List.getElem?_toArray, List.getElem?_cons_zero, List.getElem?_cons_succ] at p160 p161 p162)))
                  | fail)
                all_goals
                  have hB9 : B < w8.heap.size := by have := z8.lt; omega
                  have hB9g : B < g1 := by omega
                  first
                  | (have q20 := ((q16.set_ 0 (.slice K9 ns.length k9)).set_ 1 (.int .i64 0)).set_ 2 (.int .i64 0)
                     have lo10 : Below w8.heap.size w8 (((v9.setCell ⟨w8.heap.size, 0, none⟩ (.slice K9 ns.length k9)).setCell ⟨w8.heap.size, 1, none⟩ (.int .i64 0)).setCell ⟨w8.heap.size, 2, none⟩ (.int .i64 0)) := ((R9.setCell (Nat.le_refl _) _).setCell (Nat.le_refl _) _).setCell (Nat.le_refl _) _
                     have hG : ∃ G, g1 < G ∧ w.heap.size < G ∧ Hid (NodesS (((v9.setCell ⟨w8.heap.size, 0, none⟩ (.slice K9 ns.length k9)).setCell ⟨w8.heap.size, 1, none⟩ (.int .i64 0)).setCell ⟨w8.heap.size, 2, none⟩ (.int .i64 0)) (fun x => x < B ∨ (G ≤ x ∧ x < (((v9.setCell ⟨w8.heap.size, 0, none⟩ (.slice K9 ns.length k9)).setCell ⟨w8.heap.size, 1, none⟩ (.int .i64 0)).setCell ⟨w8.heap.size, 2, none⟩ (.int .i64 0)).heap.size)) K9 ns) := ⟨w8.heap.size, x8.lt, z8.lt, kids_set hN9.out.1 hB9⟩
                     have hg16 : w.heap.size < w8.heap.size ∧ g1 < w8.heap.size ∧ g2 < w8.heap.size := ⟨z8.lt, x8.lt, k8.lt⟩
                     generalize ((v9.setCell ⟨w8.heap.size, 0, none⟩ (.slice K9 ns.length k9)).setCell ⟨w8.heap.size, 1, none⟩ (.int .i64 0)).setCell ⟨w8.heap.size, 2, none⟩ (.int .i64 0) = w20 at *
                     have hz20 := lo10.size
                     have hb20 := hb8.trans (lo10.mono hb8.size)
                     have z20 := z8.below lo10 z8.lt
                     have x20 := x8.below lo10 x8.lt
                     have k20 := k8.below lo10 k8.lt
                     generalize w8.heap.size = g16 at *)
                  | (have q20 := Whole.new v9 111 #[.slice K9 ns.length k9, .int .i64 0, .int .i64 0]
                     have lo10 : Below w8.heap.size w8 (v9.alloc (.cells #[.slice K9 ns.length k9, .int .i64 0, .int .i64 0] 111)) := R9.alloc R9.size _
                     have hG : ∃ G, g1 < G ∧ w.heap.size < G ∧ Hid (NodesS (v9.alloc (.cells #[.slice K9 ns.length k9, .int .i64 0, .int .i64 0] 111)) (fun x => x < B ∨ (G ≤ x ∧ x < (v9.alloc (.cells #[.slice K9 ns.length k9, .int .i64 0, .int .i64 0] 111)).heap.size)) K9 ns) := ⟨w8.heap.size, x8.lt, z8.lt, kids_alloc hN9.out.1 (by have := R9.size; omega) _⟩
                     have hg16 : w.heap.size < v9.heap.size ∧ g1 < v9.heap.size ∧ g2 < v9.heap.size := by have h8 := R9.size; have h7 := z8.lt; have h6 := x8.lt; have h5 := k8.lt; omega
                     generalize v9.alloc (.cells #[.slice K9 ns.length k9, .int .i64 0, .int .i64 0] 111) = w20 at *
                     have hb20 := hb8.trans (lo10.mono hb8.size)
                     have z20 := z8.below lo10 z8.lt
                     have x20 := x8.below lo10 x8.lt
                     have k20 := k8.below lo10 k8.lt
                     generalize v9.heap.size = g16 at *)
                  obtain ⟨G, hG1, hG2, hkG⟩ := hG
                  have hkl := hN9.out.2
                  have k160 := q20.cell 0
                  have k161 := q20.cell 1
                  (try simp only [List.getElem?_setIfInBounds, List.getElem?_toArray, List.getElem?_cons_zero, List.getElem?_cons_succ] at k160 k161)
                  obtain ⟨q0, q1, q2, q3⟩ := x20.cs4
                  have r3 := x20.frozen 3
                  obtain ⟨d0, d1, d2, d3, d4, d5, d6⟩ := k20.kd7
                  obtain ⟨g16a, g16b, g16c⟩ := hg16
                  (try clear p160 p161 p162 p163 p164 p165 q16)
                  clear q20 hN9 R9 b9
                  go_upto_region 22 with fail
                  have x21 : Whole (w20.setCell ⟨g1, 3, none⟩ (.slice K9 ns.length k9)) g1 25 #[bv t, bv fl, .slice P d.length c4, .slice K9 ns.length k9] := x20.set_ 3 _
                  have z21 := z20.far (p := ⟨g1, 3, none⟩) (show w.heap.size ≠ g1 by omega) (.slice K9 ns.length k9)
                  have k21 := k20.far (p := ⟨g1, 3, none⟩) (show g2 ≠ g1 by omega) (.slice K9 ns.length k9)
                  have hb21 : Below w.heap.size w (w20.setCell ⟨g1, 3, none⟩ (.slice K9 ns.length k9)) := hb20.setCell (Nat.le_of_lt hg0) _
                  have hk21 := Lib.hid (kids_far hkG.out (Nat.le_of_lt hB9g) hG1 3 (.slice K9 ns.length k9))
                  generalize w20.setCell ⟨g1, 3, none⟩ (.slice K9 ns.length k9) = w21 at *
                  clear q0 q1 q2 q3 r3 d0 d1 d2 d3 d4 d5 d6 k160 k161 x20 z20 k20 hkG
                  obtain ⟨q0, q1, q2, q3⟩ := x21.cs4
                  obtain ⟨d0, d1, d2, d3, d4, d5, d6⟩ := k21.kd7
                  have hsz21 := hb21.size
                  have hw21 := HWT.out K9 k9 w21 (hk21.out.nodes (fun q hq => by rcases hq with hq | hq <;> omega))
                  go_wp2_with fail
                  refine hw21.mono ?_
                  rintro e w22 ⟨rfl, b22⟩
                  have hb22 := hb21.trans (b22.mono hb21.size)
                  have z22 := z21.below b22 z21.lt
                  have x22 := x21.below b22 x21.lt
                  have hk22 : Hid (NodesS w22 (fun q => q < B ∨ (G ≤ q ∧ q < w22.heap.size)) K9 ns) := hk21.out.turn (fun p hp => b22.cell (by rcases hp with hp | hp <;> omega)) (fun q hq => by have := b22.size; rcases hq with hq | hq; (exact .inl hq); (exact .inr ⟨hq.1, by omega⟩))
                  clear q0 q1 q2 q3 d0 d1 d2 d3 d4 d5 d6
                  obtain ⟨q0, q1, q2, q3⟩ := x22.cs4
                  cases kp with
                  | true =>
                    have HR : Hid (res = .bad 7 0) := HCK.out
                    clear HCK
                    go_wp2_with (first | (at_builtin; fail) | (refine wpList_store_row rfl 25 _ _ rfl w.heap.size #[.int .u8 0, .int .u8 0, .slice none 0 0, .slice none 0 0] rfl rfl _ _ z22 (by kernel_rfl) rfl (by simp [Value.oneCell']) ?_))
                    (try simp only [Exit.inBlock, Exit.then])
                    refine bodyPost_ret (results_row_tmp2 rfl _ _ w.heap.size 25 _ _ rfl (z22.setRow _) Tryz.underlying25 rfl (by kernel_rfl)) rfl ?_
                    exact rcr_bad HR.out (below_setRow hb22 (Nat.le_refl _) _) (by first | rfl | omega) (by first | rfl | omega)
                  | false =>
                    have HR : Hid (res = .ok ⟨t, fl, d, ns⟩) := HCK.out
                    have HFIN : Hid (∀ cs, ChunkS (w22.setRow w.heap.size cs) (fun q => q < B ∨ (w.heap.size ≤ q ∧ q < (w22.setRow w.heap.size cs).heap.size)) P c4 K9 k9 ⟨t, fl, d, ns⟩) := fun cs => rcr_fin hB HLP.out.1 (below_setRow hb22 (Nat.le_refl _) cs) HLP.out.2.1 HLP.out.2.2 (kids_row hk22.out hB hG2 cs) hkl.1 hkl.2
                    clear HCK
                    go_wp2_with (first | (at_builtin; fail) | (refine wpList_store_row rfl 25 _ _ rfl w.heap.size #[bv t, bv fl, .slice P d.length c4, .slice K9 ns.length k9] rfl rfl _ _ z22 (by kernel_rfl) rfl (by simp [Value.oneCell']) ?_))
                    (try simp only [Exit.inBlock, Exit.then])
                    refine bodyPost_ret (results_row_tmp2 rfl _ _ w.heap.size 25 _ _ rfl (z22.setRow _) Tryz.underlying25 rfl (by kernel_rfl)) rfl ?_
                    try rw [HR.out]
                    exact ⟨below_setRow hb22 (Nat.le_refl _) _, P, c4, K9, k9, rfl, HFIN.out _⟩
              · have HP9 : Hid (∀ W, Below w8.heap.size w8 W → Calls Tryz.prog 76 #[.int .i64 (rcl ki), .slice (some (ad.add fr)) (b.length - fr) (c - fr), .int .i64 (fr : Int), .int .i64 1] W (RP W B pr fr)) := fun W hW =>
                  HP8.out (by first | exact rfl | trivial) (some (ad.add fr)) (c - fr) W (hb8.trans (hW.mono hb8.size)) (HPQ.out.below ((hb8.trans (hW.mono hb8.size)).mono hB)) (by omega) (by omega)
                clear HFT HCO HOD HOI HON HLW HPQ HP8 HFD
                cases pr with
                | bad code j =>
                  have HP10 : Hid (∀ W, Below w8.heap.size w8 W → Calls Tryz.prog 76 #[.int .i64 (rcl ki), .slice (some (ad.add fr)) (b.length - fr) (c - fr), .int .i64 (fr : Int), .int .i64 1] W fun e w' => e = .returned (.agg #[.slice none 0 0, .int .i64 (code : Int), .int .i64 ((j + fr : Nat) : Int)]) ∧ Below W.heap.size W w') := fun W hW => Calls.mono (R := RP W B (.bad code j) fr) (HP9.out W hW) (by rintro e w' ⟨h1, h2⟩; exact ⟨by rw [Nat.add_comm]; exact h2, h1⟩)
                  have hcode : ((code : Int) != 0) = true := by rw [bne_iff_ne]; have := HPN.out code j rfl; omega
                  have HCB : Hid (res = .bad code (j + fr)) := HC.out
                  generalize hjf : j + fr = jf at *
                  clear HP9 HC
                  go_region_held3 (fun W => W.cell? ⟨g2, 6, none⟩ = some (.int .i64 ki))
                    (first | exact KS.out _ (below_drew (Below.refl _ _)) | exact KS.out _ (below_drew ((Below.refl _ _).alloc (Nat.le_refl _) _)) | exact KS.out _ R9 | exact KS.out _ (R9.alloc R9.size _) | exact KS.out _ (((R9.setCell (Nat.le_refl _) _).setCell (Nat.le_refl _) _).setCell (Nat.le_refl _) _) | fail)
                    (first
                    | (go_at_call 31; (with_reducible refine (HCL.out _).mono ?_); rintro e v1 ⟨rfl, rfl⟩)
                    | (go_at_call 76; (with_reducible refine (HP10.out _ (by first | exact below_drew (Below.refl _ _) | exact below_drew ((Below.refl _ _).alloc (Nat.le_refl _) _) | fail)).mono ?_); rintro e v9 ⟨rfl, b9⟩; have R9 : Below w8.heap.size w8 v9 := (by first | exact below_undrew b9 | exact ((Below.refl _ _).alloc (Nat.le_refl _) _).trans ((below_undrew b9).mono (by simp))); (try (have q16 := (Whole.drew (Whole.new _ _ _)).below b9 (by simp); have p160 := q16.cell 0; have p161 := q16.cell 1; have p162 := q16.cell 2; have p163 := q16.frozen 0; have p164 := q16.frozen 1; have p165 := q16.frozen 2; simp only [List.getElem?_toArray, List.getElem?_cons_zero, List.getElem?_cons_succ] at p160 p161 p162)))
                    | fail)
                  all_goals
                    first
                    | (have q20 := ((q16.set_ 0 (.slice none 0 0)).set_ 1 (.int .i64 (code : Int))).set_ 2 (.int .i64 (jf : Int))
                       have lo10 : Below w8.heap.size w8 (((v9.setCell ⟨w8.heap.size, 0, none⟩ (.slice none 0 0)).setCell ⟨w8.heap.size, 1, none⟩ (.int .i64 (code : Int))).setCell ⟨w8.heap.size, 2, none⟩ (.int .i64 (jf : Int))) := ((R9.setCell (Nat.le_refl _) _).setCell (Nat.le_refl _) _).setCell (Nat.le_refl _) _
                       have hg16 : w.heap.size < w8.heap.size ∧ g1 < w8.heap.size ∧ g2 < w8.heap.size := ⟨z8.lt, x8.lt, k8.lt⟩
                       generalize ((v9.setCell ⟨w8.heap.size, 0, none⟩ (.slice none 0 0)).setCell ⟨w8.heap.size, 1, none⟩ (.int .i64 (code : Int))).setCell ⟨w8.heap.size, 2, none⟩ (.int .i64 (jf : Int)) = w20 at *
                       have hz20 := lo10.size
                       have hb20 := hb8.trans (lo10.mono hb8.size)
                       have z20 := z8.below lo10 z8.lt
                       have x20 := x8.below lo10 x8.lt
                       have k20 := k8.below lo10 k8.lt
                       generalize w8.heap.size = g16 at *)
                    | (have q20 := Whole.new v9 111 #[.slice none 0 0, .int .i64 (code : Int), .int .i64 (jf : Int)]
                       have lo10 : Below w8.heap.size w8 (v9.alloc (.cells #[.slice none 0 0, .int .i64 (code : Int), .int .i64 (jf : Int)] 111)) := R9.alloc R9.size _
                       have hg16 : w.heap.size < v9.heap.size ∧ g1 < v9.heap.size ∧ g2 < v9.heap.size := by have h8 := R9.size; have h7 := z8.lt; have h6 := x8.lt; have h5 := k8.lt; omega
                       generalize v9.alloc (.cells #[.slice none 0 0, .int .i64 (code : Int), .int .i64 (jf : Int)] 111) = w20 at *
                       have hb20 := hb8.trans (lo10.mono hb8.size)
                       have z20 := z8.below lo10 z8.lt
                       have x20 := x8.below lo10 x8.lt
                       have k20 := k8.below lo10 k8.lt
                       generalize v9.heap.size = g16 at *)
                    have KQ : Hid (∀ V, Below w20.heap.size w20 V → V.cell? ⟨g16, 1, none⟩ = some (.int .i64 (code : Int)) ∧ V.cell? ⟨g16, 2, none⟩ = some (.int .i64 (jf : Int))) := fun V hV => by
                      have h9 := q20.below hV q20.lt
                      have h1 := h9.cell 1
                      have h2 := h9.cell 2
                      (try simp only [List.getElem?_setIfInBounds, List.getElem?_toArray, List.getElem?_cons_zero, List.getElem?_cons_succ] at h1 h2)
                      exact ⟨h1, h2⟩
                    have k160 := q20.cell 0
                    have k161 := q20.cell 1
                    have k162 := q20.cell 2
                    (try simp only [List.getElem?_setIfInBounds, List.getElem?_toArray, List.getElem?_cons_zero, List.getElem?_cons_succ] at k160 k161 k162)
                    have y0 := z20.frozen 0
                    have y1 := z20.frozen 1
                    have y2 := z20.frozen 2
                    have y3 := z20.frozen 3
                    obtain ⟨u0, u1, u2, u3⟩ := z20.cs4
                    obtain ⟨g16a, g16b, g16c⟩ := hg16
                    have HQ : Hid (((((w20.setCell ⟨w.heap.size, 0, none⟩ (.int .u8 0)).setCell ⟨w.heap.size, 1, none⟩ (.int .u8 0)).setCell ⟨w.heap.size, 2, none⟩ (.slice none 0 0)).setCell ⟨w.heap.size, 3, none⟩ (.slice none 0 0)).drew.cell? ⟨g16, 1, none⟩ = some (.int .i64 (code : Int)) ∧ ((((w20.setCell ⟨w.heap.size, 0, none⟩ (.int .u8 0)).setCell ⟨w.heap.size, 1, none⟩ (.int .u8 0)).setCell ⟨w.heap.size, 2, none⟩ (.slice none 0 0)).setCell ⟨w.heap.size, 3, none⟩ (.slice none 0 0)).drew.cell? ⟨g16, 2, none⟩ = some (.int .i64 (jf : Int))) := by
                      have hne : ∀ i j, (⟨w.heap.size, i, none⟩ : Addr) ≠ ⟨g16, j, none⟩ := fun i j e => by simp only [Addr.mk.injEq] at e; omega
                      constructor
                      · refine Eq.trans (show _ = ((((w20.setCell ⟨w.heap.size, 0, none⟩ (.int .u8 0)).setCell ⟨w.heap.size, 1, none⟩ (.int .u8 0)).setCell ⟨w.heap.size, 2, none⟩ (.slice none 0 0)).setCell ⟨w.heap.size, 3, none⟩ (.slice none 0 0)).cell? ⟨g16, 1, none⟩ from rfl) ?_
                        rw [World.cell?_setCell_other _ _ _ _ (hne _ _), World.cell?_setCell_other _ _ _ _ (hne _ _), World.cell?_setCell_other _ _ _ _ (hne _ _), World.cell?_setCell_other _ _ _ _ (hne _ _)]; exact k161
                      · refine Eq.trans (show _ = ((((w20.setCell ⟨w.heap.size, 0, none⟩ (.int .u8 0)).setCell ⟨w.heap.size, 1, none⟩ (.int .u8 0)).setCell ⟨w.heap.size, 2, none⟩ (.slice none 0 0)).setCell ⟨w.heap.size, 3, none⟩ (.slice none 0 0)).cell? ⟨g16, 2, none⟩ from rfl) ?_
                        rw [World.cell?_setCell_other _ _ _ _ (hne _ _), World.cell?_setCell_other _ _ _ _ (hne _ _), World.cell?_setCell_other _ _ _ _ (hne _ _), World.cell?_setCell_other _ _ _ _ (hne _ _)]; exact k162
                    (try clear p160 p161 p162 p163 p164 p165 q16)
                    clear q20 k160
                    go_upto_region 20 with fail
                    go_region_held3 (fun V => V.cell? ⟨g16, 1, none⟩ = some (.int .i64 (code : Int)) ∧ V.cell? ⟨g16, 2, none⟩ = some (.int .i64 (jf : Int))) (first | (with_reducible exact KQ.out _ (below_drew (Below.refl _ _))) | (with_reducible exact HQ.out) | fail) (fail)
                    have HR : Hid (res = .bad code jf) := HCB.out
                    (try simp only [Exit.inBlock, Exit.then])
                    go_wp2_with fail
                    (try simp only [Exit.inBlock, Exit.then])
                    refine bodyPost_ret (results_row_tmp2 rfl _ _ w.heap.size 25 _ _ rfl (Whole.drew ((((z20.set_ 0 _).set_ 1 _).set_ 2 _).set_ 3 _)) Tryz.underlying25 rfl (by kernel_rfl)) rfl ?_
                    exact rcr_bad HR.out (below_drew ((((hb20.setCell (Nat.le_refl _) _).setCell (Nat.le_refl _) _).setCell (Nat.le_refl _) _).setCell (Nat.le_refl _) _)) rfl rfl
                | ok ns =>
                  have HP10 : Hid (∀ W, Below w8.heap.size w8 W → Calls Tryz.prog 76 #[.int .i64 (rcl ki), .slice (some (ad.add fr)) (b.length - fr) (c - fr), .int .i64 (fr : Int), .int .i64 1] W fun e w' => ∃ A' c', e = .returned (.agg #[.slice A' ns.length c', .int .i64 0, .int .i64 0]) ∧ Hid (NodesS w' (fun x => x < B ∨ (W.heap.size ≤ x ∧ x < w'.heap.size)) A' ns ∧ ns.length ≤ c' ∧ c' ≤ maxLen) ∧ Below W.heap.size W w') := fun W hW => Calls.mono (R := RP W B (.ok ns) fr) (HP9.out W hW) (by rintro e w' ⟨h1, A', c', h2, h3⟩; exact ⟨A', c', h2, h3, h1⟩)
                  have HWT : Hid (∀ (K : Option Addr) (k : Nat) (W : World), Nodes W W.heap.size K ns → _) := fun K k W hW => HWA.out ns (HPL.out ns rfl) K k W hW
                  have HCK : Hid (res = if kidP ki ns = true then .bad 7 0 else .ok ⟨t, fl, d, ns⟩) := HC.out
                  generalize kidP ki ns = kp at *
                  clear HP9 HC HWA HPL HPN HPZ HFE
                  go_region_held3 (fun W => W.cell? ⟨g2, 6, none⟩ = some (.int .i64 ki))
                    (first | exact KS.out _ (below_drew (Below.refl _ _)) | exact KS.out _ (below_drew ((Below.refl _ _).alloc (Nat.le_refl _) _)) | exact KS.out _ R9 | exact KS.out _ (R9.alloc R9.size _) | exact KS.out _ (((R9.setCell (Nat.le_refl _) _).setCell (Nat.le_refl _) _).setCell (Nat.le_refl _) _) | fail)
                    (first
                    | (go_at_call 31; (with_reducible refine (HCL.out _).mono ?_); rintro e v1 ⟨rfl, rfl⟩)
                    | (go_at_call 76; (with_reducible refine (HP10.out _ (by first | exact below_drew (Below.refl _ _) | exact below_drew ((Below.refl _ _).alloc (Nat.le_refl _) _) | fail)).mono ?_); rintro e v9 ⟨K9, k9, rfl, hN9, b9⟩; have R9 : Below w8.heap.size w8 v9 := (by first | exact below_undrew b9 | exact ((Below.refl _ _).alloc (Nat.le_refl _) _).trans ((below_undrew b9).mono (by simp))); (try (have q16 := (Whole.drew (Whole.new _ _ _)).below b9 (by simp); have p160 := q16.cell 0; have p161 := q16.cell 1; have p162 := q16.cell 2; have p163 := q16.frozen 0; have p164 := q16.frozen 1; have p165 := q16.frozen 2; simp only [List.getElem?_toArray, List.getElem?_cons_zero, List.getElem?_cons_succ] at p160 p161 p162)))
                    | fail)
                  all_goals
                    have hB9 : B < w8.heap.size := by have := z8.lt; omega
                    have hB9g : B < g1 := by omega
                    first
                    | (have q20 := ((q16.set_ 0 (.slice K9 ns.length k9)).set_ 1 (.int .i64 0)).set_ 2 (.int .i64 0)
                       have lo10 : Below w8.heap.size w8 (((v9.setCell ⟨w8.heap.size, 0, none⟩ (.slice K9 ns.length k9)).setCell ⟨w8.heap.size, 1, none⟩ (.int .i64 0)).setCell ⟨w8.heap.size, 2, none⟩ (.int .i64 0)) := ((R9.setCell (Nat.le_refl _) _).setCell (Nat.le_refl _) _).setCell (Nat.le_refl _) _
                       have hG : ∃ G, g1 < G ∧ w.heap.size < G ∧ Hid (NodesS (((v9.setCell ⟨w8.heap.size, 0, none⟩ (.slice K9 ns.length k9)).setCell ⟨w8.heap.size, 1, none⟩ (.int .i64 0)).setCell ⟨w8.heap.size, 2, none⟩ (.int .i64 0)) (fun x => x < B ∨ (G ≤ x ∧ x < (((v9.setCell ⟨w8.heap.size, 0, none⟩ (.slice K9 ns.length k9)).setCell ⟨w8.heap.size, 1, none⟩ (.int .i64 0)).setCell ⟨w8.heap.size, 2, none⟩ (.int .i64 0)).heap.size)) K9 ns) := ⟨w8.heap.size, x8.lt, z8.lt, kids_set hN9.out.1 hB9⟩
                       have hg16 : w.heap.size < w8.heap.size ∧ g1 < w8.heap.size ∧ g2 < w8.heap.size := ⟨z8.lt, x8.lt, k8.lt⟩
                       generalize ((v9.setCell ⟨w8.heap.size, 0, none⟩ (.slice K9 ns.length k9)).setCell ⟨w8.heap.size, 1, none⟩ (.int .i64 0)).setCell ⟨w8.heap.size, 2, none⟩ (.int .i64 0) = w20 at *
                       have hz20 := lo10.size
                       have hb20 := hb8.trans (lo10.mono hb8.size)
                       have z20 := z8.below lo10 z8.lt
                       have x20 := x8.below lo10 x8.lt
                       have k20 := k8.below lo10 k8.lt
                       generalize w8.heap.size = g16 at *)
                    | (have q20 := Whole.new v9 111 #[.slice K9 ns.length k9, .int .i64 0, .int .i64 0]
                       have lo10 : Below w8.heap.size w8 (v9.alloc (.cells #[.slice K9 ns.length k9, .int .i64 0, .int .i64 0] 111)) := R9.alloc R9.size _
                       have hG : ∃ G, g1 < G ∧ w.heap.size < G ∧ Hid (NodesS (v9.alloc (.cells #[.slice K9 ns.length k9, .int .i64 0, .int .i64 0] 111)) (fun x => x < B ∨ (G ≤ x ∧ x < (v9.alloc (.cells #[.slice K9 ns.length k9, .int .i64 0, .int .i64 0] 111)).heap.size)) K9 ns) := ⟨w8.heap.size, x8.lt, z8.lt, kids_alloc hN9.out.1 (by have := R9.size; omega) _⟩
                       have hg16 : w.heap.size < v9.heap.size ∧ g1 < v9.heap.size ∧ g2 < v9.heap.size := by have h8 := R9.size; have h7 := z8.lt; have h6 := x8.lt; have h5 := k8.lt; omega
                       generalize v9.alloc (.cells #[.slice K9 ns.length k9, .int .i64 0, .int .i64 0] 111) = w20 at *
                       have hb20 := hb8.trans (lo10.mono hb8.size)
                       have z20 := z8.below lo10 z8.lt
                       have x20 := x8.below lo10 x8.lt
                       have k20 := k8.below lo10 k8.lt
                       generalize v9.heap.size = g16 at *)
                    obtain ⟨G, hG1, hG2, hkG⟩ := hG
                    have hkl := hN9.out.2
                    have k160 := q20.cell 0
                    have k161 := q20.cell 1
                    (try simp only [List.getElem?_setIfInBounds, List.getElem?_toArray, List.getElem?_cons_zero, List.getElem?_cons_succ] at k160 k161)
                    obtain ⟨q0, q1, q2, q3⟩ := x20.cs4
                    have r3 := x20.frozen 3
                    obtain ⟨d0, d1, d2, d3, d4, d5, d6⟩ := k20.kd7
                    obtain ⟨g16a, g16b, g16c⟩ := hg16
                    (try clear p160 p161 p162 p163 p164 p165 q16)
                    clear q20 hN9 R9 b9
                    go_upto_region 22 with fail
                    have x21 : Whole (w20.setCell ⟨g1, 3, none⟩ (.slice K9 ns.length k9)) g1 25 #[bv t, bv fl, .slice P d.length c4, .slice K9 ns.length k9] := x20.set_ 3 _
                    have z21 := z20.far (p := ⟨g1, 3, none⟩) (show w.heap.size ≠ g1 by omega) (.slice K9 ns.length k9)
                    have k21 := k20.far (p := ⟨g1, 3, none⟩) (show g2 ≠ g1 by omega) (.slice K9 ns.length k9)
                    have hb21 : Below w.heap.size w (w20.setCell ⟨g1, 3, none⟩ (.slice K9 ns.length k9)) := hb20.setCell (Nat.le_of_lt hg0) _
                    have hk21 := Lib.hid (kids_far hkG.out (Nat.le_of_lt hB9g) hG1 3 (.slice K9 ns.length k9))
                    generalize w20.setCell ⟨g1, 3, none⟩ (.slice K9 ns.length k9) = w21 at *
                    clear q0 q1 q2 q3 r3 d0 d1 d2 d3 d4 d5 d6 k160 k161 x20 z20 k20 hkG
                    obtain ⟨q0, q1, q2, q3⟩ := x21.cs4
                    obtain ⟨d0, d1, d2, d3, d4, d5, d6⟩ := k21.kd7
                    have hsz21 := hb21.size
                    have hw21 := HWT.out K9 k9 w21 (hk21.out.nodes (fun q hq => by rcases hq with hq | hq <;> omega))
                    go_wp2_with fail
                    refine hw21.mono ?_
                    rintro e w22 ⟨rfl, b22⟩
                    have hb22 := hb21.trans (b22.mono hb21.size)
                    have z22 := z21.below b22 z21.lt
                    have x22 := x21.below b22 x21.lt
                    have hk22 : Hid (NodesS w22 (fun q => q < B ∨ (G ≤ q ∧ q < w22.heap.size)) K9 ns) := hk21.out.turn (fun p hp => b22.cell (by rcases hp with hp | hp <;> omega)) (fun q hq => by have := b22.size; rcases hq with hq | hq; (exact .inl hq); (exact .inr ⟨hq.1, by omega⟩))
                    clear q0 q1 q2 q3 d0 d1 d2 d3 d4 d5 d6
                    obtain ⟨q0, q1, q2, q3⟩ := x22.cs4
                    cases kp with
                    | true =>
                      have HR : Hid (res = .bad 7 0) := HCK.out
                      clear HCK
                      go_wp2_with (first | (at_builtin; fail) | (refine wpList_store_row rfl 25 _ _ rfl w.heap.size #[.int .u8 0, .int .u8 0, .slice none 0 0, .slice none 0 0] rfl rfl _ _ z22 (by kernel_rfl) rfl (by simp [Value.oneCell']) ?_))
                      (try simp only [Exit.inBlock, Exit.then])
                      refine bodyPost_ret (results_row_tmp2 rfl _ _ w.heap.size 25 _ _ rfl (z22.setRow _) Tryz.underlying25 rfl (by kernel_rfl)) rfl ?_
                      exact rcr_bad HR.out (below_setRow hb22 (Nat.le_refl _) _) (by first | rfl | omega) (by first | rfl | omega)
                    | false =>
                      have HR : Hid (res = .ok ⟨t, fl, d, ns⟩) := HCK.out
                      have HFIN : Hid (∀ cs, ChunkS (w22.setRow w.heap.size cs) (fun q => q < B ∨ (w.heap.size ≤ q ∧ q < (w22.setRow w.heap.size cs).heap.size)) P c4 K9 k9 ⟨t, fl, d, ns⟩) := fun cs => rcr_fin hB HLP.out.1 (below_setRow hb22 (Nat.le_refl _) cs) HLP.out.2.1 HLP.out.2.2 (kids_row hk22.out hB hG2 cs) hkl.1 hkl.2
                      clear HCK
                      go_wp2_with (first | (at_builtin; fail) | (refine wpList_store_row rfl 25 _ _ rfl w.heap.size #[bv t, bv fl, .slice P d.length c4, .slice K9 ns.length k9] rfl rfl _ _ z22 (by kernel_rfl) rfl (by simp [Value.oneCell']) ?_))
                      (try simp only [Exit.inBlock, Exit.then])
                      refine bodyPost_ret (results_row_tmp2 rfl _ _ w.heap.size 25 _ _ rfl (z22.setRow _) Tryz.underlying25 rfl (by kernel_rfl)) rfl ?_
                      try rw [HR.out]
                      exact ⟨below_setRow hb22 (Nat.le_refl _) _, P, c4, K9, k9, rfl, HFIN.out _⟩
theorem rparse12_any (b : List UInt8) (hs : b.length ≤ 2000) (B : Nat) (A : Option Addr) (c : Nat) (w : World) (hB : B ≤ w.heap.size) (h : Lies w B A (b.map bv)) (hc : b.length ≤ c) (hm : c ≤ maxLen) :
    Calls Tryz.prog 25 #[.slice A b.length c] w (RCR w B (cpa b)) := by
  cases hw : whB b with
  | true => exact rparse12_whole b hs hw B A c w hB h hc hm
  | false =>
    refine (rparse12_part b (by omega) hw A c w (h.more hB)).mono ?_
    rintro e w' ⟨h1, h2⟩
    have h3 : cpa b = .bad 4 0 := by unfold cpa; rw [hw]; rfl
    rw [h3]
    exact ⟨h2, h1⟩
end Go.Proofs.YthkbcpbgoefanaaGreatDoor

