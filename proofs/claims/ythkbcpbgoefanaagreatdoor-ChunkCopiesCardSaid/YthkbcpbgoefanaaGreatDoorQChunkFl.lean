/- Layer 12: the law ChunkFlags. -/
import Derived.Test.YthkbcpbgoefanaaGreatDoorQCX
import Derived.Test.YthkbcpbgoefanaaGreatDoorQCM
import Derived.Test.YthkbcpbgoefanaaGreatDoorQCT
import Derived.Deep.Cut
namespace Go.Proofs.YthkbcpbgoefanaaGreatDoor
open Go.ChangeShapes Go.WideShapes Go.ChangeAt Go.RowKit

set_option linter.unusedSimpArgs false
theorem made_row12 (n : Nat) (hn : n ≤ 10000000) (w : World) :
    (Instr.makeSlice 22 (.int .i64 (n : Int)) (.int .i64 (n : Int))).run Tryz.prog w = .ok (.slice (some ⟨w.heap.size, 0, none⟩) n n) (w.alloc (.cells ((List.replicate n (0 : UInt8)).map bv).toArray 5)) := by
  have h := run_make_row' (P := Tryz.prog) 22 5 (.int .u8 0) 1 Tryz.underlying22 u8info rfl .i64 .i64 n (by omega) (by omega) w
  rw [h, ← made_zero]
theorem wh4 {W : World} {g : Nat} {t : TypeId} {a b c d : Value} (hW : Whole W g t #[a, b, c, d]) : W.cell? ⟨g, 0, none⟩ = some a ∧ W.cell? ⟨g, 1, none⟩ = some b ∧ W.cell? ⟨g, 2, none⟩ = some c ∧ W.cell? ⟨g, 3, none⟩ = some d := by
  refine ⟨?_, ?_, ?_, ?_⟩ <;> (rw [hW.cell]; rfl)
theorem errO_err (r : CR) : errO r.err = match r with | .ok _ => .nilIface | .bad c a => faultV (c : Int) (a : Int) := by
  cases r <;> rfl
/-- Parse, by the error alone -/
theorem cparse_err (A : Option Addr) (c : Nat) (b : List UInt8) (w : World) (hh : Handle w) (h : Lies w w.heap.size A (b.map bv)) (hc : b.length ≤ c) (hm : c ≤ maxLen) (hs : b.length ≤ 1000000) :
    Calls Tryz.prog 21 #[.slice A b.length c] w fun e w' => Below w.heap.size w w' ∧ ∃ (y : Ck) (A' : Option Addr) (c' : Nat) (K' : Option Addr) (k' : Nat), e = .returned (.tuple #[ckV y A' c' K' k', errO (cpa b).err]) := by
  have h1 := cparse_any A c b w hh h hc hm hs
  refine Calls.mono (R := CPaR w (cpa b)) h1 ?_
  rintro e w' ⟨h2, h3⟩
  refine ⟨h2, ?_⟩
  rw [errO_err]
  cases hr : cpa b with
  | ok x =>
    rw [hr] at h3
    obtain ⟨A', c', K', k', rfl, _⟩ := h3
    exact ⟨x, A', c', K', k', rfl⟩
  | bad code a =>
    rw [hr] at h3
    exact ⟨⟨0, 0, [], []⟩, none, 0, none, 0, h3⟩
theorem fl_a (w3 : World) (ty fl : UInt8) (l0 : Nat) : Whole (((w3.alloc (.cells #[.int .u8 (ty.toNat : Int), .int .u8 (fl.toNat : Int), .slice (some ⟨w3.heap.size + 1, 0, none⟩) l0 l0, .slice none 0 0] 25)).alloc (.cells (Array.replicate l0 (bv 0)) 5)).drew) w3.heap.size 25 #[bv ty, bv fl, .slice (some ⟨w3.heap.size + 1, 0, none⟩) l0 l0, .slice none 0 0] ∧ Lies (((w3.alloc (.cells #[.int .u8 (ty.toNat : Int), .int .u8 (fl.toNat : Int), .slice (some ⟨w3.heap.size + 1, 0, none⟩) l0 l0, .slice none 0 0] 25)).alloc (.cells (Array.replicate l0 (bv 0)) 5)).drew) (((w3.alloc (.cells #[.int .u8 (ty.toNat : Int), .int .u8 (fl.toNat : Int), .slice (some ⟨w3.heap.size + 1, 0, none⟩) l0 l0, .slice none 0 0] 25)).alloc (.cells (Array.replicate l0 (bv 0)) 5)).drew).heap.size (some ⟨w3.heap.size + 1, 0, none⟩) ((List.replicate l0 (0 : UInt8)).map bv) ∧ Below w3.heap.size w3 (((w3.alloc (.cells #[.int .u8 (ty.toNat : Int), .int .u8 (fl.toNat : Int), .slice (some ⟨w3.heap.size + 1, 0, none⟩) l0 l0, .slice none 0 0] 25)).alloc (.cells (Array.replicate l0 (bv 0)) 5)).drew) := by
  have hrow : Array.replicate l0 (bv 0) = ((List.replicate l0 (0 : UInt8)).map bv).toArray := by simp
  refine ⟨Whole.drew ((Whole.new w3 _ _).alloc _), ?_, below_drew (((Below.refl _ _).alloc (Nat.le_refl _) _).alloc (by simp) _)⟩
  have h9 := Lies.newN (w3.alloc (.cells #[.int .u8 (ty.toNat : Int), .int .u8 (fl.toNat : Int), .slice (some ⟨w3.heap.size + 1, 0, none⟩) l0 l0, .slice none 0 0] 25)) ((List.replicate l0 (0 : UInt8)).map bv) 5
  rw [← hrow, World.size_alloc] at h9
  exact (h9.keep fun _ _ => rfl).more (by show _ ≤ ((w3.alloc (.cells #[.int .u8 (ty.toNat : Int), .int .u8 (fl.toNat : Int), .slice (some ⟨w3.heap.size + 1, 0, none⟩) l0 l0, .slice none 0 0] 25)).alloc (.cells (Array.replicate l0 (bv 0)) 5)).heap.size; simp)
theorem fl_b (w3 : World) (ty fl : UInt8) (l0 : Nat) : Whole (((w3.alloc (.cells (Array.replicate l0 (bv 0)) 5)).alloc (.cells #[.int .u8 (ty.toNat : Int), .int .u8 (fl.toNat : Int), .slice (some ⟨w3.heap.size, 0, none⟩) l0 l0, .slice none 0 0] 25)).drew) (w3.heap.size + 1) 25 #[bv ty, bv fl, .slice (some ⟨w3.heap.size, 0, none⟩) l0 l0, .slice none 0 0] ∧ Lies (((w3.alloc (.cells (Array.replicate l0 (bv 0)) 5)).alloc (.cells #[.int .u8 (ty.toNat : Int), .int .u8 (fl.toNat : Int), .slice (some ⟨w3.heap.size, 0, none⟩) l0 l0, .slice none 0 0] 25)).drew) (((w3.alloc (.cells (Array.replicate l0 (bv 0)) 5)).alloc (.cells #[.int .u8 (ty.toNat : Int), .int .u8 (fl.toNat : Int), .slice (some ⟨w3.heap.size, 0, none⟩) l0 l0, .slice none 0 0] 25)).drew).heap.size (some ⟨w3.heap.size, 0, none⟩) ((List.replicate l0 (0 : UInt8)).map bv) ∧ Below w3.heap.size w3 (((w3.alloc (.cells (Array.replicate l0 (bv 0)) 5)).alloc (.cells #[.int .u8 (ty.toNat : Int), .int .u8 (fl.toNat : Int), .slice (some ⟨w3.heap.size, 0, none⟩) l0 l0, .slice none 0 0] 25)).drew) := by
  have hrow : Array.replicate l0 (bv 0) = ((List.replicate l0 (0 : UInt8)).map bv).toArray := by simp
  refine ⟨?_, ?_, below_drew (((Below.refl _ _).alloc (Nat.le_refl _) _).alloc (by simp) _)⟩
  · have h9 := Whole.new (w3.alloc (.cells (Array.replicate l0 (bv 0)) 5)) 25 #[bv ty, bv fl, .slice (some ⟨w3.heap.size, 0, none⟩) l0 l0, .slice none 0 0]
    rw [World.size_alloc] at h9
    exact Whole.drew h9
  · have h9 := Lies.newN w3 ((List.replicate l0 (0 : UInt8)).map bv) 5
    rw [← hrow] at h9
    exact ((Lies.alloc h9 (by simp) (.cells #[.int .u8 (ty.toNat : Int), .int .u8 (fl.toNat : Int), .slice (some ⟨w3.heap.size, 0, none⟩) l0 l0, .slice none 0 0] 25)).keep fun _ _ => rfl).more (by show _ ≤ ((w3.alloc (.cells (Array.replicate l0 (bv 0)) 5)).alloc _).heap.size; simp)
set_option maxRecDepth 100000 in
set_option maxHeartbeats 8000000 in
theorem flags_law (n fl : UInt8) (w : World) (hh : Handle w) :
    Calls Tryz.prog 7 #[bv n, bv fl] w fun e w' => e = .returned (.bool true) ∧ Below w.heap.size w w' := by
  have HH := Lib.hid hh
  have hn := n.toNat_lt
  have hN := fun W => rknumber_any n.toNat (by omega) W
  have hA := cawake_any w hh
  clear hh
  go_enter Tryz.func7, Tryz.ntmps7
  go_wp2_with fail
  refine hA.mono ?_
  rintro e w1 ⟨rfl, b1⟩
  go_wp2_with fail
  refine (hN _).mono ?_
  rintro e w2 ⟨f, hf, rfl, b2⟩
  have B2 := b1.trans (b2.mono b1.size)
  obtain ⟨hlo, hhi, hun, hki, hms, hlh⟩ := kT_all f hf
  have h6 := chk_six f hf fl
  have t6 := told_six f hf fl
  have hfine := ckz_fine f hf fl
  have hsz := ckz_sz f hf fl
  have hmm := and_all f.ms.toNat (by rcases hms with h | h | h <;> rw [h] <;> decide) fl.toNat fl.toNat_lt
  clear hN hA hhi hun hki hms hlh hf
  obtain ⟨ty, nm, mk, lo, hi, un, ki⟩ := f
  unfold Kd.val
  simp only [] at hlo hmm h6 t6 ⊢
  obtain ⟨l0, rfl⟩ : ∃ l0 : Nat, lo = (l0 : Int) := ⟨lo.toNat, by omega⟩
  obtain ⟨x, hx⟩ : ∃ x, ckz ⟨ty, nm, mk, (l0 : Int), hi, un, ki⟩ fl = x := ⟨_, rfl⟩
  have HXP : Hid (x = ⟨ty, fl, List.replicate l0 0, []⟩) := by rw [← hx]; unfold Hid ckz; simp
  rw [hx] at h6 t6 hfine hsz
  clear hx
  have w5 : wrap64 (fl.toNat : Int) = (fl.toNat : Int) := by have := fl.toNat_lt; unfold wrap64; omega
  have w6 : wrap64 (mk.toNat : Int) = (mk.toNat : Int) := by have := mk.toNat_lt; unfold wrap64; omega
  have w7 : wrap64 (255 - (mk.toNat : Int)) = 255 - (mk.toNat : Int) := by have := mk.toNat_lt; unfold wrap64; omega
  have hm9 : (bits BinOp.and IntKind.i64 (wrap64 (fl.toNat : Int)) (wrap64 (255 - wrap64 (mk.toNat : Int))) != 0) = mskB fl.toNat mk.toNat := by rw [w6, w7, w5]; exact hmm
  clear w5 w6 w7 hmm
  have HCD : Hid (∀ W, Calls Tryz.prog 17 #[codeE (chkC x), .int .i64 6] W fun e w' => e = .returned (.bool (mskB fl.toNat mk.toNat)) ∧ W = w') := fun W => by
    have h9 := coded12 (chkC x) 6 W
    rwa [h6] at h9
  have HTL : Hid (∀ W, Handle W → Calls Tryz.prog 26 #[errO (cpa (ckB x)).err, .int .i64 6, .int .i64 1] W fun e w' => e = .returned (.bool (mskB fl.toNat mk.toNat)) ∧ Below W.heap.size W w') := fun W hW => by
    have h9 := told12 (cpa (ckB x)).err 6 1 W hW
    rwa [t6] at h9
  have HCH := Lib.hid (fun (A : Option Addr) (c : Nat) (W : World) (hW : Chunk W W.heap.size A c none 0 x) (hh : Handle W) => ccheck_any x hfine A c none 0 W hW hh)
  have HBY := Lib.hid (fun (A : Option Addr) (c : Nat) (W : World) (hW : Chunk W W.heap.size A c none 0 x) => rbytes12 x hfine hsz (by intro n hn; rw [HXP.out] at hn; cases hn) A c none 0 W hW)
  have HPR := Lib.hid (fun (A : Option Addr) (c : Nat) (W : World) (hW : Lies W W.heap.size A ((ckB x).map bv)) (hh : Handle W) h1 h2 => cparse_err A c (ckB x) W hh hW h1 h2 (by rw [ckB_len]; omega))
  have HCHK : Hid (∀ (W : World) (g : Nat), Lies W W.heap.size (some ⟨g, 0, none⟩) ((List.replicate l0 (0 : UInt8)).map bv) → Chunk W W.heap.size (some ⟨g, 0, none⟩) l0 none 0 x) := fun W g hL => by
    rw [HXP.out]
    exact ⟨hL, by simp, by unfold maxLen; omega, Nodes.nil _ _ _, Nat.le_refl _, Nat.zero_le _⟩
  have hl9 : l0 ≤ 10000000 := by omega
  have hmk := made_row12 l0 hl9
  have hxl : x.d.length = l0 ∧ x.ks = [] ∧ x.t = ty ∧ x.fl = fl := by rw [HXP.out]; simp
  unfold ckV at HCH HBY
  rw [hxl.1, hxl.2.1, hxl.2.2.1, hxl.2.2.2] at HCH HBY
  simp only [List.length_nil] at HCH HBY
  unfold JnR at HBY
  clear h6 t6 hfine hsz
  have hbb : (mskB fl.toNat mk.toNat == mskB fl.toNat mk.toNat) = true := by cases mskB fl.toNat mk.toNat <;> rfl
  generalize mskB fl.toNat mk.toNat = bb at *
  generalize codeE (chkC x) = ve at *
  generalize errO (cpa (ckB x)).err = vo at *
  generalize ckB x = bs at *
  have B3 := B2.alloc B2.size (.cells #[bv ty, .string nm, bv mk, .int .i64 (l0 : Int), .int .i64 hi, .int .i64 un, .int .i64 ki] 45)
  have k3 := Whole.new w2 45 #[bv ty, .string nm, bv mk, .int .i64 (l0 : Int), .int .i64 hi, .int .i64 un, .int .i64 ki]
  go_upto_region 4 with fail
  generalize w2.alloc (.cells #[bv ty, .string nm, bv mk, .int .i64 (l0 : Int), .int .i64 hi, .int .i64 un, .int .i64 ki] 45) = w3 at *
  generalize w2.heap.size = gk at *
  obtain ⟨d0, d1, d2, d3, d4, d5, d6⟩ := k3.kd7
  have hl0' : (0 : Int) ≤ (l0 : Int) := by omega
  have KS : Hid (∀ W, Below w3.heap.size w3 W → W.cell? ⟨gk, 0, none⟩ = some (bv ty) ∧ W.cell? ⟨gk, 3, none⟩ = some (.int .i64 (l0 : Int))) := fun W hW => ⟨(k3.below hW k3.lt).kd7.1, (k3.below hW k3.lt).kd7.2.2.2.1⟩
  go_region_held3 (fun W => W.cell? ⟨gk, 0, none⟩ = some (bv ty) ∧ W.cell? ⟨gk, 3, none⟩ = some (.int .i64 (l0 : Int)))
    (first | exact KS.out _ (below_drew (Below.refl _ _)) | exact KS.out _ (below_drew ((Below.refl _ _).alloc (Nat.le_refl _) _)) | exact KS.out _ (below_drew (((Below.refl _ _).alloc (Nat.le_refl _) _).alloc (by simp) _)) | go_keep | fail) (fail)
  all_goals
    first
    | (show Exit.then _ _ _ _ (((w3.alloc (.cells #[.int .u8 (ty.toNat : Int), .int .u8 (fl.toNat : Int), .slice (some ⟨w3.heap.size + 1, 0, none⟩) l0 l0, .slice none 0 0] 25)).alloc (.cells (Array.replicate l0 (bv 0)) 5)).drew)
       obtain ⟨x4, hL4, hb4⟩ := fl_a w3 ty fl l0
       generalize (((w3.alloc (.cells #[.int .u8 (ty.toNat : Int), .int .u8 (fl.toNat : Int), .slice (some ⟨w3.heap.size + 1, 0, none⟩) l0 l0, .slice none 0 0] 25)).alloc (.cells (Array.replicate l0 (bv 0)) 5)).drew) = w4 at *
       generalize w3.heap.size + 1 = gd at *
       generalize hgx : w3.heap.size = gx at x4 ⊢)
    | (obtain ⟨x4, hL4, hb4⟩ := fl_b w3 ty fl l0
       generalize (((w3.alloc (.cells (Array.replicate l0 (bv 0)) 5)).alloc (.cells #[.int .u8 (ty.toNat : Int), .int .u8 (fl.toNat : Int), .slice (some ⟨w3.heap.size, 0, none⟩) l0 l0, .slice none 0 0] 25)).drew) = w4 at *
       generalize w3.heap.size + 1 = gx at *
       generalize hgd : w3.heap.size = gd at x4 hL4 ⊢)
    have B4 := B3.trans (hb4.mono B3.size)
    have k4 := k3.below hb4 k3.lt
    have hC4 := HCHK.out _ _ hL4
    obtain ⟨d0, d1, d2, d3, d4, d5, d6⟩ := k4.kd7
    obtain ⟨q0, q1, q2, q3⟩ := (wh4 x4)
    have H4 := HH.out.below B4 HH.out.lt
    clear KS hmk
    go_wp2_with fail
    refine (HCH.out _ _ w4 hC4 H4).mono ?_
    rintro e w5 ⟨rfl, b5⟩
    have B5 := B4.trans (b5.mono B4.size)
    have x5 := x4.below b5 x4.lt
    have hC5 := hC4.on b5
    obtain ⟨q0, q1, q2, q3⟩ := (wh4 x5)
    go_wp2_with fail
    refine (HBY.out _ _ w5 hC5).mono ?_
    rintro e w6 ⟨A6, c6, rfl, own6, b6⟩
    have B6 := B5.trans (b6.mono B5.size)
    have H6 := HH.out.below B6 HH.out.lt
    have hc6 := own_cap own6
    go_wp2_with fail
    refine (HPR.out A6 c6 w6 (Lies.own own6) H6 hc6.2.1 hc6.2.2).mono ?_
    rintro e w7 ⟨b7, y, A7, c7, K7, k7, rfl⟩
    have B7 := B6.trans (b7.mono B6.size)
    have B8 := B7.alloc B7.size (.cells (ckCells y A7 c7 K7 k7) 25)
    go_upto_region 8 with fail
    generalize w7.alloc (.cells (ckCells y A7 c7 K7 k7) 25) = w8 at *
    have H8 := HH.out.below B8 HH.out.lt
    go_wp2_with fail
    refine (HCD.out w8).mono ?_
    rintro e w9 ⟨rfl, rfl⟩
    go_wp2_with fail
    refine (HTL.out w8 H8).mono ?_
    rintro e w10 ⟨rfl, b10⟩
    go_wp2_with fail
    go_ret
    exact ⟨rfl, B8.trans (b10.mono B8.size)⟩
set_option maxRecDepth 100000 in
theorem law_ChunkFlags {H : Type} {enc : TypeId × Value → H} {W : World} {base : Nat} {v0 v1 : Value} {d0 d1 : DataW H} {p0 p1 : List MemPlace}
    (o0 : Value.okWide Tryz.prog W .any base 5 v0) (h0 : DataW.Trod enc Tryz.prog W 0 (fun _ => true) true 5 v0 d0 p0) (_s0 : Small Tryz.prog 5 d0)
    (o1 : Value.okWide Tryz.prog W .any base 5 v1) (h1 : DataW.Trod enc Tryz.prog W 0 (fun _ => true) true 5 v1 d1 p1) (_s1 : Small Tryz.prog 5 d1) (hL : laidMetH Tryz.prog laidL W) :
    Calls Tryz.prog 7 #[v0, v1] W fun e w' => e = .returned (.bool true) ∧ Below W.heap.size W w' := by
  obtain ⟨n, rfl, _, _, wn⟩ := open_int Tryz.underlying5 o0 h0
  obtain ⟨m, rfl, _, _, wm⟩ := open_int Tryz.underlying5 o1 h1
  rw [bv_of12 (wf_u8 wn), bv_of12 (wf_u8 wm)]
  exact flags_law _ _ W (handle_of_laid hL)
end Go.Proofs.YthkbcpbgoefanaaGreatDoor

