/- Layer 12: Check and Encode. They write nothing that was there. -/
/- Layer 12: Encode. It writes nothing that was there. -/
import Derived.Test.YthkbcpbgoefanaaGreatDoorQChunkF
import Derived.Test.YthkbcpbgoefanaaGreatDoorQTA
import Derived.Test.YthkbcpbgoefanaaGreatDoorQNodeFG
import Derived.Test.YthkbcpbgoefanaaGreatDoorQHeadX




namespace Go.Proofs.YthkbcpbgoefanaaGreatDoor
open Go.RowKit

/-- the code of a chunk's error, 0 if it is right -/
def chkC (x : Ck) : Nat := if flB x = true then 6 else if daB x = true then 7 else if kidB x = true then 7 else if cntC x = true then 8 else match cvalO x with
  | some _ => 11
  | none => if chkL (kc x.t) x.ks ≠ 0 then chkL (kc x.t) x.ks else if 65535 < csz x then 4 else 0
theorem ckE7_form (x : Ck) : (chkC x = 0 ∧ ckE7 x = .nilIface) ∨ (chkC x ≠ 0 ∧ ∃ f a, ckE7 x = baseV f (chkC x : Nat) a) := by
  unfold chkC ckE7
  split
  · exact .inr ⟨by decide, true, 1, rfl⟩
  · split
    · exact .inr ⟨by decide, true, 0, rfl⟩
    · split
      · exact .inr ⟨by decide, true, 0, rfl⟩
      · split
        · exact .inr ⟨by decide, true, 12, rfl⟩
        · cases cvalO x with
          | some a => exact .inr ⟨by simp, true, (a : Int), rfl⟩
          | none =>
            simp only []
            split
            · rename_i h
              exact .inr ⟨h, false, 0, rfl⟩
            · split
              · exact .inr ⟨by decide, false, 0, rfl⟩
              · exact .inl ⟨rfl, rfl⟩
theorem chk_parts {x : Ck} (h : chkC x = 0) : flB x = false ∧ daB x = false ∧ kidB x = false ∧ cntC x = false ∧ cvalO x = none ∧ chkL (kc x.t) x.ks = 0 ∧ csz x ≤ 65535 := by
  unfold chkC at h
  split at h
  · cases h
  · rename_i h1
    split at h
    · cases h
    · rename_i h2
      split at h
      · cases h
      · rename_i h3
        split at h
        · cases h
        · rename_i h4
          cases hv : cvalO x with
          | some a => rw [hv] at h; cases h
          | none =>
            rw [hv] at h
            simp only [] at h
            split at h
            · rename_i h5; exact absurd h h5
            · rename_i h5
              split at h
              · cases h
              · rename_i h6
                refine ⟨by simpa using h1, by simpa using h2, by simpa using h3, by simpa using h4, rfl, by simpa using h5, by omega⟩
theorem whole_cells {w : World} {g : Nat} {t : TypeId} {fs : List Value} (h : Whole w g t fs.toArray) : ∀ (j : Nat) (u : Value), fs[j]? = some u → w.cell? ⟨g, j, none⟩ = some u := fun j u hu => by
  rw [h.cell]
  simpa using hu
set_option maxRecDepth 100000 in
set_option maxHeartbeats 2000000 in
theorem ccheck_any (x : Ck) (hf : CkFine x) (A : Option Addr) (c : Nat) (K : Option Addr) (k : Nat) (w : World) (h : Chunk w w.heap.size A c K k x) (hh : Handle w) :
    Calls Tryz.prog 18 #[ckV x A c K k] w fun e w' => e = .returned (codeE (chkC x)) ∧ Below w.heap.size w w' := by
  have b0 : Below w.heap.size w (w.alloc (.cells (ckCells x A c K k) 25)) := (Below.refl _ w).alloc (Nat.le_refl _) _
  have x0 := CkBox.new w x A c K k
  have hz0 : (w.alloc (.cells (ckCells x A c K k) 25)).heap.size = w.heap.size + 1 := by simp
  have hC := ckE7_form x
  obtain ⟨q0, q1, q2, q3⟩ := x0.cs
  have HFI : Calls Tryz.prog 58 #[ckV x A c K k, .slice (some ⟨w.heap.size + 1, 0, none⟩) 7 7] ((w.alloc (.cells (ckCells x A c K k) 25)).alloc (.cells ckFs7.toArray 150)) fun e w' => e = .returned (ckE7 x) ∧ Below w.heap.size w w' := by
    have b1 := b0.alloc b0.size (.cells ckFs7.toArray 150)
    have hW := Whole.new (w.alloc (.cells (ckCells x A c K k) 25)) 150 ckFs7.toArray
    rw [hz0] at hW
    refine (first7_any x hf A c K k (w.heap.size + 1) _ (h.on b1) hW.lt (whole_cells hW)).mono ?_
    rintro e w' ⟨h1, h2⟩
    exact ⟨h1, b1.trans (h2.mono b1.size)⟩
  rcases hC with ⟨hz, he⟩ | ⟨hz, f, a, he⟩
  · rw [he] at HFI
    rw [hz]
    clear hz he
    go_enter Tryz.func18, Tryz.ntmps18
    go_wp2_with fail
    refine HFI.mono ?_
    rintro e w1 ⟨rfl, b1⟩
    have hN := Code_nil w1
    go_wp2_with fail
    refine hN.mono ?_
    rintro e w2 ⟨rfl, b2⟩
    go_wp2_with fail
    go_ret
    exact ⟨rfl, b1.trans (b2.mono b1.size)⟩
  · rw [he] at HFI
    have hE : codeE (chkC x) = codeV ((chkC x : Nat) : Int) := by unfold codeE; rw [if_neg hz]
    rw [hE]
    generalize chkC x = n at *
    clear hz he hE
    unfold codeV
    go_enter Tryz.func18, Tryz.ntmps18
    go_wp2_with fail
    refine HFI.mono ?_
    rintro e w1 ⟨rfl, b1⟩
    have hN := Code_any f (n : Int) a w1 (hh.below b1 hh.lt)
    go_wp2_with fail
    refine hN.mono ?_
    rintro e w2 ⟨rfl, b2⟩
    go_wp2_with fail
    go_ret
    exact ⟨rfl, b1.trans (b2.mono b1.size)⟩

/-! ### Encode -/
/-- the bytes of a right chunk -/
def ckB (x : Ck) : List UInt8 := frB ⟨u16of (256 * x.t.toNat + x.fl.toNat), x.d ++ jn (frs x.ks)⟩
end Go.Proofs.YthkbcpbgoefanaaGreatDoor



namespace Go.Proofs.YthkbcpbgoefanaaGreatDoor
open Go.RowKit

theorem wrap16 (z : Int) (h0 : 0 ≤ z) (h1 : z < 65536) : IntKind.u16.wrap z = z := by
  unfold IntKind.wrap IntKind.bits
  simp [IntKind.signed]
  omega
theorem or16 (a b : Nat) (ha : a < 65536) (hb : b < 65536) : bits BinOp.or IntKind.u16 (a : Int) (b : Int) = ((a ||| b : Nat) : Int) := by
  have h : a ||| b < 2 ^ 16 := Nat.or_lt_two_pow (by omega) (by omega)
  show IntKind.u16.wrap (((BitVec.ofInt 16 (a : Int) ||| BitVec.ofInt 16 (b : Int) : BitVec 16).toNat : Nat) : Int) = _
  rw [BitVec.ofInt_natCast, BitVec.ofInt_natCast, BitVec.toNat_or, BitVec.toNat_ofNat, BitVec.toNat_ofNat, Nat.mod_eq_of_lt (by omega : a < 2 ^ 16), Nat.mod_eq_of_lt (by omega : b < 2 ^ 16)]
  exact wrap16 _ (by omega) (by omega)
theorem ty_or (t f : Nat) (ht : t < 256) (hf : f < 256) : bits BinOp.or IntKind.u16 (IntKind.u16.wrap (IntKind.u16.wrap (t : Int) * 256)) (IntKind.u16.wrap (f : Int)) = ((256 * t + f : Nat) : Int) := by
  rw [wrap16 (t : Int) (by omega) (by omega), wrap16 (f : Int) (by omega) (by omega), wrap16 _ (by omega) (by omega), show (t : Int) * 256 = ((t * 256 : Nat) : Int) by omega, or16 _ _ (by omega) (by omega)]
  have h := Nat.shiftLeft_add_eq_or_of_lt (i := 8) (b := f) (by omega) t
  rw [Nat.shiftLeft_eq] at h
  rw [show t * 256 = t * 2 ^ 8 by rfl, ← h]
  congr 1
  omega
/-- how Encode ends -/
def CEncR (w : World) (x : Ck) (e : Ending) (w' : World) : Prop := Below w.heap.size w w' ∧
  ((chkC x ≠ 0 ∧ e = .returned (.tuple #[.slice none 0 0, codeE (chkC x)])) ∨
   (chkC x = 0 ∧ ∃ A' c', e = .returned (.tuple #[.slice A' (csz x) c', codeE (chkC x)]) ∧ Lies w' w'.heap.size A' ((ckB x).map bv) ∧ csz x ≤ c' ∧ c' ≤ maxLen))
set_option maxRecDepth 100000 in
set_option maxHeartbeats 4000000 in
theorem cencode_any (x : Ck) (hf : CkFine x) (A : Option Addr) (c : Nat) (K : Option Addr) (k : Nat) (w : World) (h : Chunk w w.heap.size A c K k x) (hh : Handle w) :
    Calls Tryz.prog 16 #[ckV x A c K k] w (CEncR w x) := by
  have b0 : Below w.heap.size w (w.alloc (.cells (ckCells x A c K k) 25)) := (Below.refl _ w).alloc (Nat.le_refl _) _
  have x0 := CkBox.new w x A c K k
  have h0 := h.on b0
  have hC := ccheck_any x hf A c K k _ h0 (hh.below b0 hh.lt)
  obtain ⟨q0, q1, q2, q3⟩ := x0.cs
  unfold CEncR
  by_cases hz : chkC x = 0
  · have hp := chk_parts hz
    have hEn := fun W hW => encode_any (kc x.t) K k x.ks W hW hf.ks hf.each
    have hI := cinside_any x.t
    have HJL := Lib.hid (jnf_len x.ks)
    obtain ⟨_, _, _, _, _, hkl, hsz⟩ := hp
    unfold csz at hsz ⊢
    unfold EncR at hEn
    rw [hz] at hC ⊢
    rw [hkl] at hEn
    generalize kc x.t = cl at *
    generalize kin x.t = kb at *
    clear hz hf h hkl
    simp only [codeE, if_true] at hC ⊢
    unfold ckB
    generalize jn (frs x.ks) = bs at *
    go_enter Tryz.func16, Tryz.ntmps16
    go_wp2_with fail
    generalize w.alloc (.cells (ckCells x A c K k) 25) = w0 at *
    refine hC.mono ?_
    rintro e w1 ⟨rfl, b1⟩
    have x1 := x0.below b1
    clear q0 q1 q2 q3
    obtain ⟨q0, q1, q2, q3⟩ := x1.cs
    go_wp2_with fail
    refine (hI _).mono ?_
    rintro e w2 ⟨rfl, b2⟩
    have x2 := x1.below b2
    clear q0 q1 q2 q3
    obtain ⟨q0, q1, q2, q3⟩ := x2.cs
    have b12 := b1.trans (b2.mono b1.size)
    have hE2 := hEn w2 (h0.on b12).kids
    go_wp2_with fail
    refine Calls.mono hE2 ?_
    rintro e w3 ⟨b3, ⟨hne, _⟩ | ⟨_, A3, c3, rfl, own3⟩⟩
    · exact absurd rfl hne
    have x3 := x2.below b3
    clear q0 q1 q2 q3
    obtain ⟨q0, q1, q2, q3⟩ := x3.cs
    have b13 := b12.trans (b3.mono b12.size)
    have hd3 := (h0.on b13).data
    have hb03 := b0.trans (b13.mono b0.size)
    have cap3 := own_cap own3
    have L3 := Lies.own own3
    have KS : Hid (∀ W, Below w3.heap.size w3 W → W.cell? ⟨w.heap.size, 0, none⟩ = some (bv x.t) ∧ W.cell? ⟨w.heap.size, 1, none⟩ = some (bv x.fl) ∧ W.cell? ⟨w.heap.size, 2, none⟩ = some (.slice A x.d.length c) ∧ W.cell? ⟨w.heap.size, 3, none⟩ = some (.slice K x.ks.length k)) := fun W hW => (x3.below hW).cs
    have HJ : Hid (Calls Tryz.prog 57 #[.slice (some ⟨w3.heap.size, 0, none⟩) 2 2] (w3.alloc (.cells #[.slice A x.d.length c, .slice A3 bs.length c3] 22)).drew fun e w' =>
        ∃ A' c', e = .returned (.slice A' (x.d ++ bs).length c') ∧ Lies w' w'.heap.size A' ((x.d ++ bs).map bv) ∧ (x.d ++ bs).length ≤ c' ∧ c' ≤ maxLen ∧ Below w3.heap.size w3 w') := by
      have h1 : IsB w3 w3.heap.size (.slice A x.d.length c) x.d := ⟨A, c, rfl, hd3, h0.dc, h0.dm⟩
      have h2 : IsB w3 w3.heap.size (.slice A3 bs.length c3) bs := ⟨A3, c3, rfl, L3, cap3.2.1, cap3.2.2⟩
      have hP := parts2 _ _ _ _ h1 h2
      have hbn : Below w3.heap.size w3 (w3.alloc (.cells #[.slice A x.d.length c, .slice A3 bs.length c3] 22)) := (Below.refl _ _).alloc (Nat.le_refl _) _
      have hP2 : Parts (w3.alloc (.cells #[.slice A x.d.length c, .slice A3 bs.length c3] 22)).drew (w3.alloc (.cells #[.slice A x.d.length c, .slice A3 bs.length c3] 22)).drew.heap.size (some ⟨w3.heap.size, 0, none⟩) _ _ :=
        ⟨hP.lies.keep fun _ _ => rfl, hP.len, fun i p hp => by obtain ⟨v, h3, A4, c4, h5, h6, h7⟩ := hP.each i p hp; exact ⟨v, h3, A4, c4, h5, h6.keep fun _ _ => rfl, h7⟩⟩
      have ht : tot [x.d, bs] = (x.d ++ bs).length := by simp [tot]
      refine (join_any _ 2 _ _ _ hP2 (by simp [maxLen]) (by rw [ht, List.length_append, HJL.out]; omega)).mono ?_
      rintro e w' ⟨A', c', rfl, hown, hb⟩
      rw [ht] at hown ⊢
      have e3 : [x.d, bs].flatten = x.d ++ bs := by simp
      rw [e3] at hown
      exact ⟨A', c', rfl, Lies.own hown, (own_cap hown).2.1, (own_cap hown).2.2, hbn.trans ((below_undrew hb).mono (by simp))⟩
    have HPU : Hid (∀ (W : World) (A4 : Option Addr) (c4 : Nat), Lies W W.heap.size A4 ((x.d ++ bs).map bv) → (x.d ++ bs).length ≤ c4 → c4 ≤ maxLen → Calls Tryz.prog 56 #[.agg #[.int .u16 (bits BinOp.or IntKind.u16 (IntKind.u16.wrap (IntKind.u16.wrap (x.t.toNat : Int) * 256)) (IntKind.u16.wrap (x.fl.toNat : Int))), .slice A4 (x.d.length + bs.length) c4]] W fun e w' =>
        ∃ A' c', e = .returned (.tuple #[.slice A' (4 + (x.d ++ bs).length) c', .bool true]) ∧ Lies w' w'.heap.size A' ((frB ⟨u16of (256 * x.t.toNat + x.fl.toNat), x.d ++ bs⟩).map bv) ∧ 4 + (x.d ++ bs).length ≤ c' ∧ c' ≤ maxLen ∧ Below W.heap.size W w') := by
      intro W A4 c4 g1 g2 g3
      have h1 := x.t.toNat_lt
      have h2 := x.fl.toNat_lt
      rw [ty_or _ _ h1 h2]
      have h3 := tput_any (u16of (256 * x.t.toNat + x.fl.toNat)) A4 c4 (x.d ++ bs) W g1 g2 g3 (by rw [List.length_append, HJL.out]; omega)
      unfold hv at h3
      rw [u16of_toNat (by omega), List.length_append] at h3
      refine h3.mono ?_
      rintro e w' ⟨A', c', rfl, hown, hb⟩
      exact ⟨A', c', by rw [List.length_append], Lies.own hown, by rw [List.length_append]; exact (own_cap hown).2.1, (own_cap hown).2.2, hb⟩
    have HSZ : Hid (4 + (x.d ++ bs).length = 4 + x.d.length + sizes (lens x.ks)) := by unfold Hid; rw [List.length_append, HJL.out]; omega
    clear own3 hE2 hEn hI hC
    go_wp2_with fail
    go_region_held3 (fun W => W.cell? ⟨w.heap.size, 0, none⟩ = some (bv x.t) ∧ W.cell? ⟨w.heap.size, 1, none⟩ = some (bv x.fl) ∧ W.cell? ⟨w.heap.size, 2, none⟩ = some (.slice A x.d.length c) ∧ W.cell? ⟨w.heap.size, 3, none⟩ = some (.slice K x.ks.length k))
      (first | exact KS.out _ (below_drew (Below.refl _ _)) | exact KS.out _ (below_drew ((Below.refl _ _).alloc (Nat.le_refl _) _)) | exact KS.out _ b4 | exact KS.out _ b5 | fail)
      (first
      | (go_at_call 57; (with_reducible refine HJ.out.mono ?_); rintro e w4 ⟨A4, c4, rfl, L4, cc4, m4, b4⟩)
      | (go_at_call 56; (with_reducible refine (HPU.out _ _ _ L4 cc4 m4).mono ?_); rintro e w5 ⟨A5, c5, rfl, L5, cc5, m5, b5'⟩; have b5 := b4.trans (b5'.mono b4.size))
      | fail)
    go_wp2_with fail
    go_ret2
    exact ⟨hb03.trans (b5.mono hb03.size), .inr ⟨trivial, A5, c5, by rw [← HSZ.out, List.length_append]; rfl, L5, by rw [← HSZ.out]; exact cc5, m5⟩⟩
  · have hE : codeE (chkC x) = codeV ((chkC x : Nat) : Int) := by unfold codeE; rw [if_neg hz]
    rw [hE] at hC ⊢
    have HZ := Lib.hid hz
    generalize chkC x = n at *
    clear hz hE h h0
    unfold codeV at hC ⊢
    go_enter Tryz.func16, Tryz.ntmps16
    go_wp2_with fail
    generalize w.alloc (.cells (ckCells x A c K k) 25) = w0 at *
    refine hC.mono ?_
    rintro e w1 ⟨rfl, b1⟩
    go_wp2_with fail
    go_ret2
    exact ⟨b0.trans (b1.mono b0.size), .inl ⟨HZ.out, rfl⟩⟩
end Go.Proofs.YthkbcpbgoefanaaGreatDoor


