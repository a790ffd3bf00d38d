/- Layer 12: the reference's Same. It writes nothing that was there. -/
import Derived.Test.YteknmgmdmjmnmaaGreatDoorUCI
import Derived.Test.YteknmgmdmjmnmaaGreatDoorUNF
import Derived.Test.YteknmgmdmjmnmaaGreatDoorUA
import Derived.BigGuard




namespace Go.Proofs.YteknmgmdmjmnmaaGreatDoor
open Go.RowKit

set_option maxRecDepth 100000 in
set_option maxHeartbeats 4000000 in
theorem rcsame12 (a b : Ck) (hda : a.d.length ≤ maxLen) (hka : a.ks.length ≤ 9223372036854775807) (hkb : b.ks.length ≤ 9223372036854775807) (A : Option Addr) (c : Nat) (K : Option Addr) (k : Nat) (A' : Option Addr) (c' : Nat) (K' : Option Addr) (k' : Nat) (w : World) (ha : Chunk w w.heap.size A c K k a) (hb : Chunk w w.heap.size A' c' K' k' b) :
    Calls Tryz.prog 39 #[ckV a A c K k, ckV b A' c' K' k'] w fun e w' => e = .returned (.bool (ckEq a b)) ∧ Below w.heap.size w w' := by
  have b0 : Below w.heap.size w ((w.alloc (.cells (ckCells a A c K k) 62)).alloc (.cells (ckCells b A' c' K' k') 62)) := ((Below.refl _ w).alloc (Nat.le_refl _) _).alloc (by simp) _
  have x0 : CkBox _ w.heap.size a A c K k := (CkBox.new w a A c K k).alloc (.cells (ckCells b A' c' K' k') 62)
  have y0 := CkBox.new (w.alloc (.cells (ckCells a A c K k) 62)) b A' c' K' k'
  simp only [World.size_alloc] at y0
  have HA := Lib.hid (ha.on b0)
  have HB := Lib.hid (hb.on b0)
  have HEQ := Lib.hid ((same_any A A' c c' _ a.d b.d _ (ha.on b0).data (hb.on b0).data hda).mono fun e w' (h : _ ∧ _) => And.intro h.1 (by obtain ⟨q, rfl⟩ := h.2; exact below_drewN (Below.refl _ _) q : Below ((w.alloc (.cells (ckCells a A c K k) 62)).alloc (.cells (ckCells b A' c' K' k') 62)).heap.size ((w.alloc (.cells (ckCells a A c K k) 62)).alloc (.cells (ckCells b A' c' K' k') 62)) w'))
  have HKS : Hid (∀ W, Below ((w.alloc (.cells (ckCells a A c K k) 62)).alloc (.cells (ckCells b A' c' K' k') 62)).heap.size ((w.alloc (.cells (ckCells a A c K k) 62)).alloc (.cells (ckCells b A' c' K' k') 62)) W → Calls Tryz.prog 70 #[.slice K a.ks.length k, .slice K' b.ks.length k'] W fun e w' => e = .returned (.bool (beqL a.ks b.ks)) ∧ Below W.heap.size W w') := fun W hW => rsame_any a.ks b.ks K K' k k' W ((ha.on b0).kids.on hW) ((hb.on b0).kids.on hW) hka hkb
  have HR0 : Hid (ckEq a b = (decide (a.t = b.t) && (decide (a.fl = b.fl) && (decide (a.d = b.d) && beqL a.ks b.ks)))) := rfl
  generalize hres : ckEq a b = res at *
  clear hres
  obtain ⟨p0, p1, p2, p3⟩ := x0.cs
  obtain ⟨q0, q1, q2, q3⟩ := y0.cs
  by_cases h1 : a.t = b.t
  · have e1 : ((a.t.toNat : Int) == (b.t.toNat : Int)) = true := by rw [h1]; simp
    by_cases h2 : a.fl = b.fl
    · have e2 : ((a.fl.toNat : Int) == (b.fl.toNat : Int)) = true := by rw [h2]; simp
      by_cases h3 : a.d = b.d
      · have HR := Lib.hid (show res = beqL a.ks b.ks by rw [HR0.out, decide_eq_true h1, decide_eq_true h2, decide_eq_true h3]; rfl)
        rw [decide_eq_true h3] at HEQ
        generalize beqL a.ks b.ks = kb at *
        clear HR0 h1 h2 h3
        go_enter Tryz.func39, Tryz.ntmps39
        go_wp2_with fail
        refine HEQ.out.mono ?_
        rintro e w1 ⟨rfl, b1⟩
        obtain ⟨p0, p1, p2, p3⟩ := (x0.below b1).cs
        obtain ⟨q0, q1, q2, q3⟩ := (y0.below b1).cs
        go_wp2_with fail
        refine (HKS.out _ b1).mono ?_
        rintro e w2 ⟨rfl, b2⟩
        go_wp2_with fail
        go_ret
        exact ⟨by first | rfl | (rw [HR.out]; rfl), (b0.trans (b1.mono b0.size)).trans (b2.mono (b0.trans (b1.mono b0.size)).size)⟩
      · have HR := Lib.hid (show res = false by rw [HR0.out, decide_eq_true h1, decide_eq_true h2, decide_eq_false h3]; rfl)
        rw [decide_eq_false h3] at HEQ
        clear HR0 h1 h2 h3
        go_enter Tryz.func39, Tryz.ntmps39
        go_wp2_with fail
        refine HEQ.out.mono ?_
        rintro e w1 ⟨rfl, b1⟩
        go_wp2_with fail
        go_ret
        exact ⟨by first | rfl | (rw [HR.out]; rfl), b0.trans (b1.mono b0.size)⟩
    · have HR := Lib.hid (show res = false by rw [HR0.out, decide_eq_true h1, decide_eq_false h2]; rfl)
      have e2 : ((a.fl.toNat : Int) == (b.fl.toNat : Int)) = false := by rw [beq_eq_false_iff_ne]; exact fun e => h2 (UInt8.toNat_inj.1 (by omega))
      clear HR0 h1 h2
      go_enter Tryz.func39, Tryz.ntmps39
      go_wp2_with fail
      go_ret
      exact ⟨by first | rfl | (rw [HR.out]; rfl), b0⟩
  · have HR := Lib.hid (show res = false by rw [HR0.out, decide_eq_false h1]; rfl)
    have e1 : ((a.t.toNat : Int) == (b.t.toNat : Int)) = false := by rw [beq_eq_false_iff_ne]; exact fun e => h1 (UInt8.toNat_inj.1 (by omega))
    clear HR0 h1
    go_enter Tryz.func39, Tryz.ntmps39
    go_wp2_with fail
    go_ret
    exact ⟨by first | rfl | (rw [HR.out]; rfl), b0⟩
end Go.Proofs.YteknmgmdmjmnmaaGreatDoor


