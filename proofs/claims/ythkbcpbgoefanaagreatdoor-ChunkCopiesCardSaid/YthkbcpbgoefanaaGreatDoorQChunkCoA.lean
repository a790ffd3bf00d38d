/- Layer 12, for the law ChunkCopies: a chunk of the call's own, in memory that may be written. No condition of its own. -/
import Derived.Test.YthkbcpbgoefanaaGreatDoorQChunkFl
import Derived.Test.YthkbcpbgoefanaaGreatDoorQCI
import Derived.Test.YthkbcpbgoefanaaGreatDoorQCR
import Derived.Test.YthkbcpbgoefanaaGreatDoorQNodeWG
import Derived.Test.YthkbcpbgoefanaaGreatDoorQNodeWH
import Derived.Test.YthkbcpbgoefanaaGreatDoorQSplitR
namespace Go.Proofs.YthkbcpbgoefanaaGreatDoor
open Go.RowKit

/-- blocks of the call's own that may be written, but one -/
def SO (w3 W : World) (g : Nat) : Nat → Prop := fun b => w3.heap.size ≤ b ∧ b < W.heap.size ∧ b ≠ g ∧ LooseB W b
structure OwnCk (w3 W : World) (g : Nat) (a : Ck) (A : Option Addr) (c : Nat) (K : Option Addr) (k : Nat) : Prop where
  box : Whole W g 25 #[bv a.t, bv a.fl, .slice A a.d.length c, .slice K a.ks.length k]
  low : w3.heap.size ≤ g
  bel : Below w3.heap.size w3 W
  data : LiesS W (SO w3 W g) A (a.d.map bv)
  kids : NodesS W (SO w3 W g) K a.ks
  caps : (a.d.length ≤ c ∧ c ≤ maxLen) ∧ a.ks.length ≤ k ∧ k ≤ maxLen
theorem lies_ownN {w : World} {base e n c : Nat} {A : Option Addr} {xs : List Value} (h : w.ownsRow base e 1 (.slice A n c) n xs) {g : Nat} {t : TypeId} {cs : Array Value} (hz : Whole w g t cs) (ht : t ≠ e) : LiesS w (fun b => base ≤ b ∧ b < w.heap.size ∧ b ≠ g ∧ LooseB w b) A xs := fun hne => by
  have hbn := whole_row_ne hz ht h
  rcases h.2 with ⟨h1, h2⟩ | ⟨q, cap, cur, h1, h2, h3, _⟩
  · refine absurd (List.eq_nil_of_length_eq_zero ?_) hne
    rw [h.1, h2]
  · simp only [Value.slice.injEq] at h1
    obtain ⟨rfl, _, _⟩ := h1
    exact ⟨_, rfl, ⟨h2, (Array.getElem?_eq_some_iff.1 h3).1, fun e => hbn (by simp [Value.ownBlock]; exact e), cur, e, h3⟩, h.cells (g := q) rfl⟩
section
variable {w3 w5 w6 : World} {a : Ck} {A K : Option Addr} {c k gb : Nat}
theorem ownck_new (own5 : w5.ownsRow w3.heap.size 5 1 (.slice A a.d.length c) a.d.length (a.d.map bv)) (R5 : Below w3.heap.size w3 w5) (b6 : Below w5.heap.size w5 w6) (hN6 : NodesS w6 (NewL w5 w6) K a.ks) (h1 : a.ks.length ≤ k) (h2 : k ≤ maxLen) :
    OwnCk w3 (w6.alloc (.cells #[bv a.t, bv a.fl, .slice A a.d.length c, .slice K a.ks.length k] 25)) w6.heap.size a A c K k := by
  have b7 : Below w6.heap.size w6 (w6.alloc (.cells #[bv a.t, bv a.fl, .slice A a.d.length c, .slice K a.ks.length k] 25)) := (Below.refl _ _).alloc (Nat.le_refl _) _
  have R6 := R5.trans (b6.mono R5.size)
  have hc := own_cap own5
  have hs5 := R5.size
  have hs6 := b6.size
  have hs7 := b7.size
  refine ⟨Whole.new w6 _ _, R6.size, R6.trans (b7.mono R6.size), ?_, ?_, ⟨⟨hc.2.1, hc.2.2⟩, h1, h2⟩⟩
  · exact (lies_ownL own5).turn (fun p hp => (b7.cell (by omega)).trans (b6.cell hp.2.1)) fun b hb => ⟨hb.1, by omega, by omega, hb.2.2.same ((b7.block b (by omega)).trans (b6.block b hb.2.1))⟩
  · exact hN6.turn (fun p hp => b7.cell hp.2.1) fun b hb => ⟨by have := hb.1; omega, by have := hb.2.1; omega, by have := hb.2.1; omega, hb.2.2.same (b7.block b hb.2.1)⟩
theorem ownck_set (hd : LiesS w6 (fun b => w3.heap.size ≤ b ∧ b < w6.heap.size ∧ b ≠ gb ∧ LooseB w6 b) A (a.d.map bv)) (hk : NodesS w6 (fun b => w3.heap.size ≤ b ∧ b < w6.heap.size ∧ b ≠ gb ∧ LooseB w6 b) K a.ks) (hz : Whole w6 gb 25 #[.int .u8 0, .int .u8 0, .slice none 0 0, .slice none 0 0]) (R6 : Below w3.heap.size w3 w6) (hlow : w3.heap.size ≤ gb)
    (g1 : a.d.length ≤ c) (g2 : c ≤ maxLen) (h1 : a.ks.length ≤ k) (h2 : k ≤ maxLen) :
    OwnCk w3 ((((w6.setCell ⟨gb, 0, none⟩ (bv a.t)).setCell ⟨gb, 1, none⟩ (bv a.fl)).setCell ⟨gb, 2, none⟩ (.slice A a.d.length c)).setCell ⟨gb, 3, none⟩ (.slice K a.ks.length k)) gb a A c K k := by
  have hne : ∀ (i : Nat) (p : Addr), p.block ≠ gb → (⟨gb, i, none⟩ : Addr) ≠ p := fun i p hp e => hp (by rw [← e])
  have hcell : ∀ p : Addr, p.block ≠ gb → ((((w6.setCell ⟨gb, 0, none⟩ (bv a.t)).setCell ⟨gb, 1, none⟩ (bv a.fl)).setCell ⟨gb, 2, none⟩ (.slice A a.d.length c)).setCell ⟨gb, 3, none⟩ (.slice K a.ks.length k)).cell? p = w6.cell? p := fun p hp => by
    rw [World.cell?_setCell_other _ _ _ _ (hne _ p hp), World.cell?_setCell_other _ _ _ _ (hne _ p hp), World.cell?_setCell_other _ _ _ _ (hne _ p hp), World.cell?_setCell_other _ _ _ _ (hne _ p hp)]
  have hheap : ∀ b, b ≠ gb → ((((w6.setCell ⟨gb, 0, none⟩ (bv a.t)).setCell ⟨gb, 1, none⟩ (bv a.fl)).setCell ⟨gb, 2, none⟩ (.slice A a.d.length c)).setCell ⟨gb, 3, none⟩ (.slice K a.ks.length k)).heap[b]? = w6.heap[b]? := fun b hb => by
    rw [Below.heap_setCell _ ⟨gb, 3, none⟩ _ b hb, Below.heap_setCell _ ⟨gb, 2, none⟩ _ b hb, Below.heap_setCell _ ⟨gb, 1, none⟩ _ b hb, Below.heap_setCell _ ⟨gb, 0, none⟩ _ b hb]
  have hsz : ((((w6.setCell ⟨gb, 0, none⟩ (bv a.t)).setCell ⟨gb, 1, none⟩ (bv a.fl)).setCell ⟨gb, 2, none⟩ (.slice A a.d.length c)).setCell ⟨gb, 3, none⟩ (.slice K a.ks.length k)).heap.size = w6.heap.size := by simp [World.setCell]
  refine ⟨(((hz.set_ 0 _).set_ 1 _).set_ 2 _).set_ 3 _, hlow, (((R6.setCell hlow _).setCell hlow _).setCell hlow _).setCell hlow _, ?_, ?_, ⟨⟨g1, g2⟩, h1, h2⟩⟩
  · exact hd.turn (fun p hp => hcell p hp.2.2.1) fun b hb => ⟨hb.1, by rw [hsz]; exact hb.2.1, hb.2.2.1, hb.2.2.2.same (hheap b hb.2.2.1)⟩
  · exact hk.turn (fun p hp => hcell p hp.2.2.1) fun b hb => ⟨hb.1, by rw [hsz]; exact hb.2.1, hb.2.2.1, hb.2.2.2.same (hheap b hb.2.2.1)⟩
/-- the box was made between the bytes and the nodes -/
theorem ownck_mid (own5 : w5.ownsRow w3.heap.size 5 1 (.slice A a.d.length c) a.d.length (a.d.map bv)) (R5 : Below w3.heap.size w3 w5) {o : Obj} (b6 : Below (w5.alloc o).heap.size (w5.alloc o) w6) (hN6 : NodesS w6 (NewL (w5.alloc o) w6) K a.ks) (h1 : a.ks.length ≤ k) (h2 : k ≤ maxLen)
    (hz : Whole w6 w5.heap.size 25 #[.int .u8 0, .int .u8 0, .slice none 0 0, .slice none 0 0]) :
    OwnCk w3 ((((w6.setCell ⟨w5.heap.size, 0, none⟩ (bv a.t)).setCell ⟨w5.heap.size, 1, none⟩ (bv a.fl)).setCell ⟨w5.heap.size, 2, none⟩ (.slice A a.d.length c)).setCell ⟨w5.heap.size, 3, none⟩ (.slice K a.ks.length k)) w5.heap.size a A c K k := by
  have b55 : Below w5.heap.size w5 (w5.alloc o) := (Below.refl _ _).alloc (Nat.le_refl _) _
  have b56 := b55.trans (b6.mono b55.size)
  have hc := own_cap own5
  have hs5 := R5.size
  have hs6 := b56.size
  have hso : (w5.alloc o).heap.size = w5.heap.size + 1 := by simp
  refine ownck_set ?_ ?_ hz (R5.trans (b56.mono R5.size)) R5.size hc.2.1 hc.2.2 h1 h2
  · exact (lies_ownL own5).turn (fun p hp => b56.cell hp.2.1) fun b hb => ⟨hb.1, by omega, by omega, hb.2.2.same (b56.block b hb.2.1)⟩
  · exact hN6.turn (fun _ _ => rfl) fun b hb => ⟨by have := hb.1; omega, hb.2.1, by have := hb.1; omega, hb.2.2⟩
/-- the box was made ahead of both -/
theorem ownck_old (own5 : w5.ownsRow w3.heap.size 5 1 (.slice A a.d.length c) a.d.length (a.d.map bv)) (R5 : Below w3.heap.size w3 w5) (b6 : Below w5.heap.size w5 w6) (hN6 : NodesS w6 (NewL w5 w6) K a.ks) (h1 : a.ks.length ≤ k) (h2 : k ≤ maxLen)
    (hz5 : Whole w5 gb 25 #[.int .u8 0, .int .u8 0, .slice none 0 0, .slice none 0 0]) (hlow : w3.heap.size ≤ gb) :
    OwnCk w3 ((((w6.setCell ⟨gb, 0, none⟩ (bv a.t)).setCell ⟨gb, 1, none⟩ (bv a.fl)).setCell ⟨gb, 2, none⟩ (.slice A a.d.length c)).setCell ⟨gb, 3, none⟩ (.slice K a.ks.length k)) gb a A c K k := by
  have hc := own_cap own5
  have hs5 := R5.size
  have hs6 := b6.size
  have hlt := hz5.lt
  refine ownck_set ?_ ?_ (hz5.below b6 hlt) (R5.trans (b6.mono R5.size)) hlow hc.2.1 hc.2.2 h1 h2
  · exact (lies_ownN own5 hz5 (by decide)).turn (fun p hp => b6.cell hp.2.1) fun b hb => ⟨hb.1, by have := hb.2.1; omega, hb.2.2.1, hb.2.2.2.same (b6.block b hb.2.1)⟩
  · exact hN6.turn (fun _ _ => rfl) fun b hb => ⟨by have := hb.1; omega, hb.2.1, by have := hb.1; omega, hb.2.2⟩
end
/-- whether the class inside is that of parameters -/
theorem rcl_par (t : UInt8) : (rcl (kdOf t).ki == 1) = parB t := by
  unfold parB kin kc
  have h := kdOf_ki t
  generalize (kdOf t).ki = i at *
  have h7 : i = 0 ∨ i = 1 ∨ i = 2 ∨ i = 3 ∨ i = 4 ∨ i = 5 ∨ i = 6 := by omega
  rcases h7 with rfl | rfl | rfl | rfl | rfl | rfl | rfl <;> decide
end Go.Proofs.YthkbcpbgoefanaaGreatDoor

