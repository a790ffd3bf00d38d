/- Layer 12: copies (clones, Clone, Params), Same. They write nothing that was there. -/
/- Layer 12: Same. It writes nothing that was there. -/
import Derived.Test.YteknmgmdmjmnmaaGreatDoorUCA
import Derived.Test.YteknmgmdmjmnmaaGreatDoorUNF
import Derived.BigGuard
import Derived.Test.YteknmgmdmjmnmaaGreatDoorUA
import Derived.Laws.BytesArg




namespace Go.Proofs.YteknmgmdmjmnmaaGreatDoor
open Go.RowKit

/-- a chunk that lies in certain blocks -/
structure ChunkS (w : World) (S : Nat → Prop) (A : Option Addr) (c : Nat) (K : Option Addr) (k : Nat) (x : Ck) : Prop where
  data : LiesS w S A (x.d.map bv)
  dc : x.d.length ≤ c
  dm : c ≤ maxLen
  kids : NodesS w S K x.ks
  kc : x.ks.length ≤ k
  km : k ≤ maxLen
def CCloneOK (ns : List Nd) : Prop := ∀ (A : Option Addr) (c : Nat) (w : World), Nodes w w.heap.size A ns → ns.length ≤ 100000000 →
  Calls Tryz.prog 158 #[.slice A ns.length c] w fun e w' => ∃ A' c', e = .returned (.slice A' ns.length c') ∧ NodesS w' (NewS w w') A' ns ∧ ns.length ≤ c' ∧ c' ≤ maxLen ∧ Below w.heap.size w w'
set_option maxRecDepth 100000 in
set_option maxHeartbeats 1000000 in
theorem cclones_any (ns : List Nd) (hf : ∀ n ∈ ns, Few2 n) : CCloneOK ns := by
  intro A c w h hl
  have HF := Lib.hid hf
  clear hf
  go_enter Tryz.func158, Tryz.ntmps158
  go_wp2_with fail
  go_loopw [3, 8] (fun v i wr => ∃ (k : Nat), k ≤ ns.length ∧ i = .int .i64 k ∧ Hid (NRow wr w.heap.size v (ns.take k)) ∧ Below w.heap.size w wr) (fun _ i _ => ns.length - (intOf i).toNat)
  case atStart => exact ⟨0, Nat.zero_le _, rfl, ⟨[], World.ownsRow_nil _ _ _ _, _, _, Elems.nil _ _⟩, Below.refl _ _⟩
  case round =>
    obtain ⟨k, hk, rfl, hrow, hbel⟩ := hrel
    by_cases hlt : k < ns.length
    · obtain ⟨ad, A', c', K', k', n, rfl, hb, hn', hc0, hc1, hc2, hN⟩ := (h.bel hbel).at_ hlt
      obtain ⟨us, hown, Ks, cs, hE⟩ := hrow.out.own
      have hlen : (ns.take k).length = k := by rw [List.length_take]; omega
      rw [hlen] at hown
      have hmem := List.mem_of_getElem? hn'.out
      have b0 : Below wr.heap.size wr (wr.alloc (.cells #[hv n.t, .slice A' n.v.length c', .slice K' n.ks.length k'] 51)) := (Below.refl _ _).alloc (Nat.le_refl _) _
      have hS := nclone_any n (HF.out n hmem) A' c' K' k' _ ((hN.more hbel.size).on b0)
      unfold ndV at hS
      have HE := Lib.hid hE
      have HO := Lib.hid hown
      have HL := Lib.hid hlen
      clear hE hown hlen
      obtain ⟨A1, c1, rfl⟩ := own_slice3 HO.out
      go_wp2_with fail
      refine hS.mono ?_
      rintro e w2 ⟨A2, c2, K2, k2, rfl, hN2, b2⟩
      have b2' := b0.trans (b2.mono (by simp))
      have hal := (Below.refl w2.heap.size w2).alloc (Nat.le_refl _) (.cells #[hv n.t, .slice A2 n.v.length c2, .slice K2 n.ks.length k2] 51)
      have hown2 := (own_below3 HO.out b2').alloc (.cells #[hv n.t, .slice A2 n.v.length c2, .slice K2 n.ks.length k2] 51)
      have HO2 := Lib.hid hown2
      have hnew : ∀ j u, [hv n.t, Value.slice A2 n.v.length c2, .slice K2 n.ks.length k2][j]? = some u → (w2.alloc (.cells #[hv n.t, .slice A2 n.v.length c2, .slice K2 n.ks.length k2] 51)).cell? ((⟨w2.heap.size, 0, none⟩ : Addr).add j) = some u := fun j u hu => by
        rw [add_row, (Whole.new w2 51 #[hv n.t, .slice A2 n.v.length c2, .slice K2 n.ks.length k2]).cell]
        simpa using hu
      have HNW := Lib.hid hnew
      have hwsz := hbel.size
      have hwsz2 := b2'.size
      clear hown2 hnew
      go_wp2_with (at_builtin; refine wpList_append_told _ rfl (.tmp 12) (.tmp 15) 49 rfl w.heap.size 51 _ 3 56 Tryz.underlying49 ndinfo rfl (by omega) _ _ _ rfl HO2.out _ 1 1 (by omega) [hv n.t, .slice A2 n.v.length c2, .slice K2 n.ks.length k2] rfl rfl HNW.out (by intro u hu; simp at hu; rcases hu with rfl | rfl | rfl <;> rfl) (by unfold maxLen; omega) (by omega) (by simp; omega) ?_; intro v' w4 hown4 hgrow4 hblk4)
      have hR4 := NRow.grow (W := wr) (W2 := w2.alloc (.cells #[hv n.t, .slice A2 n.v.length c2, .slice K2 n.ks.length k2] 51)) (W3 := w4) (L := w.heap.size) (v := .slice A1 k c1) (v' := v') (ns := ns.take k) (us := us) (A := A2) (K := K2) (c := c2) (k := k2) (n := n) (by rw [HL.out]; exact HO.out) HE.out hwsz (b2'.trans (hal.mono hwsz2))
        (hN2.turn (fun p hp => World.cell?_alloc_lt w2 _ p hp.2) (fun b hb => ⟨by have := hb.1; simp at this; omega, by have := hb.2; simp; omega⟩)) hgrow4 (by rw [HL.out]; exact hown4)
        (by rcases hblk4 with h1 | h1; · exact .inl ⟨_, Nat.le_refl _, h1⟩
            · exact .inr h1)
      rw [← take_some hn'.out] at hR4
      have hb4 : Below w.heap.size w w4 := (hbel.trans ((b2'.trans (hal.mono hwsz2)).mono hwsz)).grown hgrow4 (by simp; omega) (fun q e => (HO.out.lt q e).1)
      exact ⟨⟨k + 1, by omega, rfl, hR4, hb4⟩, by simp [intOf]; omega⟩
    · obtain rfl : k = ns.length := by omega
      rw [List.take_length] at hrow
      obtain ⟨us, hown, Ks, cs, hE⟩ := hrow.out.own
      obtain ⟨A1, c1, rfl⟩ := own_slice3 hown
      have HR := Lib.hid (NRow.nodesS hrow.out)
      clear hown hE hrow
      go_wp2_with fail
      go_ret
      exact ⟨A1, c1, rfl, HR.out.1, HR.out.2.1, HR.out.2.2, hbel⟩
theorem ChunkS.chunk {w : World} {S : Nat → Prop} {A : Option Addr} {c : Nat} {K : Option Addr} {k : Nat} {x : Ck} {B : Nat} (h : ChunkS w S A c K k x) (hB : ∀ b, S b → b < B) : Chunk w B A c K k x :=
  ⟨fun hne => by obtain ⟨ad, h1, h2, h3⟩ := h.data hne; exact ⟨ad, h1, hB _ h2, h3⟩, h.dc, h.dm, h.kids.nodes hB, h.kc, h.km⟩
set_option maxRecDepth 100000 in
set_option maxHeartbeats 4000000 in
theorem cclone_any (x : Ck) (hd : x.d.length ≤ 1000000) (hk : x.ks.length ≤ 100000000) (hf : ∀ n ∈ x.ks, Few2 n) (A : Option Addr) (c : Nat) (K : Option Addr) (k : Nat) (w : World) (h : Chunk w w.heap.size A c K k x) :
    Calls Tryz.prog 122 #[ckV x A c K k] w fun e w' => ∃ A' c' K' k', e = .returned (ckV x A' c' K' k') ∧ ChunkS w' (NewS w w') A' c' K' k' x ∧ Below w.heap.size w w' := by
  have b0 : Below w.heap.size w ((w.alloc (.cells (ckCells x A c K k) 62)).alloc (.cells #[.int .u8 0, .int .u8 0, .slice none 0 0, .slice none 0 0] 62)) := ((Below.refl _ w).alloc (Nat.le_refl _) _).alloc (by simp) _
  have x0 : CkBox _ w.heap.size x A c K k := (CkBox.new w x A c K k).alloc (.cells #[.int .u8 0, .int .u8 0, .slice none 0 0, .slice none 0 0] 62)
  have y0 := Whole.new (w.alloc (.cells (ckCells x A c K k) 62)) 62 #[.int .u8 0, .int .u8 0, .slice none 0 0, .slice none 0 0]
  simp only [World.size_alloc] at y0
  have hz0 : ((w.alloc (.cells (ckCells x A c K k) 62)).alloc (.cells #[.int .u8 0, .int .u8 0, .slice none 0 0, .slice none 0 0] 62)).heap.size = w.heap.size + 1 + 1 := by simp
  have h0 := h.on b0
  go_enter Tryz.func122, Tryz.ntmps122
  go_wp2_with fail
  generalize (w.alloc (.cells (ckCells x A c K k) 62)).alloc (.cells #[.int .u8 0, .int .u8 0, .slice none 0 0, .slice none 0 0] 62) = w0 at *
  have HC1 := Lib.hid (bclone_any A c x.d w0.drew (h0.data.keep fun _ _ => rfl) h0.dc h0.dm (by omega))
  have HC2 := Lib.hid (fun (W : World) (hW : Below w0.heap.size w0 W) => cclones_any x.ks hf K k W (h0.kids.on hW) hk)
  have KS : Hid (∀ W, Below w0.heap.size w0 W → (W.cell? ⟨w.heap.size, 0, none⟩ = some (bv x.t) ∧ W.cell? ⟨w.heap.size, 1, none⟩ = some (bv x.fl) ∧ W.cell? ⟨w.heap.size, 2, none⟩ = some (.slice A x.d.length c) ∧ W.cell? ⟨w.heap.size, 3, none⟩ = some (.slice K x.ks.length k))) := fun W hW => (x0.below hW).cs
  have YS : Hid (∀ W, Below w0.heap.size w0 W → Whole W (w.heap.size + 1) 62 #[.int .u8 0, .int .u8 0, .slice none 0 0, .slice none 0 0]) := fun W hW => y0.below hW y0.lt
  go_region_held3 (fun W => W.cell? ⟨w.heap.size, 0, none⟩ = some (bv x.t) ∧ W.cell? ⟨w.heap.size, 1, none⟩ = some (bv x.fl) ∧ W.cell? ⟨w.heap.size, 2, none⟩ = some (.slice A x.d.length c) ∧ W.cell? ⟨w.heap.size, 3, none⟩ = some (.slice K x.ks.length k))
    (first | exact KS.out _ (below_drew (Below.refl _ _)) | exact KS.out _ b2 | exact KS.out _ b3 | go_keep)
    (first
    | (go_at_call 103; (with_reducible refine HC1.out.mono ?_); rintro e w2 ⟨A2, c2, rfl, l2, m2, m3, b2'⟩; have b2 : Below w0.heap.size w0 w2 := below_undrew b2')
    | (go_at_call 158; (with_reducible refine (HC2.out _ b2).mono ?_); rintro e w3 ⟨A3, c3, rfl, l3, m4, m5, b3'⟩; have b3 : Below w0.heap.size w0 w3 := b2.trans (b3'.mono b2.size); have k0 := (KS.out _ b3).1; have k1 := (KS.out _ b3).2.1; have k2 := (KS.out _ b3).2.2.1; have k3 := (KS.out _ b3).2.2.2; have hY1 := YS.out _ b3; have r0 : w3.cell? ⟨w.heap.size + 1, 0, none⟩ = some (.int .u8 0) := (by rw [hY1.cell]; rfl); have r1 : w3.cell? ⟨w.heap.size + 1, 1, none⟩ = some (.int .u8 0) := (by rw [hY1.cell]; rfl); have r2 : w3.cell? ⟨w.heap.size + 1, 2, none⟩ = some (.slice none 0 0) := (by rw [hY1.cell]; rfl); have r3 : w3.cell? ⟨w.heap.size + 1, 3, none⟩ = some (.slice none 0 0) := (by rw [hY1.cell]; rfl); have f0 := hY1.frozen 0; have f1 := hY1.frozen 1; have f2 := hY1.frozen 2; have f3 := hY1.frozen 3))
  have hF : Whole ((((w3.setCell ⟨w.heap.size + 1, 0, none⟩ (.int .u8 x.t.toNat)).setCell ⟨w.heap.size + 1, 1, none⟩ (.int .u8 x.fl.toNat)).setCell ⟨w.heap.size + 1, 2, none⟩ (.slice A2 x.d.length c2)).setCell ⟨w.heap.size + 1, 3, none⟩ (.slice A3 x.ks.length c3)) (w.heap.size + 1) 62 (ckCells x A2 c2 A3 c3) :=
    (((hY1.set_ 0 _).set_ 1 _).set_ 2 _).set_ 3 _
  have hfar : ∀ p : Addr, p.block ≠ w.heap.size + 1 → ((((w3.setCell ⟨w.heap.size + 1, 0, none⟩ (.int .u8 x.t.toNat)).setCell ⟨w.heap.size + 1, 1, none⟩ (.int .u8 x.fl.toNat)).setCell ⟨w.heap.size + 1, 2, none⟩ (.slice A2 x.d.length c2)).setCell ⟨w.heap.size + 1, 3, none⟩ (.slice A3 x.ks.length c3)).cell? p = w3.cell? p := fun p hp => by
    rw [World.cell?_setCell_other _ _ _ _ (fun e => hp (by rw [← e])), World.cell?_setCell_other _ _ _ _ (fun e => hp (by rw [← e])), World.cell?_setCell_other _ _ _ _ (fun e => hp (by rw [← e])), World.cell?_setCell_other _ _ _ _ (fun e => hp (by rw [← e]))]
  have b3w := b0.trans (b3.mono b0.size)
  have hBf : Below w.heap.size w ((((w3.setCell ⟨w.heap.size + 1, 0, none⟩ (.int .u8 x.t.toNat)).setCell ⟨w.heap.size + 1, 1, none⟩ (.int .u8 x.fl.toNat)).setCell ⟨w.heap.size + 1, 2, none⟩ (.slice A2 x.d.length c2)).setCell ⟨w.heap.size + 1, 3, none⟩ (.slice A3 x.ks.length c3)) :=
    (((b3w.setCell (by simp) _).setCell (by simp) _).setCell (by simp) _).setCell (by simp) _
  have hsz2 : w.heap.size + 1 + 1 ≤ w2.heap.size := by have := b2.size; omega
  have hsz3 : w2.heap.size ≤ w3.heap.size := b3'.size
  have hszf : ((((w3.setCell ⟨w.heap.size + 1, 0, none⟩ (.int .u8 x.t.toNat)).setCell ⟨w.heap.size + 1, 1, none⟩ (.int .u8 x.fl.toNat)).setCell ⟨w.heap.size + 1, 2, none⟩ (.slice A2 x.d.length c2)).setCell ⟨w.heap.size + 1, 3, none⟩ (.slice A3 x.ks.length c3)).heap.size = w3.heap.size := by simp [World.setCell]
  generalize ((((w3.setCell ⟨w.heap.size + 1, 0, none⟩ (.int .u8 x.t.toNat)).setCell ⟨w.heap.size + 1, 1, none⟩ (.int .u8 x.fl.toNat)).setCell ⟨w.heap.size + 1, 2, none⟩ (.slice A2 x.d.length c2)).setCell ⟨w.heap.size + 1, 3, none⟩ (.slice A3 x.ks.length c3)) = W at *
  go_wp2_with fail
  (try simp only [Exit.then])
  refine bodyPost_ret (results_row1 rfl _ _ (w.heap.size + 1) 62 _ _ rfl hF Tryz.underlying62 rfl (by kernel_rfl)) rfl ?_
  refine ⟨A2, c2, A3, c3, rfl, ⟨l2.turn (fun p hp => ?_) (fun b hb => ?_), m2, m3, l3.turn (fun p hp => ?_) (fun b hb => ?_), m4, m5⟩, hBf⟩
  · have h1 : w0.heap.size ≤ p.block := hp.1
    exact (hfar p (by omega)).trans (b3'.cell hp.2)
  · have h1 : w0.heap.size ≤ b := hb.1
    exact ⟨by omega, by have := hb.2; omega⟩
  · exact hfar p (by have := hp.1; omega)
  · exact ⟨by have := hb.1; omega, by have := hb.2; omega⟩
end Go.Proofs.YteknmgmdmjmnmaaGreatDoor






namespace Go.Proofs.YteknmgmdmjmnmaaGreatDoor
open Go.RowKit

def ckEq (a b : Ck) : Bool := decide (a.t = b.t) && (decide (a.fl = b.fl) && (decide (a.d = b.d) && beqL a.ks b.ks))
end Go.Proofs.YteknmgmdmjmnmaaGreatDoor


