/- Layer 8: what the statements check first (awake). It writes nothing that was there. -/
import Derived.Test.YtdnilbebdgohnaaGreatDoorNodePQ
import Derived.Test.YtdnilbebdgohnaaGreatDoorNodeHJ
import Derived.Test.YtdnilbebdgohnaaGreatDoorNodeAD
import Derived.Test.YtdnilbebdgohnaaGreatDoorNodeFG
import Derived.Deep.RegionHeld3





namespace Go.Proofs.YtdnilbebdgohnaaGreatDoor
open Go.RowKit

/-- a variable that holds a node -/
def NdBox (W : World) (g : Nat) (n : Nd) (A : Option Addr) (c : Nat) (K : Option Addr) (k : Nat) : Prop := Whole W g 34 #[hv n.t, .slice A n.v.length c, .slice K n.ks.length k]
section
variable {W W2 : World} {g : Nat} {n : Nd} {A K : Option Addr} {c k : Nat}
theorem NdBox.c0 (h : NdBox W g n A c K k) : W.cell? ⟨g, 0, none⟩ = some (hv n.t) := by rw [Whole.cell h]; rfl
theorem NdBox.c1 (h : NdBox W g n A c K k) : W.cell? ⟨g, 1, none⟩ = some (.slice A n.v.length c) := by rw [Whole.cell h]; rfl
theorem NdBox.c2 (h : NdBox W g n A c K k) : W.cell? ⟨g, 2, none⟩ = some (.slice K n.ks.length k) := by rw [Whole.cell h]; rfl
theorem NdBox.below (h : NdBox W g n A c K k) (hb : Below W.heap.size W W2) : NdBox W2 g n A c K k := Whole.below h hb (Whole.lt h)
end
/-- a node with one kid that lies in a block -/
theorem node_of {w : World} {B g : Nat} {t u : UInt16} (h : Whole w g 34 #[hv u, .slice none 0 0, .slice none 0 0]) (hB : g < B) : Node w B none 0 (some ⟨g, 0, none⟩) 1 (.mk t [] [.mk u [] []]) := by
  refine ⟨Lies.nil, Nat.le_refl _, by simp [maxLen], ?_, Nat.le_refl _, by simp [maxLen]⟩
  refine .mk [hv u, .slice none 0 0, .slice none 0 0] (fun _ => none) (fun _ => 0) (fun _ => ⟨_, rfl, hB, fun j x hx => ?_⟩) rfl (fun i m hm => ?_) (fun i m hm => ?_)
  · rw [add_row, h.cell]
    simpa using hx
  · match i, hm with
    | 0, hm => simp only [Nd.ks, List.getElem?_cons_zero, Option.some.injEq] at hm; subst hm; exact ⟨rfl, ⟨_, rfl, none, 0, rfl, Lies.nil, Nat.le_refl _, by simp [maxLen]⟩, rfl, Nat.le_refl _, by simp [maxLen]⟩
    | i + 1, hm => simp [Nd.ks] at hm
  · match i, hm with
    | 0, hm => simp only [Nd.ks, List.getElem?_cons_zero, Option.some.injEq] at hm; subst hm; exact Nodes.nil _ _ _
    | i + 1, hm => simp [Nd.ks] at hm
def ndA : Nd := .mk 8 [] [.mk 0x8000 [] []]
theorem fine_leaf (t : UInt16) : Fine (.mk t [] []) := .mk (by simp [Nd.vlen, lens, sizes]) (by simp [Nd.ks]) (by simp [Nd.ks])
theorem fineA : Fine ndA := .mk (by decide +kernel) (by simp [ndA, Nd.ks]) (by intro k hk; simp [ndA, Nd.ks] at hk; subst hk; exact fine_leaf _)
theorem jnA : jn (frs [ndA]) = [0, 8, 0, 8, 0x80, 0, 0, 4] := by decide +kernel
theorem chkA : chk 4 1 ndA = 0 := by decide +kernel
theorem chkLA : chkL 1 [ndA] = 0 := by decide +kernel
theorem chk5 : chk 4 1 (.mk 5 [] []) = 7 := by decide +kernel
theorem sizeA : sizes (lens [ndA]) = 8 := by decide +kernel
theorem badA : pa 4 1 [0, 8, 0, 4] = .bad 7 0 := by
  have h1 : jn [⟨8, []⟩] = [0, 8, 0, 4] := by decide +kernel
  have hf : ∀ f ∈ [(⟨8, []⟩ : Fr)], Fit f := by decide
  have hs := spl_jn _ hf
  rw [h1] at hs
  have h2 : (yla [0, 8, 0, 4] 0).map Prod.snd = [⟨8, []⟩] := by
    unfold spl at hs
    split at hs
    · simpa using hs
    · split at hs <;> cases hs
  have hr : rd 4 1 ⟨8, []⟩ = .bad 7 0 := by
    have h0 : ∀ c, pa 3 c [] = .ok [] := fun c => pa_good 3 c [] (by simp)
    have hfr : frontOf 1 8 0 = 0 := by decide +kernel
    have hi : insB (formOf 1 8).ki [] = false := by decide +kernel
    have hfit : fitK 1 8 0 = true := by decide +kernel
    have hcn : cntB 1 8 [] = true := by decide +kernel
    rw [rd_succ]
    unfold rdStep
    simp only [List.length_nil, hfr, hfit, List.take_nil, List.drop_nil, hcn, h0, hi]
    simp
  unfold pa pal
  rw [hs]
  match hl : yla [0, 8, 0, 4] 0, h2 with
  | [], h2 => simp at h2
  | [p], h2 =>
    obtain ⟨k, f⟩ := p
    simp only [List.map_cons, List.map_nil, List.cons.injEq, and_true] at h2
    subst h2
    have hk := yla_in (b := [0, 8, 0, 4]) (p := (k, ⟨8, []⟩)) (by rw [hl]; simp)
    simp [frL] at hk
    subst hk
    exact stepL_bad (pre := []) (ns := []) rfl hr
  | p :: q :: r, h2 => simp at h2
section
variable (w : World)
theorem aw_enc (g : Nat) (h : Whole w g 34 #[.int .u16 0x8000, .slice none 0 0, .slice none 0 0]) :
    Calls Tryz.prog 13 #[.int .i64 1, .slice (some ⟨w.heap.size, 0, none⟩) 1 1] (w.alloc (.cells #[.int .u16 8, .slice none 0 0, .slice (some ⟨g, 0, none⟩) 1 1] 34)) fun e w' => Below w.heap.size w w' ∧
      ∃ A' c', e = .returned (.tuple #[.slice A' 8 c', .nilIface]) ∧ w'.ownsRow (w.heap.size + 1) 5 1 (.slice A' 8 c') 8 ((jn (frs [ndA])).map bv) := by
  have hN : Node w w.heap.size none 0 (some ⟨g, 0, none⟩) 1 ndA := node_of (t := 8) (u := 0x8000) h h.lt
  have hb : Below w.heap.size w (w.alloc (.cells #[.int .u16 8, .slice none 0 0, .slice (some ⟨g, 0, none⟩) 1 1] 34)) := (Below.refl _ w).alloc (Nat.le_refl _) _
  have h1 := encode_any 1 (some ⟨w.heap.size, 0, none⟩) 1 [ndA] _ ((hN.list1 34).more (by simp)) (by simp) (by intro n hn; rw [List.mem_singleton.1 hn]; exact fineA)
  refine Calls.mono (R := EncR (w.alloc (.cells #[.int .u16 8, .slice none 0 0, .slice (some ⟨g, 0, none⟩) 1 1] 34)) 1 [ndA]) h1 ?_
  rintro e w1 ⟨b1, ⟨h2, _⟩ | ⟨_, A1, c1, rfl, own1⟩⟩
  · exact absurd chkLA h2
  · rw [show (jn (frs [ndA])).length = 8 by rw [jnA]; rfl] at own1 ⊢
    refine ⟨hb.trans (b1.mono hb.size), A1, c1, rfl, ?_⟩
    simpa using own1
theorem aw_parse (A : Option Addr) (c : Nat) (hh : Handle w) (h : Lies w w.heap.size A ((jn (frs [ndA])).map bv)) (hc : 8 ≤ c) (hm : c ≤ maxLen) :
    Calls Tryz.prog 14 #[.int .i64 1, .slice A 8 c] w fun e w' => Below w.heap.size w w' ∧ ∃ A' c', e = .returned (.tuple #[.slice A' 1 c', .nilIface]) ∧ NodesS w' (NewS w w') A' [ndA] ∧ 1 ≤ c' ∧ c' ≤ maxLen := by
  have hl : (jn (frs [ndA])).length = 8 := by rw [jnA]; rfl
  have h1 := nparse_any 1 (jn (frs [ndA])) A c w hh h (by rw [hl]; exact hc) hm (by rw [hl]; omega)
  rw [pa_good 4 1 [ndA] (by intro n hn; rw [List.mem_singleton.1 hn]; exact chkA), hl] at h1
  refine Calls.mono (R := ParseR w (.ok [ndA])) h1 ?_
  rintro e w1 ⟨b1, A1, c1, rfl, h2, h3, h4, _⟩
  exact ⟨b1, A1, c1, rfl, h2, h3, h4⟩
theorem aw_bad (hh : Handle w) : Calls Tryz.prog 14 #[.int .i64 1, .slice (some ⟨w.heap.size, 0, none⟩) 4 4] (w.alloc (.cells #[.int .u8 0, .int .u8 8, .int .u8 0, .int .u8 4] 5)) fun e w' =>
    e = .returned (.tuple #[.slice none 0 0, faultV 7 0]) ∧ Below w.heap.size w w' := by
  have hb : Below w.heap.size w (w.alloc (.cells ([(0 : UInt8), 8, 0, 4].map bv).toArray 5)) := (Below.refl _ w).alloc (Nat.le_refl _) _
  have h := nparse_any 1 [0, 8, 0, 4] (some ⟨w.heap.size, 0, none⟩) 4 _ (hh.below hb hh.lt) ((Lies.newN w ([0, 8, 0, 4].map bv) 5).more (B' := (w.alloc (.cells ([(0 : UInt8), 8, 0, 4].map bv).toArray 5)).heap.size) (by simp)) (by simp) (by simp [maxLen]) (by simp)
  rw [badA] at h
  refine Calls.mono (R := ParseR (w.alloc (.cells ([(0 : UInt8), 8, 0, 4].map bv).toArray 5)) (.bad 7 0)) h ?_
  rintro e w1 ⟨b1, rfl⟩
  exact ⟨rfl, hb.trans (b1.mono (by simp))⟩
theorem aw_same (A : Option Addr) (c : Nat) (h : Lies w w.heap.size A ((jn (frs [ndA])).map bv)) :
    Calls Tryz.prog 15 #[.slice A 8 c, .slice (some ⟨w.heap.size, 0, none⟩) 8 8] (w.alloc (.cells #[.int .u8 0, .int .u8 8, .int .u8 0, .int .u8 8, .int .u8 128, .int .u8 0, .int .u8 0, .int .u8 4] 5)) fun e w' =>
    e = .returned (.bool true) ∧ Below w.heap.size w w' := by
  rw [jnA] at h
  have hb : Below w.heap.size w (w.alloc (.cells ([(0 : UInt8), 8, 0, 8, 0x80, 0, 0, 4].map bv).toArray 5)) := (Below.refl _ w).alloc (Nat.le_refl _) _
  have h1 := same_any A (some ⟨w.heap.size, 0, none⟩) c 8 (w.heap.size + 1) [0, 8, 0, 8, 0x80, 0, 0, 4] [0, 8, 0, 8, 0x80, 0, 0, 4] _ ((h.below hb).more (by omega)) (Lies.newN w ([0, 8, 0, 8, 0x80, 0, 0, 4].map bv) 5) (by simp [maxLen])
  refine Calls.mono (R := fun e w' => e = .returned (.bool (decide ([(0 : UInt8), 8, 0, 8, 0x80, 0, 0, 4] = [0, 8, 0, 8, 0x80, 0, 0, 4]))) ∧ ∃ q, w' = (w.alloc (.cells ([(0 : UInt8), 8, 0, 8, 0x80, 0, 0, 4].map bv).toArray 5)).drewN q) h1 ?_
  rintro e w1 ⟨rfl, q, rfl⟩
  exact ⟨rfl, below_drewN hb q⟩
theorem aw_nsame (A : Option Addr) (c : Nat) (K : Option Addr) (k : Nat) (A' : Option Addr) (c' : Nat) (K' : Option Addr) (k' : Nat) (ha : Node w w.heap.size A c K k ndA) (hb : Node w w.heap.size A' c' K' k' ndA) :
    Calls Tryz.prog 12 #[.agg #[.int .u16 8, .slice A 0 c, .slice K 1 k], .agg #[.int .u16 8, .slice A' 0 c', .slice K' 1 k']] w fun e w' => e = .returned (.bool true) ∧ Below w.heap.size w w' := by
  have h := nsame_any ndA ndA (Fine.few1 _ fineA) A c K k A' c' K' k' w ha hb
  rwa [(Nd.beq_eq ndA ndA).2 rfl] at h
theorem aw_told (hh : Handle w) : Calls Tryz.prog 16 #[faultV 7 0, .int .i64 7, .int .i64 0] w fun e w' => e = .returned (.bool true) ∧ Below w.heap.size w w' :=
  told_same 7 0 (by omega) w hh
theorem aw_check (A : Option Addr) (c : Nat) (K : Option Addr) (k : Nat) (ha : Node w w.heap.size A c K k ndA) :
    Calls Tryz.prog 17 #[.int .i64 1, .agg #[.int .u16 8, .slice A 0 c, .slice K 1 k]] w fun e w' => e = .returned .nilIface ∧ Below w.heap.size w w' := by
  have h := ncheck_any 1 ndA A c K k w ha fineA
  rw [chkA] at h
  exact h
theorem aw_check5 : Calls Tryz.prog 17 #[.int .i64 1, .agg #[.int .u16 5, .slice none 0 0, .slice none 0 0]] w fun e w' => e = .returned (codeV 7) ∧ Below w.heap.size w w' := by
  have h := ncheck_any 1 (.mk 5 [] []) none 0 none 0 w ⟨Lies.nil, Nat.le_refl _, by simp [maxLen], Nodes.nil _ _ _, Nat.le_refl _, by simp [maxLen]⟩ (fine_leaf _)
  rw [chk5] at h
  exact h
theorem aw_coded : Calls Tryz.prog 18 #[codeV 7, .int .i64 7] w fun e w' => e = .returned (.bool true) ∧ w = w' := coded_same 7 (by omega) w
theorem aw_size (K : Option Addr) (k : Nat) (ha : Node w w.heap.size none 0 K k ndA) :
    Calls Tryz.prog 19 #[.slice (some ⟨w.heap.size, 0, none⟩) 1 1] (w.alloc (.cells #[.int .u16 8, .slice none 0 0, .slice K 1 k] 34)) fun e w' => e = .returned (.int .i64 8) ∧ Below w.heap.size w w' := by
  have hb : Below w.heap.size w (w.alloc (.cells #[.int .u16 8, .slice none 0 0, .slice K 1 k] 34)) := (Below.refl _ w).alloc (Nat.le_refl _) _
  have h := nsize_any [ndA] (some ⟨w.heap.size, 0, none⟩) 1 (w.alloc (.cells #[.int .u16 8, .slice none 0 0, .slice K 1 k] 34)) ((ha.list1 34).more (by simp)) (by simp) (by intro n hn; rw [List.mem_singleton.1 hn]; exact fineA)
  rw [sizeA] at h
  refine h.mono ?_
  rintro e w1 ⟨rfl, b1⟩
  exact ⟨rfl, hb.trans (b1.mono (by simp))⟩
theorem aw_clone (K : Option Addr) (k : Nat) (ha : Node w w.heap.size none 0 K k ndA) :
    Calls Tryz.prog 10 #[.agg #[.int .u16 8, .slice none 0 0, .slice K 1 k]] w fun e w' => ∃ A' c' K' k', e = .returned (.agg #[.int .u16 8, .slice A' 0 c', .slice K' 1 k']) ∧ Node w' w'.heap.size A' c' K' k' ndA ∧ Below w.heap.size w w' := by
  refine (nclone_any ndA (Fine.few2 _ fineA) none 0 K k w ha).mono ?_
  rintro e w1 ⟨A1, c1, K1, k1, rfl, h1, b1⟩
  exact ⟨A1, c1, K1, k1, rfl, h1.node fun b hb => hb.2, b1⟩
theorem aw_walk (K : Option Addr) (k : Nat) (ha : Node w w.heap.size none 0 K k ndA) :
    Calls Tryz.prog 7 #[.slice (some ⟨w.heap.size, 0, none⟩) 1 1] (w.alloc (.cells #[.int .u16 8, .slice none 0 0, .slice K 1 k] 34)) fun e w' => (∃ g, e = .returned (.func (.func 22) #[] #[.pointer (some ⟨g, 0, none⟩)])) ∧ Below w.heap.size w w' := by
  have hb : Below w.heap.size w (w.alloc (.cells #[.int .u16 8, .slice none 0 0, .slice K 1 k] 34)) := (Below.refl _ w).alloc (Nat.le_refl _) _
  refine (walk_any (some ⟨w.heap.size, 0, none⟩) 1 [ndA] (w.alloc (.cells #[.int .u16 8, .slice none 0 0, .slice K 1 k] 34)) ((ha.list1 34).more (by simp)) (by simp) (by intro n hn; rw [List.mem_singleton.1 hn]; exact Fine.few2 _ fineA)).mono ?_
  rintro e w1 ⟨g, A1, c1, rfl, _, _, _, _, _, b1⟩
  exact ⟨⟨g, rfl⟩, hb.trans (b1.mono (by simp))⟩
end

attribute [local go_sem, local simp] neq_walk
set_option maxRecDepth 100000 in
set_option maxHeartbeats 4000000 in
theorem awake_any (w : World) (hh : Handle w) : Calls Tryz.prog 4 #[] w fun e w' => e = .returned (.bool true) ∧ Below w.heap.size w w' := by
  go_enter Tryz.func4, Tryz.ntmps4
  have bA : Below w.heap.size w ((w.alloc (.cells #[.int .u16 32768, .slice none 0 0, .slice none 0 0] 34)).alloc (.cells #[.int .u16 8, .slice none 0 0, .slice (some ⟨w.heap.size, 0, none⟩) 1 1] 34)) := ((Below.refl _ w).alloc (Nat.le_refl _) _).alloc (by simp) _
  have kd := (Whole.new w 34 #[.int .u16 32768, .slice none 0 0, .slice none 0 0]).alloc (.cells #[.int .u16 8, .slice none 0 0, .slice (some ⟨w.heap.size, 0, none⟩) 1 1] 34)
  have bx : NdBox ((w.alloc (.cells #[.int .u16 32768, .slice none 0 0, .slice none 0 0] 34)).alloc (.cells #[.int .u16 8, .slice none 0 0, .slice (some ⟨w.heap.size, 0, none⟩) 1 1] 34)) (w.heap.size + 1) ndA none 0 (some ⟨w.heap.size, 0, none⟩) 1 := by
    have := Whole.new (w.alloc (.cells #[.int .u16 32768, .slice none 0 0, .slice none 0 0] 34)) 34 #[.int .u16 8, .slice none 0 0, .slice (some ⟨w.heap.size, 0, none⟩) 1 1]
    rw [World.size_alloc] at this
    exact this
  have hE := aw_enc _ _ kd
  have hN0 := node_of (t := 8) (u := 0x8000) kd (Whole.lt kd)
  have hsz : ((w.alloc (.cells #[.int .u16 32768, .slice none 0 0, .slice none 0 0] 34)).alloc (.cells #[.int .u16 8, .slice none 0 0, .slice (some ⟨w.heap.size, 0, none⟩) 1 1] 34)).heap.size = w.heap.size + 1 + 1 := by simp
  rw [hsz] at hE
  go_wp2_with fail
  refine hE.mono ?_
  rintro e w1 ⟨b1, A1, c1, rfl, own1⟩
  clear hE
  rw [← hsz] at b1
  have cap1 := own_cap own1
  have k1 : 8 ≤ c1 := cap1.2.1
  have k2 := cap1.2.2
  have L1 := Lies.own own1
  have hB1 := bA.trans (b1.mono bA.size)
  have bx1 := bx.below b1
  have hN1 := hN0.on b1
  clear own1 cap1 kd bx hN0 b1 hsz bA
  go_wp2_with fail
  refine (aw_parse w1 A1 c1 (hh.below hB1 hh.lt) L1 k1 k2).mono ?_
  rintro e w2 ⟨b2, A2, c2, rfl, hP2, m1, m2⟩
  have hB2 := hB1.trans (b2.mono hB1.size)
  have hP := hP2.nodes (B := w2.heap.size) fun b hb => hb.2
  obtain ⟨ad, A3, c3, K3, q3, rfl, hadB, hN3, e0, e1, e2⟩ : ∃ ad A3 c3 K3 q3, A2 = some ad ∧ ad.block < w2.heap.size ∧ Node w2 w2.heap.size A3 c3 K3 q3 ndA ∧ w2.cell? ad = some (.int .u16 8) ∧ w2.cell? ⟨ad.block, ad.off + 1, none⟩ = some (.slice A3 0 c3) ∧ w2.cell? ⟨ad.block, ad.off + 2, none⟩ = some (.slice K3 1 q3) := by
    obtain ⟨ad, A3, c3, K3, q3, n, h1, h2, h3, h4, h5, h6, h7⟩ := hP.at_ (k := 0) (by simp)
    have h3 := h3.out
    simp only [List.getElem?_cons_zero, Option.some.injEq] at h3
    subst h3
    exact ⟨ad, A3, c3, K3, q3, h1, h2, h7, h4, h5, h6⟩
  have bx2 := bx1.below b2
  have hN2 := hN1.on b2
  have L2 := (L1.below b2).more b2.size
  clear hP2 hP L1 bx1 hN1
  go_wp2_with fail
  refine (aw_bad w2 (hh.below hB2 hh.lt)).mono ?_
  rintro e w3 ⟨rfl, b3⟩
  have hB3 := hB2.trans (b3.mono hB2.size)
  have L3 := (L2.below b3).more b3.size
  have hs3 := b3.size
  have bx3 := bx2.below b3
  have hN4 := hN2.on b3
  have hE4 := hN3.on b3
  have hlt3 := Whole.lt bx3
  have had3 : ad.block < w3.heap.size := Nat.lt_of_lt_of_le hadB hs3
  have KS : Hid (∀ V, Below w3.heap.size w3 V → V.cell? ad = some (.int .u16 8) ∧ V.cell? ⟨ad.block, ad.off + 1, none⟩ = some (.slice A3 0 c3) ∧ V.cell? ⟨ad.block, ad.off + 2, none⟩ = some (.slice K3 1 q3) ∧
      V.cell? ⟨w.heap.size + 1, 0, none⟩ = some (.int .u16 8) ∧ V.cell? ⟨w.heap.size + 1, 1, none⟩ = some (.slice none 0 0) ∧ V.cell? ⟨w.heap.size + 1, 2, none⟩ = some (.slice (some ⟨w.heap.size, 0, none⟩) 1 1)) := fun V hV =>
    ⟨(hV.cell (p := ad) had3).trans ((b3.cell (p := ad) hadB).trans e0), (hV.cell (p := ⟨ad.block, ad.off + 1, none⟩) had3).trans ((b3.cell (p := ⟨ad.block, ad.off + 1, none⟩) hadB).trans e1),
      (hV.cell (p := ⟨ad.block, ad.off + 2, none⟩) had3).trans ((b3.cell (p := ⟨ad.block, ad.off + 2, none⟩) hadB).trans e2), (bx3.below hV).c0, (bx3.below hV).c1, (bx3.below hV).c2⟩
  have HS : Hid (Calls Tryz.prog 15 #[.slice A1 8 c1, .slice (some ⟨w3.heap.size, 0, none⟩) 8 8] (w3.alloc (.cells #[.int .u8 0, .int .u8 8, .int .u8 0, .int .u8 8, .int .u8 128, .int .u8 0, .int .u8 0, .int .u8 4] 5)).drew fun e w' =>
    e = .returned (.bool true) ∧ Below w3.heap.size w3.drew w') := aw_same w3.drew A1 c1 L3
  have HN := Lib.hid (fun (V : World) (hV : Below w3.heap.size w3 V) => aw_nsame V A3 c3 K3 q3 none 0 _ 1 (hE4.on hV) (hN4.on hV))
  have HT := Lib.hid (fun (V : World) (hV : Below w3.heap.size w3 V) => aw_told V ((hh.below hB3 hh.lt).below hV (hh.below hB3 hh.lt).lt))
  have HC := Lib.hid (fun (V : World) (hV : Below w3.heap.size w3 V) => aw_check V none 0 _ 1 (hN4.on hV))
  have HZ := Lib.hid (fun (V : World) (hV : Below w3.heap.size w3 V) => aw_size V _ 1 (hN4.on hV))
  have HL := Lib.hid (fun (V : World) (hV : Below w3.heap.size w3 V) => aw_clone V _ 1 (hN4.on hV))
  have HM := Lib.hid (fun (V : World) (hV : Below w3.heap.size w3 V) A c K k (hc : Node V V.heap.size A c K k ndA) => aw_nsame V A c K k none 0 _ 1 hc (hN4.on hV))
  have HK := Lib.hid (fun (V : World) (hV : Below w3.heap.size w3 V) => aw_walk V _ 1 (hN4.on hV))
  obtain ⟨s0, s1, s2, s3, s4, s5⟩ := KS.out w3 (Below.refl _ _)
  have x0 : ad.block ≠ w3.heap.size := by omega
  have x1 : w.heap.size + 1 ≠ w3.heap.size := by omega
  have hR3 := Below.refl w3.heap.size w3
  clear e0 e1 e2 bx2 hN2 hN3 L2 L3 hN4 hE4 b3 bx3
  go_wp2_with fail
  go_region_held3 (fun V => V.cell? ad = some (.int .u16 8) ∧ V.cell? ⟨ad.block, ad.off + 1, none⟩ = some (.slice A3 0 c3) ∧ V.cell? ⟨ad.block, ad.off + 2, none⟩ = some (.slice K3 1 q3) ∧
      V.cell? ⟨w.heap.size + 1, 0, none⟩ = some (.int .u16 8) ∧ V.cell? ⟨w.heap.size + 1, 1, none⟩ = some (.slice none 0 0) ∧ V.cell? ⟨w.heap.size + 1, 2, none⟩ = some (.slice (some ⟨w.heap.size, 0, none⟩) 1 1)) (first | exact hS4 | exact hS5 | exact hS6 | exact hS7 | exact hS8 | exact hS9 | exact hS10 | exact hS11 | exact hS12 | go_keep) (first
    | (go_at_call 15; with_reducible refine HS.out.mono ?_; rintro e w4 ⟨rfl, b4⟩; have hR4 : Below w3.heap.size w3 w4 := below_undrew b4; have hS4 := KS.out _ hR4)
    | (go_at_call 12; with_reducible refine (HN.out w4 hR4).mono ?_; rintro e w5 ⟨rfl, b5⟩; have hR5 := hR4.trans (b5.mono hR4.size); have hS5 := KS.out _ hR5)
    | (go_at_call 16; with_reducible refine (HT.out w5 hR5).mono ?_; rintro e w6 ⟨rfl, b6⟩; have hR6 := hR5.trans (b6.mono hR5.size); have hS6 := KS.out _ hR6)
    | (go_at_call 17; with_reducible refine (HC.out w6 hR6).mono ?_; rintro e w7 ⟨rfl, b7⟩; have hR7 := hR6.trans (b7.mono hR6.size); have hS7 := KS.out _ hR7)
    | (go_at_call 17; with_reducible refine (aw_check5 w7).mono ?_; rintro e w8 ⟨rfl, b8⟩; have hR8 := hR7.trans (b8.mono hR7.size); have hS8 := KS.out _ hR8)
    | (go_at_call 18; with_reducible refine (aw_coded w8).mono ?_; rintro e w8' ⟨rfl, rfl⟩; have x2 : ad.block ≠ w8.heap.size := (by have := hR8.size; omega); have x3 : w.heap.size + 1 ≠ w8.heap.size := (by have := hR8.size; omega))
    | (go_at_call 19; with_reducible refine (HZ.out w8 hR8).mono ?_; rintro e w9 ⟨rfl, b9⟩; have hR9 := hR8.trans (b9.mono hR8.size); have hS9 := KS.out _ hR9)
    | (go_at_call 10; with_reducible refine (HL.out w9 hR9).mono ?_; rintro e w10 ⟨Ac, cc, Kc, kc, rfl, hNc, b10⟩; have hR10 := hR9.trans (b10.mono hR9.size); have hS10 := KS.out _ hR10)
    | (go_at_call 12; with_reducible refine (HM.out w10 hR10 Ac cc Kc kc hNc).mono ?_; rintro e w11 ⟨rfl, b11⟩; have hR11 := hR10.trans (b11.mono hR10.size); have hS11 := KS.out _ hR11; have x4 : ad.block ≠ w11.heap.size := (by have := hR11.size; omega); have x5 : w.heap.size + 1 ≠ w11.heap.size := (by have := hR11.size; omega))
    | (go_at_call 7; with_reducible refine (HK.out w11 hR11).mono ?_; rintro e w12 ⟨⟨g, rfl⟩, b12⟩; have hR12 := hR11.trans (b12.mono hR11.size); have hS12 := KS.out _ hR12; have hq := neq_walk g w12))
  go_wp2_with fail
  go_ret
  exact ⟨rfl, hB3.trans (hR12.mono hB3.size)⟩
end Go.Proofs.YtdnilbebdgohnaaGreatDoor

