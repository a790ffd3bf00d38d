/- Layer 8: clones of whatever nodes (Clone, clones, the library's bytes.Clone): they lie in new memory alone. They write nothing that was there. -/
import Derived.Test.YtdnilbebdgohnaaNodeH
import Derived.Test.YtdnilbebdgohnaaNodeB
import Derived.Deep.RegionHeld3



namespace Go.Proofs.Ytdnilbebdgohnaa
open Go.RowKit

/-- new blocks alone -/
def NewS (w w' : World) : Nat → Prop := fun b => w.heap.size ≤ b ∧ b < w'.heap.size
set_option maxRecDepth 100000 in
theorem bclone_any (A : Option Addr) (c : Nat) (l : List UInt8) (w : World) (h : Lies w w.heap.size A (l.map bv)) (h1 : l.length ≤ c) (_h2 : c ≤ maxLen) (hn : l.length ≤ 140737488355328) :
    Calls Try.prog 55 #[.slice A l.length c] w fun e w' => ∃ A' c', e = .returned (.slice A' l.length c') ∧ LiesS w' (NewS w w') A' (l.map bv) ∧ l.length ≤ c' ∧ c' ≤ maxLen ∧ Below w.heap.size w w' := by
  rcases A with _ | ad
  · have hl : l = [] := by
      cases l with
      | nil => rfl
      | cons x l => obtain ⟨ad, h3, _⟩ := h (by simp); cases h3
    subst hl
    have hq : (binOp .eql 25 (.slice none 0 c) (.slice none 0 0)).run Try.prog w = .ok (.bool true) w := run_eql_nil_slice (P := Try.prog) w 25 5 none 0 c 0 0 Try.underlying25
    go_enter Try.func55, Try.ntmps55
    go_wp2_with fail
    go_ret
    exact ⟨none, 0, rfl, fun hne => absurd rfl hne, Nat.le_refl _, Nat.zero_le _, Below.refl _ _⟩
  · have h3 := one_bytes l
    have H1 := Lib.hid h3
    have hE := own_empty w w.heap.size (Nat.le_refl _)
    have hq : (binOp .eql 25 (.slice (some ad) l.length c) (.slice none 0 0)).run Try.prog w = .ok (.bool false) w := run_eql_nil_slice (P := Try.prog) w 25 5 (some ad) l.length c 0 0 Try.underlying25
    go_enter Try.func55, Try.ntmps55
    go_wp2_with (at_builtin; refine wpList_append_lies _ rfl (.tmp 5) (.tmp 6) 25 rfl w.heap.size 5 _ 1 Try.underlying25 u8info rfl _ _ _ rfl hE _ _ l.length c (l.map bv) rfl (by simp) ((h.alloc (Nat.le_refl _) _).more (B' := w.heap.size + 1) (by omega)) H1.out (by omega) (by unfold maxLen; omega) (by simp) ?_; intro A' c' w1 hown hgrow _)
    simp only [Nat.zero_add, List.nil_append] at hown
    have hcap := own_cap hown
    have hB := ((Below.refl _ w).alloc (Nat.le_refl _) (.cells #[] 5)).grown hgrow (by simp) (fun k e => by cases e; exact Nat.le_refl _)
    have HO := Lib.hid hown
    clear hown hgrow
    go_wp2_with fail
    go_ret
    refine ⟨A', c', rfl, fun hne => ?_, hcap.2.1, hcap.2.2, hB⟩
    rcases HO.out.2 with ⟨q1, q2⟩ | ⟨g, cap, cur, q1, q2, q3, _⟩
    · refine absurd (List.eq_nil_of_length_eq_zero ?_) hne
      rw [HO.out.1, q2]
    · simp only [Value.slice.injEq] at q1
      obtain ⟨rfl, _, _⟩ := q1
      exact ⟨_, rfl, ⟨q2, (Array.getElem?_eq_some_iff.1 q3).1⟩, HO.out.cells (g := g) rfl⟩

def CloneOK (ns : List Nd) : Prop := ∀ (A : Option Addr) (c : Nat) (w : World), Nodes w w.heap.size A ns → ns.length ≤ 100000000 →
  Calls Try.prog 56 #[.slice A ns.length c] w fun e w' => ∃ A' c', e = .returned (.slice A' ns.length c') ∧ NodesS w' (NewS w w') A' ns ∧ ns.length ≤ c' ∧ c' ≤ maxLen ∧ Below w.heap.size w w'
theorem results_row1 {P : Program} {fn : Func} {p : Tmp} {ty : TypeId} (h : fn.results = #[.cell p ty]) (tmps : Array Value) (w : World) (g : Nat) (t : TypeId) (cs : Array Value) (d : TypeDesc)
    (hp : tmps.getD p undef = .pointer (some ⟨g, 0, none⟩)) (hg : Whole w g t cs)
    (hu : P.underlying ty = some d) (hd : (match d with | .struct _ | .array _ _ => true | _ => false) = true) (hi : (P.info? ty).map (·.size) = some cs.size) :
    (results fn tmps).run P w = .ok (.agg cs) w := by
  have hp' : tmps[p]?.getD undef = .pointer (some ⟨g, 0, none⟩) := by simpa using hp
  simp only [results, h]
  simp [hp', asAddr, run_loadVar_row w g t ty cs (0, 0) d hg hu hd hi]
set_option maxRecDepth 100000 in
set_option maxHeartbeats 1000000 in
theorem clone_node (n : Nd) (ih : CloneOK n.ks) (A : Option Addr) (c : Nat) (K : Option Addr) (k : Nat) (w : World) (h : Node w w.heap.size A c K k n) (hl : n.ks.length ≤ 100000000) (hv' : n.v.length ≤ 140737488355328) :
    Calls Try.prog 46 #[ndV n A c K k] w fun e w' => ∃ A' c' K' k', e = .returned (ndV n A' c' K' k') ∧ NodeS w' (NewS w w') A' c' K' k' n ∧ Below w.heap.size w w' := by
  unfold ndV
  have hB := fun W (hW : Below w.heap.size w W) => bclone_any A c n.v W (h.on hW).data h.dc h.dm hv'
  have hC := fun W (hW : Below w.heap.size w W) => ih K k W (h.on hW).kids hl
  have b0 : Below w.heap.size w ((w.alloc (.cells #[hv n.t, .slice A n.v.length c, .slice K n.ks.length k] 28)).alloc (.cells #[.int .u16 0, .slice none 0 0, .slice none 0 0] 28)) := ((Below.refl _ _).alloc (Nat.le_refl _) _).alloc (by simp) _
  have hW0 := (Whole.new w 28 #[hv n.t, .slice A n.v.length c, .slice K n.ks.length k]).alloc (.cells #[.int .u16 0, .slice none 0 0, .slice none 0 0] 28)
  have hW1 := Whole.new (w.alloc (.cells #[hv n.t, .slice A n.v.length c, .slice K n.ks.length k] 28)) 28 #[.int .u16 0, .slice none 0 0, .slice none 0 0]
  simp only [World.size_alloc] at hW1
  go_enter Try.func46, Try.ntmps46
  go_wp2_with fail
  go_region_held3 (fun W => W.cell? ⟨w.heap.size, 0, none⟩ = some (hv n.t) ∧ W.cell? ⟨w.heap.size, 1, none⟩ = some (.slice A n.v.length c) ∧ W.cell? ⟨w.heap.size, 2, none⟩ = some (.slice K n.ks.length k)) (go_keep) (first
    | (go_at_call 55; refine (hB _ (by first | exact b0 | exact below_drew b0)).mono ?_; rintro e w2 ⟨A2, c2, rfl, l2, m2, m3, b2⟩; have b2' : Below w.heap.size w w2 := (by first | exact b0.trans (b2.mono (by simp <;> omega)) | exact (below_drew b0).trans (b2.mono (by simp <;> omega))); have hX0 : Whole w2 w.heap.size 28 #[hv n.t, .slice A n.v.length c, .slice K n.ks.length k] := (by first | exact hW0.below b2 (by simp <;> omega) | exact hW0.drew.below b2 (by simp <;> omega)); have hX1 : Whole w2 (w.heap.size + 1) 28 #[.int .u16 0, .slice none 0 0, .slice none 0 0] := (by first | exact hW1.below b2 (by simp) | exact hW1.drew.below b2 (by simp)); have g0 : w2.cell? ⟨w.heap.size, 0, none⟩ = some (hv n.t) := (by rw [hX0.cell]; rfl); have g1 : w2.cell? ⟨w.heap.size, 1, none⟩ = some (.slice A n.v.length c) := (by rw [hX0.cell]; rfl); have g2 : w2.cell? ⟨w.heap.size, 2, none⟩ = some (.slice K n.ks.length k) := (by rw [hX0.cell]; rfl); have hsz2 : w.heap.size + 1 + 1 ≤ w2.heap.size := (by have h9 := b2.size; simpa using h9))
    | (go_at_call 56; refine (hC _ b2').mono ?_; rintro e w3 ⟨A3, c3, rfl, l3, m4, m5, b3⟩; have b3' : Below w.heap.size w w3 := b2'.trans (b3.mono b2'.size); have hY0 := hX0.below b3 hX0.lt; have hY1 := hX1.below b3 hX1.lt; have k0 : w3.cell? ⟨w.heap.size, 0, none⟩ = some (hv n.t) := (by rw [hY0.cell]; rfl); have k1 : w3.cell? ⟨w.heap.size, 1, none⟩ = some (.slice A n.v.length c) := (by rw [hY0.cell]; rfl); have k2 : w3.cell? ⟨w.heap.size, 2, none⟩ = some (.slice K n.ks.length k) := (by rw [hY0.cell]; rfl); have r0 : w3.cell? ⟨w.heap.size + 1, 0, none⟩ = some (.int .u16 0) := (by rw [hY1.cell]; rfl); have r1 : w3.cell? ⟨w.heap.size + 1, 1, none⟩ = some (.slice none 0 0) := (by rw [hY1.cell]; rfl); have r2 : w3.cell? ⟨w.heap.size + 1, 2, none⟩ = some (.slice none 0 0) := (by rw [hY1.cell]; rfl); have f0 := hY1.frozen 0; have f1 := hY1.frozen 1; have f2 := hY1.frozen 2))
  have hF : Whole (((w3.setCell ⟨w.heap.size + 1, 0, none⟩ (.int .u16 n.t.toNat)).setCell ⟨w.heap.size + 1, 1, none⟩ (.slice A2 n.v.length c2)).setCell ⟨w.heap.size + 1, 2, none⟩ (.slice A3 n.ks.length c3)) (w.heap.size + 1) 28 #[hv n.t, .slice A2 n.v.length c2, .slice A3 n.ks.length c3] :=
    ((hY1.set_ 0 _).set_ 1 _).set_ 2 _
  have hfar : ∀ p : Addr, p.block ≠ w.heap.size + 1 → (((w3.setCell ⟨w.heap.size + 1, 0, none⟩ (.int .u16 n.t.toNat)).setCell ⟨w.heap.size + 1, 1, none⟩ (.slice A2 n.v.length c2)).setCell ⟨w.heap.size + 1, 2, none⟩ (.slice A3 n.ks.length c3)).cell? p = w3.cell? p := fun p hp => by
    rw [World.cell?_setCell_other _ _ _ _ (fun e => hp (by rw [← e])), World.cell?_setCell_other _ _ _ _ (fun e => hp (by rw [← e])), World.cell?_setCell_other _ _ _ _ (fun e => hp (by rw [← e]))]
  have hBf : Below w.heap.size w (((w3.setCell ⟨w.heap.size + 1, 0, none⟩ (.int .u16 n.t.toNat)).setCell ⟨w.heap.size + 1, 1, none⟩ (.slice A2 n.v.length c2)).setCell ⟨w.heap.size + 1, 2, none⟩ (.slice A3 n.ks.length c3)) :=
    ((b3'.setCell (by simp) _).setCell (by simp) _).setCell (by simp) _
  have hsz3 : w2.heap.size ≤ w3.heap.size := b3.size
  have hszf : (((w3.setCell ⟨w.heap.size + 1, 0, none⟩ (.int .u16 n.t.toNat)).setCell ⟨w.heap.size + 1, 1, none⟩ (.slice A2 n.v.length c2)).setCell ⟨w.heap.size + 1, 2, none⟩ (.slice A3 n.ks.length c3)).heap.size = w3.heap.size := by simp [World.setCell]
  generalize ((w3.setCell ⟨w.heap.size + 1, 0, none⟩ (.int .u16 n.t.toNat)).setCell ⟨w.heap.size + 1, 1, none⟩ (.slice A2 n.v.length c2)).setCell ⟨w.heap.size + 1, 2, none⟩ (.slice A3 n.ks.length c3) = W at *
  go_wp2_with fail
  (try simp only [Exit.then])
  refine bodyPost_ret (results_row1 rfl _ _ (w.heap.size + 1) 28 _ _ rfl hF Try.underlying28 rfl (by kernel_rfl)) rfl ?_
  refine ⟨A2, c2, A3, c3, rfl, ⟨l2.turn (fun p hp => ?_) (fun b hb => ?_), m2, m3, l3.turn (fun p hp => ?_) (fun b hb => ?_), m4, m5⟩, hBf⟩
  · have h1 := hp.1
    simp at h1
    exact (hfar p (by omega)).trans (b3.cell hp.2)
  · have h1 := hb.1
    simp at h1
    exact ⟨by omega, by have := hb.2; omega⟩
  · exact hfar p (by have := hp.1; omega)
  · exact ⟨by have := hb.1; omega, by have := hb.2; omega⟩
set_option maxRecDepth 100000 in
set_option maxHeartbeats 1000000 in
theorem clones_step (ns : List Nd) (ih : ∀ n ∈ ns, CloneOK n.ks) (hf : ∀ n ∈ ns, n.ks.length ≤ 100000000 ∧ n.v.length ≤ 140737488355328) : CloneOK ns := by
  intro A c w h hl
  have HI := Lib.hid ih
  have HF := Lib.hid hf
  clear ih hf
  go_enter Try.func56, Try.ntmps56
  go_wp2_with fail
  go_loopw [3, 8] (fun v i wr => ∃ (k : Nat), k ≤ ns.length ∧ i = .int .i64 k ∧ Hid (NRow wr w.heap.size v (ns.take k)) ∧ Below w.heap.size w wr) (fun _ i _ => ns.length - (intOf i).toNat)
  case atStart => exact ⟨0, Nat.zero_le _, rfl, ⟨[], World.ownsRow_nil _ _ _ _, _, _, Elems.nil _ _⟩, Below.refl _ _⟩
  case round =>
    obtain ⟨k, hk, rfl, hrow, hbel⟩ := hrel
    by_cases hlt : k < ns.length
    · obtain ⟨ad, A', c', K', k', n, rfl, hb, hn', hc0, hc1, hc2, hN⟩ := (h.bel hbel).at_ hlt
      obtain ⟨us, hown, Ks, cs, hE⟩ := hrow.out.own
      have hlen : (ns.take k).length = k := by rw [List.length_take]; omega
      rw [hlen] at hown
      have hmem := List.mem_of_getElem? hn'.out
      have b0 : Below wr.heap.size wr (wr.alloc (.cells #[hv n.t, .slice A' n.v.length c', .slice K' n.ks.length k'] 28)) := (Below.refl _ _).alloc (Nat.le_refl _) _
      have hS := clone_node n (HI.out n hmem) A' c' K' k' _ ((hN.more hbel.size).on b0) (HF.out n hmem).1 (HF.out n hmem).2
      unfold ndV at hS
      have HE := Lib.hid hE
      have HO := Lib.hid hown
      have HL := Lib.hid hlen
      clear hE hown hlen
      obtain ⟨A1, c1, rfl⟩ := own_slice3 HO.out
      go_wp2_with fail
      refine hS.mono ?_
      rintro e w2 ⟨A2, c2, K2, k2, rfl, hN2, b2⟩
      have b2' := b0.trans (b2.mono (by simp))
      have hal := (Below.refl w2.heap.size w2).alloc (Nat.le_refl _) (.cells #[hv n.t, .slice A2 n.v.length c2, .slice K2 n.ks.length k2] 28)
      have hown2 := (own_below3 HO.out b2').alloc (.cells #[hv n.t, .slice A2 n.v.length c2, .slice K2 n.ks.length k2] 28)
      have HO2 := Lib.hid hown2
      have hnew : ∀ j u, [hv n.t, Value.slice A2 n.v.length c2, .slice K2 n.ks.length k2][j]? = some u → (w2.alloc (.cells #[hv n.t, .slice A2 n.v.length c2, .slice K2 n.ks.length k2] 28)).cell? ((⟨w2.heap.size, 0, none⟩ : Addr).add j) = some u := fun j u hu => by
        rw [add_row, (Whole.new w2 28 #[hv n.t, .slice A2 n.v.length c2, .slice K2 n.ks.length k2]).cell]
        simpa using hu
      have HNW := Lib.hid hnew
      have hwsz := hbel.size
      have hwsz2 := b2'.size
      clear hown2 hnew
      go_wp2_with (at_builtin; refine wpList_append_told _ rfl (.tmp 12) (.tmp 15) 26 rfl w.heap.size 28 _ 3 56 Try.underlying26 ndinfo rfl (by omega) _ _ _ rfl HO2.out _ 1 1 (by omega) [hv n.t, .slice A2 n.v.length c2, .slice K2 n.ks.length k2] rfl rfl HNW.out (by intro u hu; simp at hu; rcases hu with rfl | rfl | rfl <;> rfl) (by unfold maxLen; omega) (by omega) (by simp; omega) ?_; intro v' w4 hown4 hgrow4 hblk4)
      have hR4 := NRow.grow (W := wr) (W2 := w2.alloc (.cells #[hv n.t, .slice A2 n.v.length c2, .slice K2 n.ks.length k2] 28)) (W3 := w4) (L := w.heap.size) (v := .slice A1 k c1) (v' := v') (ns := ns.take k) (us := us) (A := A2) (K := K2) (c := c2) (k := k2) (n := n) (by rw [HL.out]; exact HO.out) HE.out hwsz (b2'.trans (hal.mono hwsz2))
        (hN2.turn (fun p hp => World.cell?_alloc_lt w2 _ p hp.2) (fun b hb => ⟨by have := hb.1; simp at this; omega, by have := hb.2; simp; omega⟩)) hgrow4 (by rw [HL.out]; exact hown4)
        (by rcases hblk4 with h1 | h1; · exact .inl ⟨_, Nat.le_refl _, h1⟩
            · exact .inr h1)
      rw [← take_some hn'.out] at hR4
      have hb4 : Below w.heap.size w w4 := (hbel.trans ((b2'.trans (hal.mono hwsz2)).mono hwsz)).grown hgrow4 (by simp; omega) (fun q e => (HO.out.lt q e).1)
      exact ⟨⟨k + 1, by omega, rfl, hR4, hb4⟩, by simp [intOf]; omega⟩
    · obtain rfl : k = ns.length := by omega
      rw [List.take_length] at hrow
      obtain ⟨us, hown, Ks, cs, hE⟩ := hrow.out.own
      obtain ⟨A1, c1, rfl⟩ := own_slice3 hown
      have HR := Lib.hid (NRow.nodesS hrow.out)
      clear hown hE hrow
      go_wp2_with fail
      go_ret
      exact ⟨A1, c1, rfl, HR.out.1, HR.out.2.1, HR.out.2.2, hbel⟩
/-- at whatever depth: not so many inside, and not so many bytes -/
inductive Few2 : Nd → Prop
  | mk {n : Nd} : n.ks.length ≤ 100000000 → n.v.length ≤ 140737488355328 → (∀ k ∈ n.ks, Few2 k) → Few2 n
theorem Few2.kl {n : Nd} (h : Few2 n) : n.ks.length ≤ 100000000 ∧ n.v.length ≤ 140737488355328 := by cases h; constructor <;> assumption
theorem Few2.kid {n : Nd} (h : Few2 n) : ∀ k ∈ n.ks, Few2 k := by cases h; assumption
theorem Fine.few2 (n : Nd) : Fine n → Few2 n :=
  Nd.ind (P := fun n => Fine n → Few2 n) (fun t v ks ih h => .mk (by have := h.kl; omega) (by have := h.vl; rw [Nd.vlen_eq] at this; omega) fun k hk => ih k hk (h.kid k hk)) n
theorem clones_any (ns : List Nd) : (∀ n ∈ ns, Few2 n) → CloneOK ns :=
  Nds.ind (P := fun ns => (∀ n ∈ ns, Few2 n) → CloneOK ns) (fun ns ih h => clones_step ns (fun n hn => ih n hn (h n hn).kid) fun n hn => (h n hn).kl) ns
/-- Clone of whatever node -/
theorem nclone_any (n : Nd) (hf : Few2 n) (A : Option Addr) (c : Nat) (K : Option Addr) (k : Nat) (w : World) (h : Node w w.heap.size A c K k n) :
    Calls Try.prog 46 #[ndV n A c K k] w fun e w' => ∃ A' c' K' k', e = .returned (ndV n A' c' K' k') ∧ NodeS w' (NewS w w') A' c' K' k' n ∧ Below w.heap.size w w' :=
  clone_node n (clones_any n.ks hf.kid) A c K k w h hf.kl.1 hf.kl.2

end Go.Proofs.Ytdnilbebdgohnaa

