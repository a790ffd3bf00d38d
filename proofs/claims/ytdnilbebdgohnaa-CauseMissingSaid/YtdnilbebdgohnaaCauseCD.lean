/- CauseC + CauseD -/
import Derived.Test.YtdnilbebdgohnaaCauseAB
import Derived.Laws.IdiomStrings
import Derived.Deep.Cut


namespace Go.Proofs.Ytdnilbebdgohnaa
open Go.RowKit

/-- the check of a node with nothing inside -/
theorem right1_leaf (L : List UInt16) (AL : Option Addr) (cL g : Nat) (t : UInt16) (d : List UInt8) (m : Nat) (hm : d.length = m) (A : Option Addr) (c : Nat) (w : World) (hg : Whole w g 37 #[.slice AL L.length cL]) (hL : Lies w w.heap.size AL (L.map hv)) (hLn : L.length ≤ 1000)
    (hd : Lies w w.heap.size A (d.map bv)) (hc : m ≤ c) (hcm : c ≤ maxLen) (hf : m ≤ 800000) :
    Calls Try.prog 43 #[.agg #[hv t, .slice A m c, .slice none 0 0], .pointer (some ⟨g, 0, none⟩)] w (RetN w (rightO L (.mk t d []))) := by
  subst hm
  exact right1_any L AL cL g (.mk t d []) A c none 0 w hg hL hLn ⟨hd, hc, hcm, Nodes.nil _ _ _, Nat.le_refl _, Nat.zero_le _⟩ (.mk (by rw [vlen_leaf]; exact hf) (Nat.zero_le _) (fun k hk => by cases hk))
theorem put1_uv (y : UInt32) (w : World) :
    Calls Try.prog 27 #[.int .i64 4, .slice (some ⟨w.heap.size, 0, none⟩) 1 1] (w.alloc (.cells #[uv y] 23)) fun e w' => ∃ A c, e = .returned (.slice A 4 c) ∧
      Lies w' w'.heap.size A ((be 4 y).map bv) ∧ 4 ≤ c ∧ c ≤ maxLen ∧ Below w.heap.size w w' := by
  have hal : Below w.heap.size w (w.alloc (.cells #[uv y] 23)) := (Below.refl _ w).alloc (Nat.le_refl _) _
  have hl := (Lies.new1 w (uv y) 23).more (B' := (w.alloc (.cells #[uv y] 23)).heap.size) (by simp)
  have h := put_any 4 (by omega) (some ⟨w.heap.size, 0, none⟩) 1 [y] (w.alloc (.cells #[uv y] 23)) hl (by simp)
  refine Calls.mono h ?_
  rintro e w1 ⟨A, c, rfl, hown, b1⟩
  have hcap := own_cap hown
  refine ⟨A, c, rfl, ?_, by have := hcap.2.1; simpa using this, hcap.2.2, hal.trans (b1.mono hal.size)⟩
  have := Lies.own hown
  simpa [puts] using this
theorem put1_any (x : Nat) (hx : x < 4294967296) (w : World) :
    Calls Try.prog 27 #[.int .i64 4, .slice (some ⟨w.heap.size, 0, none⟩) 1 1] (w.alloc (.cells #[.int .u32 (x : Int)] 23)) fun e w' => ∃ A c, e = .returned (.slice A 4 c) ∧
      Lies w' w'.heap.size A ((be 4 (UInt32.ofNat x)).map bv) ∧ 4 ≤ c ∧ c ≤ maxLen ∧ Below w.heap.size w w' := by
  have h := put1_uv (UInt32.ofNat x) w
  have e : uv (UInt32.ofNat x) = .int .u32 (x : Int) := by simp [uv, u32_nat hx]
  rw [e] at h
  exact h
/-- how a function of the package ends: the result's box, which holds the zero node, takes the node -/
structure Fin (w W : World) (g : Nat) : Prop where
  low : Below w.heap.size w W
  box : Whole W g 28 #[.int .u16 0, .slice none 0 0, .slice none 0 0]
  new : w.heap.size ≤ g
theorem Fin.below {w W W' : World} {g : Nat} (h : Fin w W g) (hb : Below W.heap.size W W') : Fin w W' g := ⟨h.low.trans (hb.mono h.low.size), h.box.below hb h.box.lt, h.new⟩
/-- the world behind the store -/
def putNd (W : World) (g : Nat) (a b c : Value) : World := ((W.setCell ⟨g, 0, none⟩ a).setCell ⟨g, 1, none⟩ b).setCell ⟨g, 2, none⟩ c
theorem Fin.ret {w W0 W : World} {g : Nat} (h0 : Fin w W0 g) {o : Option Nd} {A K : Option Addr} {c k : Nat} (hb : Below W0.heap.size W0 W) (hN : NodeS W (NewS W0 W) A c K k (o.getD zN)) :
    RetN w o (.returned (.tuple #[.agg #[hv (o.getD zN).t, .slice A (o.getD zN).v.length c, .slice K (o.getD zN).ks.length k], .bool o.isSome])) (putNd W g (hv (o.getD zN).t) (.slice A (o.getD zN).v.length c) (.slice K (o.getD zN).ks.length k)) ∧
    Whole (putNd W g (hv (o.getD zN).t) (.slice A (o.getD zN).v.length c) (.slice K (o.getD zN).ks.length k)) g 28 #[hv (o.getD zN).t, .slice A (o.getD zN).v.length c, .slice K (o.getD zN).ks.length k] := by
  have h := h0.below hb
  have hlt := h0.box.lt
  refine ⟨⟨((h.low.setCell (p := ⟨g, 0, none⟩) h.new _).setCell (p := ⟨g, 1, none⟩) h.new _).setCell (p := ⟨g, 2, none⟩) h.new _, A, c, K, k, rfl, ?_⟩, ((h.box.set_ 0 _).set_ 1 _).set_ 2 _⟩
  refine hN.turn (fun p hp => ?_) (fun b hb2 => ⟨Nat.le_trans h0.low.size hb2.1, by have := hb2.2; simpa [putNd, World.setCell] using this⟩)
  have h1 : p.block ≠ g := fun e => by have := hp.1; omega
  unfold putNd
  rw [World.cell?_setCell_other _ _ _ _ (fun e => h1 (by rw [← e])), World.cell?_setCell_other _ _ _ _ (fun e => h1 (by rw [← e])), World.cell?_setCell_other _ _ _ _ (fun e => h1 (by rw [← e]))]
theorem lies_two (w : World) (o : Obj) (L : List UInt16) : Lies ((w.alloc (.cells (L.map hv).toArray 22)).alloc o) (w.heap.size + 2) (some ⟨w.heap.size, 0, none⟩) (L.map hv) :=
  ((Lies.newN w (L.map hv) 22).alloc (by simp) o).more (by omega)

set_option maxRecDepth 100000 in
set_option maxHeartbeats 1000000 in
/-- what stands behind the early return of Number -/
theorem number10_tail (t : UInt16) (ht : t ≠ 1) (x : Nat) (hx : x < 4294967296) (w : World) :
    Calls Try.prog 9 #[hv t, .int .u32 (x : Int)] w (RetN w (numN t x)) := by
  have b0 : Below w.heap.size w (w.alloc (.cells #[.int .u16 0, .slice none 0 0, .slice none 0 0] 28)) := (Below.refl _ _).alloc (Nat.le_refl _) _
  have hF0 : Fin w (w.alloc (.cells #[.int .u16 0, .slice none 0 0, .slice none 0 0] 28)) w.heap.size := ⟨b0, Whole.new _ _ _, Nat.le_refl _⟩
  have ht' : ¬ (t.toNat : Int) = 1 := fun e => ht (UInt16.toNat_inj.1 (by have : (1 : UInt16).toNat = 1 := rfl; omega))
  have HR := Lib.hid (num_of_right t x ht)
  have hO := ofNumber_any (w.alloc (.cells #[.int .u16 0, .slice none 0 0, .slice none 0 0] 28))
  clear ht
  go_enter Try.func9, Try.ntmps9
  go_wp2_with fail
  refine hO.mono ?_
  rintro e w1 ⟨rfl, hw1⟩
  rw [World.size_alloc] at hw1
  have b1 : Below (w.alloc (.cells #[.int .u16 0, .slice none 0 0, .slice none 0 0] 28)).heap.size (w.alloc (.cells #[.int .u16 0, .slice none 0 0, .slice none 0 0] 28)) w1 := by
    rw [hw1]; exact ((Below.refl _ _).alloc (Nat.le_refl _) _).alloc (by simp) _
  have hF1 := hF0.below b1
  have hg1 : Whole w1 (w.heap.size + 2) 37 #[.slice (some ⟨w.heap.size + 1, 0, none⟩) 3 3] := by
    rw [hw1]
    have := wnew1 (w.alloc (.cells #[.int .u16 0, .slice none 0 0, .slice none 0 0] 28)) (.cells #[.int .u16 1, .int .u16 3, .int .u16 9] 22) 37 #[.slice (some ⟨w.heap.size + 1, 0, none⟩) 3 3]
    simpa using this
  have hL1 : Lies w1 w1.heap.size (some ⟨w.heap.size + 1, 0, none⟩) (numT.map hv) := by
    have hsz : w1.heap.size = w.heap.size + 3 := by rw [hw1]; simp
    rw [hsz, hw1]
    have := lies_two (w.alloc (.cells #[.int .u16 0, .slice none 0 0, .slice none 0 0] 28)) (.cells #[.slice (some ⟨w.heap.size + 1, 0, none⟩) 3 3] 37) numT
    rw [World.size_alloc] at this
    exact this.more (Nat.le_refl _)
  clear hw1 hO
  have hP := put1_any x hx w1
  go_wp2_with fail
  refine hP.mono ?_
  rintro e w2 ⟨A2, c2, rfl, l2, m2, m3, b2⟩
  have hF2 := hF1.below b2
  have hC := right1_leaf numT (some ⟨w.heap.size + 1, 0, none⟩) 3 (w.heap.size + 2) t (be 4 (UInt32.ofNat x)) 4 (be_len 4 _) A2 c2 w2 (hg1.below b2 hg1.lt) ((hL1.below b2).more b2.size) (by decide) l2 m2 m3 (by omega)
  rw [HR.out] at hC
  go_wp2_with fail
  refine hC.mono ?_
  rintro e w3 ⟨b3, A3, c3, K3, k3, rfl, hN3⟩
  obtain ⟨z10, z11, z12, z13, z14, z15⟩ := (hF2.below b3).box.three
  obtain ⟨hE, hE2⟩ := hF2.ret b3 hN3
  generalize hn' : (numN t x).getD zN = n' at *
  generalize hs' : (numN t x).isSome = s' at *
  unfold ndV
  go_wp2_with fail
  (try simp only [Exit.then])
  refine bodyPost_ret (results_row_tmp rfl _ _ w.heap.size 28 _ _ rfl hE2 Try.underlying28 rfl (by kernel_rfl)) rfl ?_
  exact hE
set_option maxRecDepth 100000 in
set_option maxHeartbeats 1000000 in
theorem number10_one (t : UInt16) (ht : t = 1) (x : Nat) (hx : x < 65536) (w : World) :
    Calls Try.prog 9 #[hv t, .int .u32 (x : Int)] w (RetN w (numN t x)) := by
  have b0 : Below w.heap.size w (w.alloc (.cells #[.int .u16 0, .slice none 0 0, .slice none 0 0] 28)) := (Below.refl _ _).alloc (Nat.le_refl _) _
  have hF0 : Fin w (w.alloc (.cells #[.int .u16 0, .slice none 0 0, .slice none 0 0] 28)) w.heap.size := ⟨b0, Whole.new _ _ _, Nat.le_refl _⟩
  have ht' : (t.toNat : Int) = 1 := by rw [ht]; rfl
  have HR : Hid (rightO numT (.mk t (be 4 (UInt32.ofNat (x * 65536))) []) = numN t x) := by rw [ht]; exact num_of_right1 x hx
  have hsh : (x : Int) * 65536 % 4294967296 = ((x * 65536 : Nat) : Int) := by omega
  have hO := ofNumber_any (w.alloc (.cells #[.int .u16 0, .slice none 0 0, .slice none 0 0] 28))
  clear ht
  go_enter Try.func9, Try.ntmps9
  go_wp2_with fail
  refine hO.mono ?_
  rintro e w1 ⟨rfl, hw1⟩
  rw [World.size_alloc] at hw1
  have b1 : Below (w.alloc (.cells #[.int .u16 0, .slice none 0 0, .slice none 0 0] 28)).heap.size (w.alloc (.cells #[.int .u16 0, .slice none 0 0, .slice none 0 0] 28)) w1 := by
    rw [hw1]; exact ((Below.refl _ _).alloc (Nat.le_refl _) _).alloc (by simp) _
  have hF1 := hF0.below b1
  have hg1 : Whole w1 (w.heap.size + 2) 37 #[.slice (some ⟨w.heap.size + 1, 0, none⟩) 3 3] := by
    rw [hw1]
    have := wnew1 (w.alloc (.cells #[.int .u16 0, .slice none 0 0, .slice none 0 0] 28)) (.cells #[.int .u16 1, .int .u16 3, .int .u16 9] 22) 37 #[.slice (some ⟨w.heap.size + 1, 0, none⟩) 3 3]
    simpa using this
  have hL1 : Lies w1 w1.heap.size (some ⟨w.heap.size + 1, 0, none⟩) (numT.map hv) := by
    have hsz : w1.heap.size = w.heap.size + 3 := by rw [hw1]; simp
    rw [hsz, hw1]
    have := lies_two (w.alloc (.cells #[.int .u16 0, .slice none 0 0, .slice none 0 0] 28)) (.cells #[.slice (some ⟨w.heap.size + 1, 0, none⟩) 3 3] 37) numT
    rw [World.size_alloc] at this
    exact this.more (Nat.le_refl _)
  clear hw1 hO
  have hP := put1_any (x * 65536) (by omega) w1
  go_wp2_with fail
  refine hP.mono ?_
  rintro e w2 ⟨A2, c2, rfl, l2, m2, m3, b2⟩
  have hF2 := hF1.below b2
  have hC := right1_leaf numT (some ⟨w.heap.size + 1, 0, none⟩) 3 (w.heap.size + 2) t (be 4 (UInt32.ofNat (x * 65536))) 4 (be_len 4 _) A2 c2 w2 (hg1.below b2 hg1.lt) ((hL1.below b2).more b2.size) (by decide) l2 m2 m3 (by omega)
  rw [HR.out] at hC
  go_wp2_with fail
  refine hC.mono ?_
  rintro e w3 ⟨b3, A3, c3, K3, k3, rfl, hN3⟩
  obtain ⟨z10, z11, z12, z13, z14, z15⟩ := (hF2.below b3).box.three
  obtain ⟨hE, hE2⟩ := hF2.ret b3 hN3
  generalize hn' : (numN t x).getD zN = n' at *
  generalize hs' : (numN t x).isSome = s' at *
  unfold ndV
  go_wp2_with fail
  (try simp only [Exit.then])
  refine bodyPost_ret (results_row_tmp rfl _ _ w.heap.size 28 _ _ rfl hE2 Try.underlying28 rfl (by kernel_rfl)) rfl ?_
  exact hE

theorem number10_any (t : UInt16) (x : Nat) (hx : x < 4294967296) (w : World) : Calls Try.prog 9 #[hv t, .int .u32 (x : Int)] w (RetN w (numN t x)) := by
  by_cases ht : t = 1
  · by_cases hx2 : x < 65536
    · exact number10_one t ht x hx2 w
    · have HR : Hid (numN t x = none) := by unfold Hid numN; subst ht; rw [if_neg (by decide), if_neg (by omega)]
      have ht' : (t.toNat : Int) = 1 := by rw [ht]; rfl
      have hx3 : (65535 : Int) < (x : Int) := by omega
      have b0 : Below w.heap.size w (w.alloc (.cells #[.int .u16 0, .slice none 0 0, .slice none 0 0] 28)) := (Below.refl _ _).alloc (Nat.le_refl _) _
      have x1 := Whole.new w 28 #[.int .u16 0, .slice none 0 0, .slice none 0 0]
      clear ht hx2
      go_enter Try.func9, Try.ntmps9
      go_wp2_with fail
      (try simp only [Exit.then])
      refine bodyPost_ret (results_row_tmp rfl _ _ w.heap.size 28 _ _ rfl x1 Try.underlying28 rfl (by kernel_rfl)) rfl ?_
      rw [HR.out]
      exact RetN.zero b0
  · exact number10_tail t ht x hx w
/-- the check's closure, made behind the result's box -/
theorem mk_right (L : List UInt16) (n : Nat) (hn : L.length = n) (cs : Array Value) (hcs : cs = (L.map hv).toArray) (w : World) :
    Calls Try.prog 32 #[.slice (some ⟨w.heap.size + 1, 0, none⟩) n n] ((w.alloc (.cells #[.int .u16 0, .slice none 0 0, .slice none 0 0] 28)).alloc (.cells cs 22)) fun e w1 =>
      e = .returned (.func (.func 43) #[] #[.pointer (some ⟨w.heap.size + 2, 0, none⟩)]) ∧ Fin w w1 w.heap.size ∧ Whole w1 (w.heap.size + 2) 37 #[.slice (some ⟨w.heap.size + 1, 0, none⟩) L.length n] ∧
      Lies w1 w1.heap.size (some ⟨w.heap.size + 1, 0, none⟩) (L.map hv) := by
  subst hcs
  subst hn
  refine (cright_any L (some ⟨w.heap.size + 1, 0, none⟩) L.length ((w.alloc (.cells #[.int .u16 0, .slice none 0 0, .slice none 0 0] 28)).alloc (.cells (L.map hv).toArray 22))).mono ?_
  rintro e w1 ⟨rfl, hw1⟩
  have hsz : ((w.alloc (.cells #[.int .u16 0, .slice none 0 0, .slice none 0 0] 28)).alloc (.cells (L.map hv).toArray 22)).heap.size = w.heap.size + 2 := by simp
  have hsz1 : w1.heap.size = w.heap.size + 3 := by rw [hw1]; simp
  refine ⟨by rw [hsz], ⟨?_, ?_, Nat.le_refl _⟩, ?_, ?_⟩
  · rw [hw1]; exact (((Below.refl _ _).alloc (Nat.le_refl _) _).alloc (by simp) _).alloc (by simp; omega) _
  · rw [hw1]; exact ((Whole.new w 28 #[.int .u16 0, .slice none 0 0, .slice none 0 0]).alloc _).alloc _
  · rw [hw1]
    have := Whole.new ((w.alloc (.cells #[.int .u16 0, .slice none 0 0, .slice none 0 0] 28)).alloc (.cells (L.map hv).toArray 22)) 37 #[.slice (some ⟨w.heap.size + 1, 0, none⟩) L.length L.length]
    rw [hsz] at this
    exact this
  · rw [hsz1, hw1]
    have := lies_two (w.alloc (.cells #[.int .u16 0, .slice none 0 0, .slice none 0 0] 28)) (.cells #[.slice (some ⟨w.heap.size + 1, 0, none⟩) L.length L.length] 37) L
    rw [World.size_alloc] at this
    exact this.more (Nat.le_refl _)
set_option maxRecDepth 100000 in
set_option maxHeartbeats 1000000 in
theorem chunk10_any (A : Option Addr) (c : Nat) (b : List UInt8) (w : World) (h : Lies w w.heap.size A (b.map bv)) (hc : b.length ≤ c) (hcm : c ≤ maxLen) (hl : b.length ≤ 800000) :
    Calls Try.prog 21 #[.slice A b.length c] w (RetN w (chunkO b)) := by
  have HR := Lib.hid (chunk_right b)
  have hO := mk_right [6] 1 rfl #[.int .u16 6] rfl w
  go_enter Try.func21, Try.ntmps21
  go_wp2_with fail
  refine hO.mono ?_
  rintro e w1 ⟨rfl, hF1, hg1, hL1⟩
  have hC := right1_leaf [6] (some ⟨w.heap.size + 1, 0, none⟩) 1 (w.heap.size + 2) 6 b b.length rfl A c w1 hg1 hL1 (by decide) ((h.below hF1.low).more hF1.low.size) hc hcm hl
  rw [HR.out] at hC
  clear hO
  go_wp2_with fail
  refine hC.mono ?_
  rintro e w3 ⟨b3, A3, c3, K3, k3, rfl, hN3⟩
  obtain ⟨z10, z11, z12, z13, z14, z15⟩ := (hF1.below b3).box.three
  obtain ⟨hE, hE2⟩ := hF1.ret b3 hN3
  generalize hn' : (chunkO b).getD zN = n' at *
  generalize hs' : (chunkO b).isSome = s' at *
  unfold ndV
  go_wp2_with fail
  (try simp only [Exit.then])
  refine bodyPost_ret (results_row_tmp rfl _ _ w.heap.size 28 _ _ rfl hE2 Try.underlying28 rfl (by kernel_rfl)) rfl ?_
  exact hE

def str (b : List UInt8) : ByteArray := ⟨b.toArray⟩
theorem str_size (b : List UInt8) : (str b).size = b.length := by simp [str, ByteArray.size]
theorem conv_bytes (b : List UInt8) (hb : b.length ≤ maxLen) (w : World) : ∃ cap W2, (convert 9 25 (.string (str b))).run Try.prog w = .ok (.slice (some ⟨w.heap.size, 0, none⟩) b.length cap) W2 ∧
    Below w.heap.size w W2 ∧ Lies W2 W2.heap.size (some ⟨w.heap.size, 0, none⟩) (b.map bv) ∧ b.length ≤ cap ∧ cap ≤ maxLen := by
  have h := run_bytes_of_string (P := Try.prog) w 9 25 5 (str b) Try.underlying9 Try.underlying25 Try.underlying5
  rw [str_size] at h
  refine ⟨_, _, h, (below_drew (Below.refl _ w)).alloc (by simp) _, fun hne => ⟨_, rfl, by simp, fun j u hu => ?_⟩, grownCap_ge _ _ _ _, grownCap_le_maxLen _ _ _ _ hb⟩
  rw [List.getElem?_map] at hu
  obtain ⟨x, hx, rfl⟩ := Option.map_eq_some_iff.1 hu
  have hj := (List.getElem?_eq_some_iff.1 hx).1
  rw [add_row]
  have hc := World.cell?_alloc_mark w.drew (bytesRow (str b) (grownCap w b.length 0 5)) 5 ((bytesRow (str b) (grownCap w b.length 0 5)).size, (bytesRow (str b) (grownCap w b.length 0 5)).size + 1) j
  refine Eq.trans hc ?_
  rw [bytesRow_at (str b) _ j (by simpa [str] using hj)]
  have : (str b).data[j]'(by simpa [str] using hj) = x := by simpa [str] using (List.getElem?_eq_some_iff.1 hx).2
  rw [this]
set_option maxRecDepth 100000 in
set_option maxHeartbeats 1000000 in
theorem message10_any (t : UInt16) (b : List UInt8) (w : World) (hl : b.length ≤ 800000) :
    Calls Try.prog 22 #[hv t, .string (str b)] w (RetN w (msgO t b)) := by
  have HR := Lib.hid (msg_right t b)
  have hO := mk_right [12, 13] 2 rfl #[.int .u16 12, .int .u16 13] rfl w
  go_enter Try.func22, Try.ntmps22
  go_wp2_with fail
  refine hO.mono ?_
  rintro e w1 ⟨rfl, hF1, hg1, hL1⟩
  obtain ⟨cap, w2, hcv, b2, l2, m2, m3⟩ := conv_bytes b (by unfold maxLen; omega) w1
  have hF2 := hF1.below b2
  have hC := right1_leaf [12, 13] (some ⟨w.heap.size + 1, 0, none⟩) 2 (w.heap.size + 2) t b b.length rfl _ cap w2 (hg1.below b2 hg1.lt) ((hL1.below b2).more b2.size) (by decide) l2 m2 m3 hl
  rw [HR.out] at hC
  generalize str b = s at *
  clear hO
  go_wp2_with fail
  refine hC.mono ?_
  rintro e w3 ⟨b3, A3, c3, K3, k3, rfl, hN3⟩
  obtain ⟨z10, z11, z12, z13, z14, z15⟩ := (hF2.below b3).box.three
  obtain ⟨hE, hE2⟩ := hF2.ret b3 hN3
  generalize hn' : (msgO t b).getD zN = n' at *
  generalize hs' : (msgO t b).isSome = s' at *
  unfold ndV
  go_wp2_with fail
  (try simp only [Exit.then])
  refine bodyPost_ret (results_row_tmp rfl _ _ w.heap.size 28 _ _ rfl hE2 Try.underlying28 rfl (by kernel_rfl)) rfl ?_
  exact hE
end Go.Proofs.Ytdnilbebdgohnaa



namespace Go.Proofs.Ytdnilbebdgohnaa
open Go.RowKit

theorem nodeS_leaf {w : World} {S : Nat → Prop} {A : Option Addr} {c : Nat} (t : UInt16) (d : List UInt8) (h : LiesS w S A (d.map bv)) (hc : d.length ≤ c) (hm : c ≤ maxLen) : NodeS w S A c none 0 (.mk t d []) :=
  ⟨h, hc, hm, .mk [] (fun _ => none) (fun _ => 0) (fun h => absurd rfl h) rfl (fun i n h => by simp [Nd.ks] at h) (fun i n h => by simp [Nd.ks] at h), Nat.le_refl _, Nat.zero_le _⟩
theorem u8_int (n : Nat) : ((n : Int) % 256) = ((UInt8.ofNat n).toNat : Int) := by
  rw [UInt8.toNat_ofNat']
  omega
theorem fin_new (w : World) : Fin w (w.alloc (.cells #[.int .u16 0, .slice none 0 0, .slice none 0 0] 28)) w.heap.size := ⟨(Below.refl _ _).alloc (Nat.le_refl _) _, Whole.new _ _ _, Nat.le_refl _⟩
end Go.Proofs.Ytdnilbebdgohnaa

