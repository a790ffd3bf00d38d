/- Layer 9: the address that a string is in a notation (read): the text of an address gives that address; whatever else gives an address or none. It writes nothing that was there. -/
import Derived.Test.YtemeeeiglifpaaaDoorAddrGC
import Derived.Test.YtemeeeiglifpaaaDoorAddrS
import Derived.Test.YtemeeeiglifpaaaDoorWireD
import Derived.Test.YtemeeeiglifpaaaDoorAddrGA



namespace Go.Proofs.YtemeeeiglifpaaaDoor
open Go.RowKit Go.Shelf

theorem txt_len_ge (b : Nat) (sg : UInt8) (ws : List Nat) : ws.length ≤ (txt b sg ws).length := by
  have h : ∀ (k : Nat) (ws : List Nat), ws.length = k → ws.length ≤ (txt b sg ws).length := by
    intro k
    induction k with
    | zero => intro ws h; omega
    | succ k ih =>
      intro ws h
      obtain ⟨l, w, rfl⟩ : ∃ l w, ws = l ++ [w] := ⟨ws.dropLast, ws.getLast (by intro e; rw [e] at h; simp at h), (List.dropLast_concat_getLast _).symm⟩
      rw [txt_snoc, List.length_append, List.length_append]
      have h1 := ih l (by simpa using h)
      have h2 : 0 < (dg b w).length := List.length_pos_iff.2 (dg_ne b w)
      simp
      omega
  exact h _ ws rfl
theorem sp_word_le (c : UInt8) : ∀ (k : Nat) (l : List UInt8), ∀ x ∈ sp k c l, x.length ≤ l.length := by
  intro k
  induction k with
  | zero => intro l x hx; rw [sp, List.mem_singleton] at hx; rw [hx]; exact Nat.le_refl _
  | succ k ih =>
    intro l x hx
    rw [sp] at hx
    split at hx
    · rw [List.mem_singleton.1 hx]; exact Nat.le_refl _
    · rcases List.mem_cons.1 hx with rfl | hx
      · rw [List.length_take]; omega
      · have := ih _ x hx
        rw [List.length_drop] at this
        omega
theorem wsOf_at {x m : Nat} {v : List UInt8} (hx : 0 < x) (h : v.length = m * x) {j : Nat} (hj : j < m) : (wsOf x v)[j]? = some (numAt x v j).toNat := by
  have hdiv : v.length / x = m := by rw [h]; exact Nat.mul_div_cancel _ hx
  unfold wsOf nums
  rw [List.getElem?_map, List.getElem?_map, List.getElem?_range (by omega)]
  rfl
theorem wsOf_len {x m : Nat} {v : List UInt8} (hx : 0 < x) (h : v.length = m * x) : (wsOf x v).length = m := by
  unfold wsOf
  rw [List.length_map, nums_len, h]
  exact Nat.mul_div_cancel _ hx
/-- a string is the text of these bytes -/
def TxtOf (b : Nat) (sg : UInt8) (x m : Nat) (l v : List UInt8) : Prop := v.length = m * x ∧ l = txt b sg (wsOf x v) ∧ ∀ j, j < m → (numAt x v j).toNat ≤ lim b
theorem TxtOf.words {b : Nat} {sg : UInt8} {x m : Nat} {l v : List UInt8} (hb : b = 10 ∨ b = 16) (hsg : sg = 46 ∨ sg = 58) (hx : 0 < x) (hm : 0 < m) (h : TxtOf b sg x m l v) (n : Nat) (hn : n = min m l.length) :
    sp n sg l = (wsOf x v).map (dg b) := by
  obtain ⟨h1, rfl, h2⟩ := h
  have hl := wsOf_len hx h1
  have hge := txt_len_ge b sg (wsOf x v)
  have hlim : ∀ w ∈ wsOf x v, w ≤ lim b := fun w hw => by
    obtain ⟨j, hj⟩ := List.mem_iff_getElem?.1 hw
    have hjm : j < m := by have := (List.getElem?_eq_some_iff.1 hj).1; omega
    rw [wsOf_at hx h1 hjm] at hj
    cases hj
    exact h2 j hjm
  generalize wsOf x v = ws at *
  match ws, hl with
  | [], hl => simp at hl; omega
  | w :: ws, hl => exact sp_txt hb hsg ws w n hlim (by simp at hl hge; omega)
/-- the bytes of numbers of a row -/
theorem puts_back {x : Nat} (hx : x = 1 ∨ x = 2 ∨ x = 4) {m : Nat} {v : List UInt8} (h : v.length = m * x) (L : List UInt32) (hL : L.length = m) (hj : ∀ j, j < m → L[j]? = some (numAt x v j)) : puts x L = v := by
  have e : L = nums x v := by
    apply List.ext_getElem?
    intro j
    have hdiv : v.length / x = m := by rw [h]; exact Nat.mul_div_cancel _ (by omega)
    by_cases h1 : j < m
    · rw [hj j h1]
      unfold nums
      rw [List.getElem?_map, List.getElem?_range (by omega)]
      rfl
    · rw [List.getElem?_eq_none (by omega), List.getElem?_eq_none (by rw [nums_len]; omega)]
  rw [e]
  exact puts_nums hx m v h

theorem u32infoT : (Tryd.prog.info? 63).map (fun i => (i.zero, i.size, i.bytes)) = some (some (.int .u32 0), 1, 4) := by kernel_rfl
theorem wpList_make_t (w : World) {ops : Array Oper} {rest : List Oper} {o : Oper} {a : Act} {Q : Exit → Act → World → Prop}
    (hg : o.guard = none) (l c : Operand) (hop : o.op = Op.makeSlice 61 l c)
    (L : Int) (n : Nat) (hl : a.eval l = .int .i64 L) (hc : a.eval c = .int .i64 L) (hL : L = (n : Int)) (hn : n ≤ 10000000)
    (hK : ∀ w', Whole w' w.heap.size 63 ((List.replicate n (0 : UInt32)).map uv).toArray → Below w.heap.size w w' → wpList Tryd.prog ops Q rest (a.put o.dst (.slice (some ⟨w.heap.size, 0, none⟩) n n)) w') :
    wpList Tryd.prog ops Q (o :: rest) a w := by
  obtain ⟨i0, hi, hz0, hz1, hz2⟩ := info_parts u32infoT
  refine wpList_make_full w hg l c 61 hop w.heap.size 63 i0 (.int .u32 0) 1 Tryd.underlying61 hi hz0 hz1 .i64 .i64 L L n hl hc hL hL (by rw [hz2]; omega) (by unfold maxLen; omega) (Nat.le_refl _) ?_
  intro w' hown hgrow
  refine hK w' ?_ ((Below.refl _ w).grown hgrow (Nat.le_refl _) (by simp))
  have h1 := own_wholeS hown
  rw [List.map_replicate, show uv 0 = Value.int .u32 0 from rfl]
  simpa [Whole, toList_madeCells_one, Value.cells] using h1
theorem rowU_store {w : World} {g : Nat} {L : List UInt32} (h : Whole w g 63 (L.map uv).toArray) (i : Nat) (x : UInt32) : Whole (w.setCell ⟨g, i, none⟩ (uv x)) g 63 ((L.set i x).map uv).toArray := by
  have := h.set_ i (uv x)
  rw [show ((L.map uv).toArray).setIfInBounds i (uv x) = ((L.set i x).map uv).toArray by rw [List.setIfInBounds_toArray, List.map_set]] at this
  exact this

theorem Lies.keepC {w w' : World} {B : Nat} {A : Option Addr} {xs : List Value} (h : Lies w B A xs) (hk : ∀ ad, A = some ad → w'.heap[ad.block]? = w.heap[ad.block]?) : Lies w' B A xs := fun hne => by
  obtain ⟨ad, h1, h2, h3⟩ := h hne
  refine ⟨ad, h1, h2, fun j u hu => ?_⟩
  rw [World.cell?_of_block (w := w) (by rw [blk_add]; exact hk ad h1)]
  exact h3 j u hu
/-- what read returns: the address of a text, or some address, or none -/
def RdR (b : Nat) (sg : UInt8) (x m : Nat) (l : List UInt8) (w : World) (e : Ending) (w' : World) : Prop := Below w.heap.size w w' ∧
  ((∃ (v : List UInt8) (A' : Option Addr) (c' : Nat), v.length = m * x ∧ e = .returned (.tuple #[ndV (ofN v) A' c' none 0, .bool true]) ∧ Node w' w'.heap.size A' c' none 0 (ofN v) ∧ (∀ ad, A' = some ad → w.heap.size < ad.block) ∧ ∀ v0, TxtOf b sg x m l v0 → v = v0) ∨
   (e = .returned (.tuple #[znd, .bool false]) ∧ ∀ v0, ¬ TxtOf b sg x m l v0))

set_option maxRecDepth 100000 in
set_option maxHeartbeats 16000000 in
theorem read_any (t : UInt16) (b z m x : Nat) (sg : UInt8) (hb : b = 10 ∧ x = 1 ∧ m = 4 ∧ z = 8 ∧ sg = 46 ∨ b = 16 ∧ x = 2 ∧ m = 8 ∧ z = 16 ∧ sg = 58) (s : ByteArray) (hs : s.size ≤ 1000) (w : World) (hT : AT w) (hE : Errs w) :
    Calls Tryd.prog 20 #[ntV t (m * x) x b ⟨#[sg]⟩, .string s] w (RdR b sg x m s.data.toList w) := by
  have hb1 : b = 10 ∨ b = 16 := by omega
  have hsg : sg = 46 ∨ sg = 58 := by rcases hb with h | h; (exact .inl h.2.2.2.2); (exact .inr h.2.2.2.2)
  have hx1 : x = 1 ∨ x = 2 ∨ x = 4 := by omega
  have hx0 : 0 < x := by omega
  have hm0 : 0 < m := by omega
  have hm8 : m ≤ 8 := by omega
  have hmx : m * x = 4 ∨ m * x = 16 := by rcases hb with ⟨_, rfl, rfl, _⟩ | ⟨_, rfl, rfl, _⟩ <;> simp
  have hz : (8 : Int) * (x : Int) = (z : Int) := by omega
  have hbz : b = 10 ∧ z = 8 ∨ b = 16 ∧ z = 16 := by omega
  have hz16 : (z : Int) ≤ 16 := by omega
  have hq : ((m * x : Nat) : Int).tdiv (x : Int) = (m : Int) := by rw [Int.natCast_mul]; exact Int.mul_tdiv_cancel _ (by omega)
  obtain ⟨l, hl⟩ : ∃ l, Hid (s.data.toList = l) := ⟨_, rfl⟩
  have hsl : s.size = l.length := by rw [← hl.out, Array.length_toList]; rfl
  have hSp := splitn_any sg (m + 1) (by omega) (by omega) s hs
  rw [hl.out, show min (m + 1) (s.size + 1) - 1 = min m l.length by omega] at hSp
  have HW : Hid (∀ v0, TxtOf b sg x m l v0 → sp (min m l.length) sg l = (wsOf x v0).map (dg b)) := fun v0 h => h.words hb1 hsg hx0 hm0 _ rfl
  have HWL : Hid (∀ y ∈ sp (min m l.length) sg l, y.length ≤ 1000) := fun y hy => by have := sp_word_le sg _ l y hy; omega
  rw [hl.out]
  generalize sp (min m l.length) sg l = L0 at *
  have HX := Lib.hid hx1
  have HMX := Lib.hid hmx
  have HBZ := Lib.hid hbz
  have HB1 := Lib.hid hb1
  clear hsl hx1 hmx hbz hb1 hsg hb
  generalize hmxe : m * x = mx at *
  have HMXE := Lib.hid hmxe
  clear hmxe
  have B0 : Below w.heap.size w ((w.alloc (.cells #[hv t, .int .i64 (mx : Int), .int .i64 (x : Int), .int .i64 (b : Int), .string ⟨#[sg]⟩] 44)).alloc (.cells #[.int .u16 0, .slice none 0 0, .slice none 0 0] 27)) := ((Below.refl _ w).alloc (Nat.le_refl _) _).alloc (by simp) _
  have X0 := (Whole.new w 44 #[hv t, .int .i64 (mx : Int), .int .i64 (x : Int), .int .i64 (b : Int), .string ⟨#[sg]⟩]).alloc (.cells #[.int .u16 0, .slice none 0 0, .slice none 0 0] 27)
  have Y0 := Whole.new (w.alloc (.cells #[hv t, .int .i64 (mx : Int), .int .i64 (x : Int), .int .i64 (b : Int), .string ⟨#[sg]⟩] 44)) 27 #[.int .u16 0, .slice none 0 0, .slice none 0 0]
  have S0 : ((w.alloc (.cells #[hv t, .int .i64 (mx : Int), .int .i64 (x : Int), .int .i64 (b : Int), .string ⟨#[sg]⟩] 44)).alloc (.cells #[.int .u16 0, .slice none 0 0, .slice none 0 0] 27)).heap.size = w.heap.size + 2 := by simp
  simp only [World.size_alloc] at Y0
  have HT := Lib.hid hT
  have HE := Lib.hid hE
  clear hT hE
  go_enter Tryd.func20, Tryd.ntmps20
  go_wp2_with fail
  have hSp2 : ∀ W, Calls Tryd.prog 41 #[.string s, .string ⟨#[sg]⟩, .int .i64 ((m : Int) + 1)] W (Words W L0) := fun W => by
    have := hSp W
    rwa [show ((m + 1 : Nat) : Int) = (m : Int) + 1 by omega] at this
  refine (hSp2 _).mono ?_
  rintro e w1 ⟨g1, cap, cs, rfl, hg1, hw1, hcs, b1⟩
  have hs1 := b1.size
  have hg1w := hw1.lt
  have X1 := X0.below b1 X0.lt
  have Y1 := Y0.below b1 (by rw [S0]; omega)
  have B1 := B0.trans (b1.mono (by rw [S0]; omega))
  rw [S0] at hg1 hs1
  clear b1 B0 X0 Y0 S0 hSp hSp2
  have HCS := Lib.hid hcs
  clear hcs
  by_cases hlen : L0.length = m
  · have hl1 : ((L0.length : Int) != (m : Int)) = false := by rw [bne_eq_false_iff_eq]; omega
    have q2 := X1.cell 2
    have q3 := X1.cell 3
    simp only [List.getElem?_toArray, List.getElem?_cons_zero, List.getElem?_cons_succ] at q2 q3
    have HLE := Lib.hid hlen
    have hlI : (L0.length : Int) = (m : Int) := by omega
    clear hlen
    go_wp2_with (at_make; refine wpList_make_t w1 rfl (.tmp 29) (.tmp 29) rfl _ m rfl rfl rfl (by omega) ?_; intro w2 hw2 b2)
    have HLI := Lib.hid hlI
    clear hlI hl1 q2 q3
    go_loopw [33] (fun iv wr => ∃ (j : Nat) (L : List UInt32), j ≤ m ∧ iv = .int .i64 j ∧ Hid (L.length = m) ∧ Hid (Whole wr w1.heap.size 63 (L.map uv).toArray) ∧ Hid (∀ v0, TxtOf b sg x m l v0 → ∀ i, i < j → L[i]? = some (numAt x v0 i)) ∧ Below w.heap.size w wr ∧
      Hid (Whole wr g1 9 cs) ∧ Hid (Whole wr w.heap.size 44 #[hv t, .int .i64 (mx : Int), .int .i64 (x : Int), .int .i64 (b : Int), .string ⟨#[sg]⟩]) ∧ Hid (Whole wr (w.heap.size + 1) 27 #[.int .u16 0, .slice none 0 0, .slice none 0 0]) ∧ w1.heap.size < wr.heap.size) (fun iv _ => m - (intOf iv).toNat)
    case atStart =>
      exact ⟨0, _, Nat.zero_le _, rfl, List.length_replicate, hw2, fun _ _ i hi => absurd hi (by omega), B1.trans (b2.mono B1.size), hw1.below b2 hw1.lt, X1.below b2 (by omega), Y1.below b2 (by omega), hw2.lt⟩
    case round =>
      obtain ⟨j, L, hj, rfl, hL, hrow, hval, hbel, hws, hnt, hzn, hsz⟩ := hrel
      have r2 := hnt.out.cell 2
      have r3 := hnt.out.cell 3
      simp only [List.getElem?_toArray, List.getElem?_cons_zero, List.getElem?_cons_succ] at r2 r3
      by_cases hlt : j < m
      · obtain ⟨y, hy⟩ : ∃ y, Hid (L0[j]? = some y) := ⟨_, List.getElem?_eq_getElem (by have := HLE.out; omega)⟩
        have r4 := hws.out.cell j
        rw [HCS.out j y hy.out] at r4
        unfold sV at r4
        have hjl : (j : Int) < (L0.length : Int) := by have := HLI.out; omega
        have hyl := HWL.out y (List.mem_of_getElem? hy.out)
        have hP := pu_any b z HBZ.out ⟨y.toArray⟩ (by simp [ByteArray.size]; omega) wr (HE.out.below hbel)
        simp only [] at hP
        go_wp2_with fail
        refine hP.mono ?_
        rintro e w5 ⟨n, v, rfl, h1, b5⟩
        have HM5 := b5
        have hrow5 := hrow.out.below b5 hrow.out.lt
        have hws5 := hws.out.below b5 hws.out.lt
        have hnt5 := hnt.out.below b5 hnt.out.lt
        have hzn5 := hzn.out.below b5 hzn.out.lt
        have hbel5 := hbel.trans (b5.mono hbel.size)
        have hsz5 := b5.size
        clear b5 hP HM5
        have HC : Hid (∀ v0, TxtOf b sg x m l v0 → y = dg b (numAt x v0 j).toNat ∧ (numAt x v0 j).toNat ≤ lim b) := fun v0 h => by
          have h2 := HW.out v0 h
          have h3 := hy.out
          rw [h2, List.getElem?_map, wsOf_at hx0 h.1 hlt] at h3
          simp only [Option.map_some, Option.some.injEq] at h3
          exact ⟨h3.symm, h.2.2 j hlt⟩
        rcases h1 with ⟨rfl, hn, hval1⟩ | ⟨hno, g5, rfl⟩
        · obtain ⟨u, rfl⟩ : ∃ u : UInt32, n = u.toNat := ⟨UInt32.ofNat n, by rw [UInt32.toNat_ofNat']; omega⟩
          have HV : Hid (∀ v0, TxtOf b sg x m l v0 → ∀ i, i < j + 1 → (L.set j u)[i]? = some (numAt x v0 i)) := fun v0 h i hi => by
            by_cases hij : j = i
            · subst hij
              obtain ⟨h2, h3⟩ := HC.out v0 h
              have h4 := hval1 ⟨_, h3, h2⟩
              rw [h2, Cn.val HB1.out h3 rfl] at h4
              rw [List.getElem?_set_self (by have := hL.out; omega), UInt32.toNat_inj.1 h4]
            · rw [List.getElem?_set_ne hij]
              exact hval.out v0 h i (by omega)
          have hu1 : (u.toNat : Int) ≤ 65535 := by omega
          have f5 := hrow5.frozen j
          obtain ⟨u0, hu0⟩ : ∃ u0, L[j]? = some u0 := ⟨_, List.getElem?_eq_getElem (by have := hL.out; omega)⟩
          have c5 := hrow5.cell j
          rw [List.getElem?_toArray, List.getElem?_map, hu0] at c5
          simp only [Option.map_some] at c5
          clear hval1 hn hu0
          go_wp2_with fail
          go_roundw
          case rel => exact ⟨j + 1, L.set j u, by omega, by go_num, by rw [Hid, List.length_set]; exact hL.out, rowU_store hrow5 j u, HV, hbel5.setCell (by show w.heap.size ≤ w1.heap.size; omega) _, hws5.far (by show g1 ≠ w1.heap.size; omega) _, hnt5.far (by show w.heap.size ≠ w1.heap.size; omega) _, hzn5.far (by show w.heap.size + 1 ≠ w1.heap.size; omega) _, by simp; omega⟩
          case measure => simp [intOf]; omega
        · have HNO : Hid (∀ v0, ¬ TxtOf b sg x m l v0) := fun v0 h => hno ⟨_, (HC.out v0 h).2, (HC.out v0 h).1⟩
          clear hno
          go_wp2_with (first | (refine wpList_store_row rfl 27 _ _ rfl (w.heap.size + 1) #[.int .u16 0, .slice none 0 0, .slice none 0 0] rfl rfl _ _ hzn5 (by kernel_rfl) rfl (by simp [Value.oneCell']) ?_) | fail)
          (try simp only [Exit.inBlock, Exit.then])
          refine bodyPost_ret (results_row_tmp rfl _ _ (w.heap.size + 1) 27 _ _ rfl (hzn5.setRow _) Tryd.underlying27 rfl (by kernel_rfl)) rfl ?_
          exact ⟨below_setRow hbel5 (Nat.le_add_right _ _) _, .inr ⟨rfl, HNO.out⟩⟩
      · obtain rfl : j = m := by omega
        have hPut := fun W h => put_any x HX.out (some ⟨w1.heap.size, 0, none⟩) j L W h (by have := hL.out; omega)
        have hLL := hL.out
        have hlies : Lies wr wr.heap.size (some ⟨w1.heap.size, 0, none⟩) (L.map uv) := fun _ => ⟨_, rfl, hsz, fun i u hu => by rw [add_row, hrow.out.cell]; simpa using hu⟩
        have hP2 := hPut wr hlies
        rw [hLL] at hP2
        clear hPut hlies hLL
        go_wp2_with fail
        refine hP2.mono ?_
        rintro e w5 ⟨A', c', rfl, own5, b5⟩
        have hpl : (puts x L).length = j * x := by rw [puts_len, hL.out]
        obtain ⟨_, hc1, hc2⟩ := own_cap own5
        have hOf := of_bytes A' c' (puts x L) w5 ((HT.out.below (hbel.trans (b5.mono hbel.size))).tbl) (Lies.own own5) (by rw [hpl]; exact hc1) hc2 (by rw [hpl]; have := HMXE.out; have := HMX.out; omega)
        rw [hpl] at hOf
        have hzn5 := hzn.out.below b5 hzn.out.lt
        have hbel5 := hbel.trans (b5.mono hbel.size)
        have b5s := b5.size
        clear own5 b5 hP2
        go_wp2_with fail
        refine hOf.mono ?_
        rintro e w6 ⟨b6, h6⟩
        have hzn6 := hzn5.below b6 hzn5.lt
        have hbel6 := hbel5.trans (b6.mono hbel5.size)
        clear b6 hOf
        rcases h6 with ⟨_, A6, c6, rfl, hN6, hF6⟩ | ⟨hno, _⟩
        · have HV : Hid (∀ v0, TxtOf b sg x j l v0 → puts x L = v0) := fun v0 h => puts_back HX.out h.1 L hL.out (fun i hi => hval.out v0 h i hi)
          have hne : ∀ ad, A6 = some ad → w.heap.size < ad.block := fun ad e => by have := hF6 ad e; have := b5s; omega
          have hnd : ∀ cs6, Node (w6.setRow (w.heap.size + 1) cs6) (w6.setRow (w.heap.size + 1) cs6).heap.size A6 c6 none 0 (ofN (puts x L)) := fun cs6 => by
            rw [setRow_size]
            refine ⟨hN6.data.keepC fun ad e => setRow_other _ _ _ _ (by have := hF6 ad e; omega), hN6.dc, hN6.dm, Nodes.nil _ _ _, hN6.kc, hN6.km⟩
          have HND := Lib.hid hnd
          have HNE := Lib.hid hne
          have HPL := Lib.hid hpl
          clear hnd hne hN6 hF6
          generalize puts x L = v at *
          unfold ndV at *
          go_wp2_with (first | (refine wpList_store_row rfl 27 _ _ rfl (w.heap.size + 1) #[hv (ofN v).t, .slice A6 (ofN v).v.length c6, .slice none (ofN v).ks.length 0] rfl rfl _ _ hzn6 (by kernel_rfl) rfl (by simp [Value.oneCell']) ?_) | fail)
          (try simp only [Exit.inBlock, Exit.then])
          refine bodyPost_ret (results_row_tmp rfl _ _ (w.heap.size + 1) 27 _ _ rfl (hzn6.setRow _) Tryd.underlying27 rfl (by kernel_rfl)) rfl ?_
          exact ⟨below_setRow hbel6 (Nat.le_add_right _ _) _, .inl ⟨v, A6, c6, by rw [HPL.out, HMXE.out], rfl, HND.out _, HNE.out, HV.out⟩⟩
        · exact absurd (by rw [hpl]; have := HMXE.out; have := HMX.out; omega) hno
  · have HNO : Hid (∀ v0, ¬ TxtOf b sg x m l v0) := fun v0 h => hlen (by rw [HW.out v0 h, List.length_map, wsOf_len hx0 h.1])
    have hl1 : ((L0.length : Int) != (m : Int)) = true := by rw [bne_iff_ne]; omega
    have hl2 : ¬ (L0.length : Int) = (m : Int) := by omega
    clear hlen
    go_wp2_with (first | (refine wpList_store_row rfl 27 _ _ rfl (w.heap.size + 1) #[.int .u16 0, .slice none 0 0, .slice none 0 0] rfl rfl _ _ Y1 (by kernel_rfl) rfl (by simp [Value.oneCell']) ?_) | fail)
    (try simp only [Exit.inBlock, Exit.then])
    refine bodyPost_ret (results_row_tmp rfl _ _ (w.heap.size + 1) 27 _ _ rfl (Y1.setRow _) Tryd.underlying27 rfl (by kernel_rfl)) rfl ?_
    exact ⟨below_setRow B1 (Nat.le_add_right _ _) _, .inr ⟨rfl, HNO.out⟩⟩
end Go.Proofs.YtemeeeiglifpaaaDoor

/- Layer 9: Parse: the address of a text, or none. It writes nothing that was there. -/

namespace Go.Proofs.YtemeeeiglifpaaaDoor
open Go.RowKit Go.Shelf

attribute [local go_sem, local simp] idx_nt0 idx_nt1
theorem txt10_eq (v : List UInt8) (_h : v.length = 4) : atx 5 v = txt 10 46 (wsOf 1 v) := by unfold atx wsOf; rw [if_pos rfl, nums_one]
theorem txt16_eq (v : List UInt8) (h : v.length = 16) : atx 6 v = txt 16 58 (wsOf 2 v) := by unfold atx wsOf; rw [if_neg (by decide), nums_two _ h]
theorem lim10_ok (v : List UInt8) (h : v.length = 4) (j : Nat) (hj : j < 4) : (numAt 1 v j).toNat ≤ lim 10 := by
  rw [numAt_toNat, Nat.mul_one, List.drop_eq_getElem_cons (by omega), List.take_succ_cons, List.take_zero, numOf_one]
  have := (v[j]'(by omega)).toNat_lt
  show _ ≤ 255; omega
theorem lim16_ok (v : List UInt8) (j : Nat) : (numAt 2 v j).toNat ≤ lim 16 := by
  rw [numAt_toNat]
  have := numOf_le2 (l := (v.drop (j * 2)).take 2) (by rw [List.length_take]; omega)
  show _ ≤ 65535; omega
/-- no address of the first notations has this text -/
def NoAd (l : List UInt8) (q : Nat) : Prop := (1 ≤ q → ∀ v, v.length = 4 → l ≠ atx 5 v) ∧ (2 ≤ q → ∀ v, v.length = 16 → l ≠ atx 6 v)
theorem noAd_0 {l : List UInt8} (_h : NoAd l 0) (h5 : ∀ v, v.length = 4 → l ≠ atx 5 v) : NoAd l (0 + 1) := ⟨fun _ => h5, fun h => absurd h (by omega)⟩
theorem noAd_1 {l : List UInt8} (h : NoAd l 1) (h6 : ∀ v, v.length = 16 → l ≠ atx 6 v) : NoAd l (1 + 1) := ⟨fun _ => h.1 (Nat.le_refl _), fun _ => h6⟩
theorem noAd_rp {l : List UInt8} (h : NoAd l 2) : rp l = none := by
  cases hr : rp l with
  | none => rfl
  | some p =>
    obtain ⟨t, v⟩ := p
    obtain ⟨h1, h2⟩ := rp_sound hr
    rcases h1 with ⟨rfl, hv⟩ | ⟨rfl, hv⟩
    · exact absurd h2 (h.1 (by omega) v hv)
    · exact absurd h2 (h.2 (by omega) v hv)
/-- what Parse returns -/
def PaV (l : List UInt8) (w : World) (e : Ending) (w' : World) : Prop := Below w.heap.size w w' ∧
  ((∃ (t : UInt16) (v : List UInt8) (A' : Option Addr) (c' : Nat), rp l = some (t, v) ∧ e = .returned (.tuple #[ndV (.mk t v []) A' c' none 0, .bool true]) ∧ Node w' w'.heap.size A' c' none 0 (.mk t v []) ∧ ∀ ad, A' = some ad → w.heap.size < ad.block) ∨
   (rp l = none ∧ e = .returned (.tuple #[znd, .bool false])))

set_option maxRecDepth 100000 in
set_option maxHeartbeats 16000000 in
theorem parse_any (l : List UInt8) (hs : (⟨l.toArray⟩ : ByteArray).size ≤ 1000) (w : World) (hT : AT w) (hE : Errs w) :
    Calls Tryd.prog 7 #[.string ⟨l.toArray⟩] w (PaV l w) := by
  have b0 : Below w.heap.size w (w.alloc (.cells #[.int .u16 0, .slice none 0 0, .slice none 0 0] 27)) := (Below.refl _ w).alloc (Nat.le_refl _) _
  have x1 := Whole.new w 27 #[.int .u16 0, .slice none 0 0, .slice none 0 0]
  have hsz : (w.alloc (.cells #[.int .u16 0, .slice none 0 0, .slice none 0 0] 27)).heap.size = w.heap.size + 1 := by simp
  have hTb := hT.tbl
  have U0 := hTb 0 _ rfl
  have U1 := hTb 1 _ rfl
  have U2 := hTb 2 _ rfl
  have U3 := hTb 3 _ rfl
  have U4 := hTb 4 _ rfl
  have U5 := hTb 5 _ rfl
  have U6 := hTb 6 _ rfl
  have U7 := hTb 7 _ rfl
  have U8 := hTb 8 _ rfl
  have U9 := hTb 9 _ rfl
  have hT0 := hTb.lt
  have HB := Lib.hid b0
  have HT := Lib.hid hT
  have HE := Lib.hid hE
  clear b0 hT hE hTb
  go_enter Tryd.func7, Tryd.ntmps7
  go_wp2_with fail
  generalize w.alloc (.cells #[.int .u16 0, .slice none 0 0, .slice none 0 0] 27) = w0 at *
  clear U0 U1 U2 U3 U4 U5 U6 U7 U8 U9 hT0
  go_loopw [9] (fun i wr => ∃ q : Nat, q ≤ 2 ∧ i = .int .i64 q ∧ Hid (NoAd l q) ∧ Below w0.heap.size w0 wr) (fun i _ => 2 - (intOf i).toNat)
  case atStart => exact ⟨0, by omega, rfl, ⟨fun h => absurd h (by omega), fun h => absurd h (by omega)⟩, Below.refl _ _⟩
  case round =>
    obtain ⟨q, hq, rfl, hno, hbel⟩ := hrel
    have z1 := x1.below hbel (by omega)
    have hsr := hbel.size
    have HBW := Lib.hid (HB.out.trans (hbel.mono (by omega)))
    match q, hq with
    | 2, _ =>
      have HN := Lib.hid (noAd_rp hno.out)
      clear hno
      go_wp2_with (first | (refine wpList_store_row rfl 27 _ _ rfl w.heap.size #[.int .u16 0, .slice none 0 0, .slice none 0 0] rfl rfl _ _ z1 (by kernel_rfl) rfl (by simp [Value.oneCell']) ?_) | fail)
      (try simp only [Exit.inBlock, Exit.then])
      refine bodyPost_ret (results_row_tmp rfl _ _ w.heap.size 27 _ _ rfl (z1.setRow _) Tryd.underlying27 rfl (by kernel_rfl)) rfl ?_
      exact ⟨below_setRow HBW.out (Nat.le_refl _) _, .inr ⟨HN.out, rfl⟩⟩
    | 0, _ =>
      have bn : Below wr.heap.size wr (wr.alloc (.cells #[.int .u16 5, .int .i64 4, .int .i64 1, .int .i64 10, .string ⟨#[46]⟩] 44)) := (Below.refl _ _).alloc (Nat.le_refl _) _
      have hR := read_any 5 10 8 4 1 46 (.inl ⟨rfl, rfl, rfl, rfl, rfl⟩) ⟨l.toArray⟩ hs (wr.alloc (.cells #[.int .u16 5, .int .i64 4, .int .i64 1, .int .i64 10, .string ⟨#[46]⟩] 44)) ((HT.out.below HBW.out).below bn) ((HE.out.below HBW.out).below bn)
      simp only [] at hR
      have hzn := z1.alloc (.cells #[.int .u16 5, .int .i64 4, .int .i64 1, .int .i64 10, .string ⟨#[46]⟩] 44)
      have ld := fun t h => heap_alloc_new wr (.cells #[.int .u16 5, .int .i64 4, .int .i64 1, .int .i64 10, .string ⟨#[46]⟩] t h)
      go_wp2_with (first
        | (refine wpList_new_nt rfl 44 _ _ rfl wr _ _ rfl rfl rfl (by kernel_rfl) rfl ?_)
        | (refine wpList_load_nt rfl 44 _ rfl wr.heap.size rfl _ (ld _ _) _ Tryd.underlying44 rfl (by kernel_rfl) ?_)
        | fail)
      refine hR.mono ?_
      rintro e w2 ⟨b2, h2⟩
      have hz2 := hzn.below b2 (by simp; omega)
      have hbel2 := hbel.trans ((bn.trans (b2.mono bn.size)).mono hbel.size)
      have hB2 := HB.out.trans (hbel2.mono HB.out.size)
      have hs2 := b2.size
      simp only [World.size_alloc] at hs2
      clear hR b2 bn ld
      rcases h2 with ⟨v, A2, c2, hv, rfl, hN2, hF2, hV2⟩ | ⟨rfl, hV2⟩
      · have hvl : v.length = 4 := hv
        have hofn : ofN v = .mk 5 v [] := by unfold ofN; rw [hvl]; rfl
        rw [hofn] at hN2
        have hal : Below w2.heap.size w2 (w2.alloc (.cells #[.int .u16 5, .slice A2 v.length c2, .slice none 0 0] 27)) := (Below.refl _ _).alloc (Nat.le_refl _) _
        have hTx := text_any (.mk 5 v []) A2 c2 none 0 (w2.alloc (.cells #[.int .u16 5, .slice A2 v.length c2, .slice none 0 0] 27)) ((HT.out.below hB2).below hal) ((hN2.data.below hal).more hal.size) hN2.dc (by show v.length ≤ _; omega) (by show (0 : Nat) ≤ _; omega)
        have hat : attx (.mk 5 v []) = atx 5 v := by
          have hn2 : ¬ nof (.mk 5 v []) = 2 := by unfold nof fitA; simp [Nd.t, Nd.v, Nd.ks, hvl]
          unfold attx
          rw [if_neg hn2]
          rfl
        rw [hat] at hTx
        have hisA : isA 5 v := .inl ⟨rfl, hvl⟩
        have nd2 := Whole.new w2 27 #[.int .u16 5, .slice A2 v.length c2, .slice none 0 0]
        have hz3 := hz2.below hal hz2.lt
        have hN3 := (hN2.below hal).more hal.size
        have hB3 := hB2.trans (hal.mono hB2.size)
        have hbel3 := hbel2.trans (hal.mono (by omega))
        have hE1 : ndV (ofN v) A2 c2 none 0 = .agg #[.int .u16 5, .slice A2 v.length c2, .slice none 0 0] := by rw [hofn]; rfl
        rw [hE1]
        have hE2 : ndV (.mk 5 v []) A2 c2 none 0 = .agg #[.int .u16 5, .slice A2 v.length c2, .slice none 0 0] := rfl
        rw [hE2] at hTx
        have HE2 := Lib.hid hE2
        have HHF := Lib.hid hF2
        by_cases heq : atx 5 v = l
        · have HRP : Hid (rp l = some (5, v)) := by unfold Hid; rw [← heq]; exact rp_atx hisA
          have hbt : (atx 5 v == l) = true := by rw [heq]; simp
          have HN3 := Lib.hid hN3
          clear hat hE1 hE2 hN2 hN3 hofn hV2 hvl hv hF2 hisA hno heq
          generalize atx 5 v = tx at *
          generalize v.length = vl at *
          go_wp2_with (first
            | (refine wpList_store_new rfl 27 _ _ rfl w2 _ _ rfl _ rfl rfl (by kernel_rfl) rfl (by simp [Value.oneCell']) ?_)
            | (refine wpList_load_row rfl 27 _ rfl w2.heap.size rfl _ _ (0, 0) _ nd2 Tryd.underlying27 rfl (by kernel_rfl) ?_)
            | fail)
          generalize w2.alloc (.cells #[.int .u16 5, .slice A2 vl c2, .slice none 0 0] 27) = w3 at *
          refine hTx.mono ?_
          rintro e w4 ⟨rfl, b4⟩
          have nd4 := nd2.below b4 nd2.lt
          have hz4 := hz3.below b4 hz3.lt
          have hB4 := hB3.trans (b4.mono hB3.size)
          have hnd : ∀ cs6, Node (w4.setRow w.heap.size cs6) (w4.setRow w.heap.size cs6).heap.size A2 c2 none 0 (.mk 5 v []) := fun cs6 => by
            have hN4 := (HN3.out.below b4).more b4.size
            rw [setRow_size]
            exact ⟨hN4.data.keepC fun ad e => setRow_other _ _ _ _ (by have := HHF.out ad e; simp only [World.size_alloc] at this; omega), hN4.dc, hN4.dm, Nodes.nil _ _ _, hN4.kc, hN4.km⟩
          have HND := Lib.hid hnd
          have HFF : Hid (∀ ad, A2 = some ad → w.heap.size < ad.block) := fun ad e => by have := HHF.out ad e; simp only [World.size_alloc] at this; omega
          clear hnd hTx b4
          go_wp2_with (first
            | (refine wpList_load_row rfl 27 _ rfl w2.heap.size rfl _ _ (0, 0) _ nd4 Tryd.underlying27 rfl (by kernel_rfl) ?_)
            | (refine wpList_store_row rfl 27 _ _ rfl w.heap.size #[.int .u16 5, .slice A2 vl c2, .slice none 0 0] rfl rfl _ _ hz4 (by kernel_rfl) rfl (by simp [Value.oneCell']) ?_)
            | fail)
          (try simp only [Exit.inBlock, Exit.then])
          refine bodyPost_ret (results_row_tmp rfl _ _ w.heap.size 27 _ _ rfl (hz4.setRow _) Tryd.underlying27 rfl (by kernel_rfl)) rfl ?_
          exact ⟨below_setRow hB4 (Nat.le_refl _) _, .inl ⟨5, v, A2, c2, HRP.out, by rw [HE2.out]; rfl, HND.out _, HFF.out⟩⟩
        · have HNO : Hid (NoAd l (0 + 1)) := noAd_0 hno.out (fun v0 hl0 e => heq (by
            have h3 := hV2 v0 ⟨by rw [hl0], by rw [e]; exact txt10_eq v0 hl0, fun j hj => lim10_ok v0 hl0 j hj⟩
            rw [h3, e]))
          have hbt : (atx 5 v == l) = false := beq_eq_false_iff_ne.2 heq
          clear hat hE1 hE2 hN2 hN3 hofn hV2 hvl hv hF2 hisA hno heq
          generalize atx 5 v = tx at *
          generalize v.length = vl at *
          go_wp2_with (first
            | (refine wpList_store_new rfl 27 _ _ rfl w2 _ _ rfl _ rfl rfl (by kernel_rfl) rfl (by simp [Value.oneCell']) ?_)
            | (refine wpList_load_row rfl 27 _ rfl w2.heap.size rfl _ _ (0, 0) _ nd2 Tryd.underlying27 rfl (by kernel_rfl) ?_)
            | fail)
          generalize w2.alloc (.cells #[.int .u16 5, .slice A2 vl c2, .slice none 0 0] 27) = w3 at *
          refine hTx.mono ?_
          rintro e w4 ⟨rfl, b4⟩
          have hbel4 := hbel3.trans (b4.mono hbel3.size)
          go_wp2_with fail
          go_roundw
          case rel => exact ⟨0 + 1, by omega, by go_num, HNO, hbel4⟩
          case measure => simp [intOf]
      · have HNO : Hid (NoAd l (0 + 1)) := noAd_0 hno.out (fun v0 hl0 e => hV2 v0 ⟨by rw [hl0], by rw [e]; exact txt10_eq v0 hl0, fun j hj => lim10_ok v0 hl0 j hj⟩)
        have hal : Below w2.heap.size w2 (w2.alloc (.cells #[.int .u16 0, .slice none 0 0, .slice none 0 0] 27)) := (Below.refl _ _).alloc (Nat.le_refl _) _
        have hbel3 := hbel2.trans (hal.mono (by omega))
        clear hV2 hno
        go_wp2_with (first
          | (refine wpList_store_new rfl 27 _ _ rfl w2 _ _ rfl _ rfl rfl (by kernel_rfl) rfl (by simp [Value.oneCell']) ?_)
          | fail)
        go_roundw
        case rel => exact ⟨0 + 1, by omega, by go_num, HNO, hbel3⟩
        case measure => simp [intOf]
    | 1, _ =>
      have bn : Below wr.heap.size wr (wr.alloc (.cells #[.int .u16 6, .int .i64 16, .int .i64 2, .int .i64 16, .string ⟨#[58]⟩] 44)) := (Below.refl _ _).alloc (Nat.le_refl _) _
      have hR := read_any 6 16 16 8 2 58 (.inr ⟨rfl, rfl, rfl, rfl, rfl⟩) ⟨l.toArray⟩ hs (wr.alloc (.cells #[.int .u16 6, .int .i64 16, .int .i64 2, .int .i64 16, .string ⟨#[58]⟩] 44)) ((HT.out.below HBW.out).below bn) ((HE.out.below HBW.out).below bn)
      simp only [] at hR
      have hzn := z1.alloc (.cells #[.int .u16 6, .int .i64 16, .int .i64 2, .int .i64 16, .string ⟨#[58]⟩] 44)
      have ld := fun t h => heap_alloc_new wr (.cells #[.int .u16 6, .int .i64 16, .int .i64 2, .int .i64 16, .string ⟨#[58]⟩] t h)
      go_wp2_with (first
        | (refine wpList_new_nt rfl 44 _ _ rfl wr _ _ rfl rfl rfl (by kernel_rfl) rfl ?_)
        | (refine wpList_load_nt rfl 44 _ rfl wr.heap.size rfl _ (ld _ _) _ Tryd.underlying44 rfl (by kernel_rfl) ?_)
        | fail)
      refine hR.mono ?_
      rintro e w2 ⟨b2, h2⟩
      have hz2 := hzn.below b2 (by simp; omega)
      have hbel2 := hbel.trans ((bn.trans (b2.mono bn.size)).mono hbel.size)
      have hB2 := HB.out.trans (hbel2.mono HB.out.size)
      have hs2 := b2.size
      simp only [World.size_alloc] at hs2
      clear hR b2 bn ld
      rcases h2 with ⟨v, A2, c2, hv, rfl, hN2, hF2, hV2⟩ | ⟨rfl, hV2⟩
      · have hvl : v.length = 16 := hv
        have hofn : ofN v = .mk 6 v [] := by unfold ofN; rw [hvl]; rfl
        rw [hofn] at hN2
        have hal : Below w2.heap.size w2 (w2.alloc (.cells #[.int .u16 6, .slice A2 v.length c2, .slice none 0 0] 27)) := (Below.refl _ _).alloc (Nat.le_refl _) _
        have hTx := text_any (.mk 6 v []) A2 c2 none 0 (w2.alloc (.cells #[.int .u16 6, .slice A2 v.length c2, .slice none 0 0] 27)) ((HT.out.below hB2).below hal) ((hN2.data.below hal).more hal.size) hN2.dc (by show v.length ≤ _; omega) (by show (0 : Nat) ≤ _; omega)
        have hat : attx (.mk 6 v []) = atx 6 v := by
          have hn2 : ¬ nof (.mk 6 v []) = 2 := by unfold nof fitA; simp [Nd.t, Nd.v, Nd.ks, hvl]
          unfold attx
          rw [if_neg hn2]
          rfl
        rw [hat] at hTx
        have hisA : isA 6 v := .inr ⟨rfl, hvl⟩
        have nd2 := Whole.new w2 27 #[.int .u16 6, .slice A2 v.length c2, .slice none 0 0]
        have hz3 := hz2.below hal hz2.lt
        have hN3 := (hN2.below hal).more hal.size
        have hB3 := hB2.trans (hal.mono hB2.size)
        have hbel3 := hbel2.trans (hal.mono (by omega))
        have hE1 : ndV (ofN v) A2 c2 none 0 = .agg #[.int .u16 6, .slice A2 v.length c2, .slice none 0 0] := by rw [hofn]; rfl
        rw [hE1]
        have hE2 : ndV (.mk 6 v []) A2 c2 none 0 = .agg #[.int .u16 6, .slice A2 v.length c2, .slice none 0 0] := rfl
        rw [hE2] at hTx
        have HE2 := Lib.hid hE2
        have HHF := Lib.hid hF2
        by_cases heq : atx 6 v = l
        · have HRP : Hid (rp l = some (6, v)) := by unfold Hid; rw [← heq]; exact rp_atx hisA
          have hbt : (atx 6 v == l) = true := by rw [heq]; simp
          have HN3 := Lib.hid hN3
          clear hat hE1 hE2 hN2 hN3 hofn hV2 hvl hv hF2 hisA hno heq
          generalize atx 6 v = tx at *
          generalize v.length = vl at *
          go_wp2_with (first
            | (refine wpList_store_new rfl 27 _ _ rfl w2 _ _ rfl _ rfl rfl (by kernel_rfl) rfl (by simp [Value.oneCell']) ?_)
            | (refine wpList_load_row rfl 27 _ rfl w2.heap.size rfl _ _ (0, 0) _ nd2 Tryd.underlying27 rfl (by kernel_rfl) ?_)
            | fail)
          generalize w2.alloc (.cells #[.int .u16 6, .slice A2 vl c2, .slice none 0 0] 27) = w3 at *
          refine hTx.mono ?_
          rintro e w4 ⟨rfl, b4⟩
          have nd4 := nd2.below b4 nd2.lt
          have hz4 := hz3.below b4 hz3.lt
          have hB4 := hB3.trans (b4.mono hB3.size)
          have hnd : ∀ cs6, Node (w4.setRow w.heap.size cs6) (w4.setRow w.heap.size cs6).heap.size A2 c2 none 0 (.mk 6 v []) := fun cs6 => by
            have hN4 := (HN3.out.below b4).more b4.size
            rw [setRow_size]
            exact ⟨hN4.data.keepC fun ad e => setRow_other _ _ _ _ (by have := HHF.out ad e; simp only [World.size_alloc] at this; omega), hN4.dc, hN4.dm, Nodes.nil _ _ _, hN4.kc, hN4.km⟩
          have HND := Lib.hid hnd
          have HFF : Hid (∀ ad, A2 = some ad → w.heap.size < ad.block) := fun ad e => by have := HHF.out ad e; simp only [World.size_alloc] at this; omega
          clear hnd hTx b4
          go_wp2_with (first
            | (refine wpList_load_row rfl 27 _ rfl w2.heap.size rfl _ _ (0, 0) _ nd4 Tryd.underlying27 rfl (by kernel_rfl) ?_)
            | (refine wpList_store_row rfl 27 _ _ rfl w.heap.size #[.int .u16 6, .slice A2 vl c2, .slice none 0 0] rfl rfl _ _ hz4 (by kernel_rfl) rfl (by simp [Value.oneCell']) ?_)
            | fail)
          (try simp only [Exit.inBlock, Exit.then])
          refine bodyPost_ret (results_row_tmp rfl _ _ w.heap.size 27 _ _ rfl (hz4.setRow _) Tryd.underlying27 rfl (by kernel_rfl)) rfl ?_
          exact ⟨below_setRow hB4 (Nat.le_refl _) _, .inl ⟨6, v, A2, c2, HRP.out, by rw [HE2.out]; rfl, HND.out _, HFF.out⟩⟩
        · have HNO : Hid (NoAd l (1 + 1)) := noAd_1 hno.out (fun v0 hl0 e => heq (by
            have h3 := hV2 v0 ⟨by rw [hl0], by rw [e]; exact txt16_eq v0 hl0, fun j hj => lim16_ok v0 j⟩
            rw [h3, e]))
          have hbt : (atx 6 v == l) = false := beq_eq_false_iff_ne.2 heq
          clear hat hE1 hE2 hN2 hN3 hofn hV2 hvl hv hF2 hisA hno heq
          generalize atx 6 v = tx at *
          generalize v.length = vl at *
          go_wp2_with (first
            | (refine wpList_store_new rfl 27 _ _ rfl w2 _ _ rfl _ rfl rfl (by kernel_rfl) rfl (by simp [Value.oneCell']) ?_)
            | (refine wpList_load_row rfl 27 _ rfl w2.heap.size rfl _ _ (0, 0) _ nd2 Tryd.underlying27 rfl (by kernel_rfl) ?_)
            | fail)
          generalize w2.alloc (.cells #[.int .u16 6, .slice A2 vl c2, .slice none 0 0] 27) = w3 at *
          refine hTx.mono ?_
          rintro e w4 ⟨rfl, b4⟩
          have hbel4 := hbel3.trans (b4.mono hbel3.size)
          go_wp2_with fail
          go_roundw
          case rel => exact ⟨1 + 1, by omega, by go_num, HNO, hbel4⟩
          case measure => simp [intOf]
      · have HNO : Hid (NoAd l (1 + 1)) := noAd_1 hno.out (fun v0 hl0 e => hV2 v0 ⟨by rw [hl0], by rw [e]; exact txt16_eq v0 hl0, fun j hj => lim16_ok v0 j⟩)
        have hal : Below w2.heap.size w2 (w2.alloc (.cells #[.int .u16 0, .slice none 0 0, .slice none 0 0] 27)) := (Below.refl _ _).alloc (Nat.le_refl _) _
        have hbel3 := hbel2.trans (hal.mono (by omega))
        clear hV2 hno
        go_wp2_with (first
          | (refine wpList_store_new rfl 27 _ _ rfl w2 _ _ rfl _ rfl rfl (by kernel_rfl) rfl (by simp [Value.oneCell']) ?_)
          | fail)
        go_roundw
        case rel => exact ⟨1 + 1, by omega, by go_num, HNO, hbel3⟩
        case measure => simp [intOf]
end Go.Proofs.YtemeeeiglifpaaaDoor

/- Layer 9: Types at a list of one address of 4 bytes. It writes nothing that was there. -/


namespace Go.Proofs.YtemeeeiglifpaaaDoor
open Go.RowKit Go.Shelf

set_option maxRecDepth 100000 in
set_option maxHeartbeats 4000000 in
theorem idx1_yes (t : UInt16) (s x y : Nat) (m : ByteArray) (n : Nd) (g : Nat) (A : Option Addr) (c : Nat) (K : Option Addr) (k : Nat) (w : World) (hs : s ≤ 16) (hl : n.v.length ≤ 9223372036854775807) (hk : n.ks.length ≤ 9223372036854775807)
    (hg : Whole w g 27 #[hv n.t, .slice A n.v.length c, .slice K n.ks.length k]) (hb : fitA t s n = true) :
    Calls Tryd.prog 50 #[.slice (some ⟨g, 0, none⟩) 1 1, .func (.func 36) #[ntV t s x y m] #[]] w fun e w' => e = .returned (.int .i64 (0)) ∧ Below w.heap.size w w' := by
  have hF := fun W => fits_nt t s x y m n A c K k W hs hl hk
  rw [hb] at hF
  unfold ndV at hF
  clear hb
  go_enter Tryd.func50, Tryd.ntmps50
  go_wp2_with fail
  go_loopw [8] (fun i wr => ∃ q : Nat, q ≤ 0 ∧ i = .int .i64 q ∧ Below w.heap.size w wr) (fun i _ => 1 - (intOf i).toNat)
  case atStart => exact ⟨0, by omega, rfl, Below.refl _ _⟩
  case round =>
    obtain ⟨q, hq, rfl, hbel⟩ := hrel
    match q, hq with
    | 0, _ =>
      have hg1 := hg.below hbel hg.lt
      go_wp2_with (first | (refine wpList_load_row rfl 27 _ rfl g rfl _ _ (0, 0) _ hg1 Tryd.underlying27 rfl (by kernel_rfl) ?_) | fail)
      refine (hF _).mono ?_
      rintro e w2 ⟨rfl, b2⟩
      go_wp2_with fail
      go_ret
      exact ⟨rfl, hbel.trans (b2.mono hbel.size)⟩
set_option maxRecDepth 100000 in
set_option maxHeartbeats 4000000 in
theorem idx1_no (t : UInt16) (s x y : Nat) (m : ByteArray) (n : Nd) (g : Nat) (A : Option Addr) (c : Nat) (K : Option Addr) (k : Nat) (w : World) (hs : s ≤ 16) (hl : n.v.length ≤ 9223372036854775807) (hk : n.ks.length ≤ 9223372036854775807)
    (hg : Whole w g 27 #[hv n.t, .slice A n.v.length c, .slice K n.ks.length k]) (hb : fitA t s n = false) :
    Calls Tryd.prog 50 #[.slice (some ⟨g, 0, none⟩) 1 1, .func (.func 36) #[ntV t s x y m] #[]] w fun e w' => e = .returned (.int .i64 (-1)) ∧ Below w.heap.size w w' := by
  have hF := fun W => fits_nt t s x y m n A c K k W hs hl hk
  rw [hb] at hF
  unfold ndV at hF
  clear hb
  go_enter Tryd.func50, Tryd.ntmps50
  go_wp2_with fail
  go_loopw [8] (fun i wr => ∃ q : Nat, q ≤ 1 ∧ i = .int .i64 q ∧ Below w.heap.size w wr) (fun i _ => 1 - (intOf i).toNat)
  case atStart => exact ⟨0, by omega, rfl, Below.refl _ _⟩
  case round =>
    obtain ⟨q, hq, rfl, hbel⟩ := hrel
    match q, hq with
    | 0, _ =>
      have hg1 := hg.below hbel hg.lt
      go_wp2_with (first | (refine wpList_load_row rfl 27 _ rfl g rfl _ _ (0, 0) _ hg1 Tryd.underlying27 rfl (by kernel_rfl) ?_) | fail)
      refine (hF _).mono ?_
      rintro e w2 ⟨rfl, b2⟩
      go_wp2_with fail
      go_roundw
      case rel => exact ⟨1, by omega, by go_num, hbel.trans (b2.mono hbel.size)⟩
      case measure => simp [intOf]
    | 1, _ =>
      go_wp2_with fail
      go_ret
      exact ⟨rfl, hbel⟩
set_option maxRecDepth 100000 in
theorem has1_any (t : UInt16) (s x y : Nat) (m : ByteArray) (n : Nd) (g : Nat) (A : Option Addr) (c : Nat) (K : Option Addr) (k : Nat) (w : World) (hs : s ≤ 16) (hl : n.v.length ≤ 9223372036854775807) (hk : n.ks.length ≤ 9223372036854775807)
    (hg : Whole w g 27 #[hv n.t, .slice A n.v.length c, .slice K n.ks.length k]) (b : Bool) (hb : fitA t s n = b) :
    Calls Tryd.prog 35 #[.slice (some ⟨g, 0, none⟩) 1 1, .func (.func 36) #[ntV t s x y m] #[]] w fun e w' => e = .returned (.bool b) ∧ Below w.heap.size w w' := by
  cases b
  all_goals
    first | have hI := idx1_no t s x y m n g A c K k w hs hl hk hg hb | have hI := idx1_yes t s x y m n g A c K k w hs hl hk hg hb
    go_enter Tryd.func35, Tryd.ntmps35
    go_wp2_with fail
    refine hI.mono ?_
    rintro e w2 ⟨rfl, b2⟩
    go_wp2_with fail
    go_ret
    exact ⟨rfl, b2⟩
attribute [local go_sem, local simp] idx_nt0 idx_nt1
theorem whole_row_neW {W : World} {g : Nat} {t e : TypeId} {cs : Array Value} (h : Whole W g t cs) (hte : t ≠ e) {base size n : Nat} {v : Value} {xs : List Value} (hr : W.ownsRow base e size v n xs) : v.ownBlock ≠ some g := by
  rcases hr.2 with ⟨rfl, _⟩ | ⟨q, cap, cur, rfl, _, hq, _⟩
  · simp [Value.ownBlock]
  · intro he
    simp only [Value.ownBlock, Option.some.injEq] at he
    subst he
    unfold Whole at h
    rw [h] at hq
    simp only [Option.some.injEq, Obj.cells.injEq] at hq
    exact hte hq.2.1
theorem lies_new2W (w : World) (o : Obj) (u : Value) (t : TypeId) : Lies ((w.alloc o).alloc (.cells #[u] t)) (w.heap.size + 1 + 1) (some ⟨w.heap.size + 1, 0, none⟩) [u] := by
  have := Lies.new1 (w.alloc o) u t
  rwa [World.size_alloc] at this
theorem own_atW {w : World} {base e n c : Nat} {A : Option Addr} {xs : List Value} (h : w.ownsRow base e 1 (.slice A n c) n xs) (hn : 0 < n) : ∃ g, A = some ⟨g, 0, none⟩ ∧ base ≤ g ∧ g < w.heap.size := by
  rcases h.2 with ⟨_, h2⟩ | ⟨g, cap, cur, h1, h2, h3, _⟩
  · omega
  · simp only [Value.slice.injEq] at h1
    exact ⟨g, h1.1, h2, (Array.getElem?_eq_some_iff.1 h3).1⟩
set_option maxRecDepth 100000 in
set_option maxHeartbeats 8000000 in
theorem types1_any (v : List UInt8) (hv4 : v.length = 4) (g : Nat) (A : Option Addr) (c : Nat) (w : World) (hT : Tbl w)
    (hg : Whole w g 27 #[.int .u16 5, .slice A 4 c, .slice none 0 0]) :
    Calls Tryd.prog 18 #[.slice (some ⟨g, 0, none⟩) 1 1] w fun e w' => ∃ A' c', e = .returned (.agg #[.int .u16 12, .slice A' 2 c', .slice none 0 0]) ∧ Lies w' w'.heap.size A' ([0, 5].map bv) ∧ Below w.heap.size w w' := by
  have b0 : Below w.heap.size w (w.alloc (.cells #[.int .u16 0, .slice none 0 0, .slice none 0 0] 27)) := (Below.refl _ w).alloc (Nat.le_refl _) _
  have x1 := Whole.new w 27 #[.int .u16 0, .slice none 0 0, .slice none 0 0]
  have hg0 := hg.alloc (.cells #[.int .u16 0, .slice none 0 0, .slice none 0 0] 27)
  have hgl := hg.lt
  have U0 := hT 0 _ rfl
  have U1 := hT 1 _ rfl
  have U2 := hT 2 _ rfl
  have U3 := hT 3 _ rfl
  have U4 := hT 4 _ rfl
  have U5 := hT 5 _ rfl
  have U6 := hT 6 _ rfl
  have U7 := hT 7 _ rfl
  have U8 := hT 8 _ rfl
  have U9 := hT 9 _ rfl
  have hT0 := hT.lt
  have hH5 := fun W (h : Whole W g 27 #[.int .u16 5, .slice A 4 c, .slice none 0 0]) => has1_any 5 4 1 10 ⟨#[46]⟩ (.mk 5 v []) g A c none 0 W (by omega) (by show v.length ≤ _; omega) (by show (0 : Nat) ≤ _; omega) (by show Whole W g _ #[.int .u16 5, .slice A v.length c, .slice none 0 0]; rw [hv4]; exact h) true (by unfold fitA; simp [Nd.t, Nd.v, Nd.ks, hv4])
  have hH6 := fun W (h : Whole W g 27 #[.int .u16 5, .slice A 4 c, .slice none 0 0]) => has1_any 6 16 2 16 ⟨#[58]⟩ (.mk 5 v []) g A c none 0 W (by omega) (by show v.length ≤ _; omega) (by show (0 : Nat) ≤ _; omega) (by show Whole W g _ #[.int .u16 5, .slice A v.length c, .slice none 0 0]; rw [hv4]; exact h) false (by unfold fitA; simp [Nd.t, Nd.v, Nd.ks])
  have HB := Lib.hid b0
  clear b0 hT hg
  go_enter Tryd.func18, Tryd.ntmps18
  go_wp2_with fail
  generalize w.alloc (.cells #[.int .u16 0, .slice none 0 0, .slice none 0 0] 27) = w0 at *
  clear U0 U1 U2 U3 U4 U5 U6 U7 U8 U9 hT0
  go_loopw [3, 4, 8] (fun uv_ av iv wr => Below w0.heap.size w0 wr ∧ ((iv = .int .i64 0 ∧ uv_ = .slice none 0 0 ∧ av = .slice none 0 0) ∨
    ∃ (q gU cU : Nat) (AA : Option Addr) (cA : Nat), iv = .int .i64 q ∧ (q = 1 ∨ q = 2) ∧ uv_ = .slice (some ⟨gU, 0, none⟩) 1 cU ∧ av = .slice AA q cA ∧
      Hid (wr.ownsRow w0.heap.size 63 1 (.slice (some ⟨gU, 0, none⟩) 1 cU) 1 [.int .u32 5]) ∧ Hid (q = 1 → ∃ gA xs, AA = some ⟨gA, 0, none⟩ ∧ gU ≠ gA ∧ wr.ownsRow w0.heap.size 63 1 (.slice (some ⟨gA, 0, none⟩) q cA) q xs))) (fun _ _ iv _ => 2 - (intOf iv).toNat)
  case atStart => exact ⟨Below.refl _ _, .inl ⟨rfl, rfl, rfl⟩⟩
  case round =>
    obtain ⟨hbel, hcase⟩ := hrel
    have z1 := x1.below hbel (by have := x1.lt; omega)
    have hsr := hbel.size
    have hgr := hg0.below hbel hg0.lt
    rcases hcase with ⟨rfl, rfl, rfl⟩ | ⟨q, gU, cU, AA, cA, rfl, hq, rfl, rfl, hU, hA⟩
    · have r0 := (Whole.new wr 44 #[.int .u16 5, .int .i64 4, .int .i64 1, .int .i64 10, .string ⟨#[46]⟩]).cell 0
      simp only [List.getElem?_toArray, List.getElem?_cons_zero] at r0
      have ld := fun t h => heap_alloc_new wr (.cells #[.int .u16 5, .int .i64 4, .int .i64 1, .int .i64 10, .string ⟨#[46]⟩] t h)
      go_wp2_with (first
        | (refine wpList_new_nt rfl 44 _ _ rfl wr _ _ rfl rfl rfl (by kernel_rfl) rfl ?_)
        | (at_builtin; refine wpList_append_lies _ rfl (.tmp 11) (.tmp 15) 61 rfl w0.heap.size 63 _ 4 Tryd.underlying61 u32infoT rfl _ _ _ rfl (World.ownsRow_nil _ _ _ _) _ _ 1 1 [.int .u32 5] rfl rfl (lies_new2W _ _ _ _) (by intro u hu; rw [List.mem_singleton.1 hu]; rfl) (by omega) (by unfold maxLen; omega) (by simp; omega) ?_; intro A4 c4 w4 hown4 hgrow4z _; have hgrow4 : World.grownBy _ w4 none := hgrow4z; clear hgrow4z; have r4 := ((Whole.new wr 44 #[.int .u16 5, .int .i64 4, .int .i64 1, .int .i64 10, .string ⟨#[46]⟩]).alloc (.cells #[.int .u32 5] 63)).grown hgrow4 (fun e => by cases e))
        | (refine wpList_load_nt rfl 44 _ rfl wr.heap.size rfl _ r4 _ Tryd.underlying44 rfl (by kernel_rfl) ?_)
        | fail)
      obtain ⟨gA, rfl, hgA, hgA2⟩ := own_atW hown4 (by omega)
      have hg4 := (((hgr.alloc (.cells #[.int .u16 5, .int .i64 4, .int .i64 1, .int .i64 10, .string ⟨#[46]⟩] 44)).alloc (.cells #[.int .u32 5] 63))).grown hgrow4 (fun e => by cases e)
      have hb4 : Below w0.heap.size w0 w4 := ((hbel.alloc hsr (.cells #[.int .u16 5, .int .i64 4, .int .i64 1, .int .i64 10, .string ⟨#[46]⟩] 44)).alloc (by simp; omega) (.cells #[.int .u32 5] 63)).grown hgrow4 (by simp; omega) (fun q e => by cases e)
      refine (hH5 w4 hg4).mono ?_
      rintro e w5 ⟨rfl, b5⟩
      have hb5 := hb4.trans (b5.mono hb4.size)
      have hs5 := b5.size
      have r5 := (r4.below b5 r4.lt).cell 0
      simp only [List.getElem?_toArray, List.getElem?_cons_zero] at r5
      have hA5 : w5.ownsRow w0.heap.size 63 1 (.slice (some ⟨gA, 0, none⟩) 1 c4) 1 ([] ++ [.int .u32 5]) := hown4.kept (row := none) ⟨b5.os, b5.tape, b5.output, b5.size, fun q hq _ => b5.block q hq⟩ (Classical.em _)
      have hsz5 := hb5.size
      clear hgrow4 hown4 b5 r4 r0 ld hg4
      go_wp2_with (first
        | (at_builtin; refine wpList_append_lies _ rfl (.tmp 21) (.tmp 25) 61 rfl w5.heap.size 63 _ 4 Tryd.underlying61 u32infoT rfl _ _ _ rfl (World.ownsRow_nil _ _ _ _) _ _ 1 1 [.int .u32 5] rfl rfl (Lies.new1 _ _ _) (by intro u hu; rw [List.mem_singleton.1 hu]; rfl) (by omega) (by unfold maxLen; omega) (by simp) ?_; intro A6 c6 w6 hown6 hgrow6z _; have hgrow6 : World.grownBy _ w6 none := hgrow6z; clear hgrow6z)
        | fail)
      obtain ⟨gU, rfl, hgU, hgU2⟩ := own_atW hown6 (by omega)
      have hb6 : Below w0.heap.size w0 w6 := (hb5.alloc hsz5 (.cells #[.int .u32 5] 63)).grown hgrow6 (by simp; omega) (fun q e => by cases e)
      have hA6 : Hid (1 = 1 → ∃ gA' xs, (some ⟨gA, 0, none⟩ : Option Addr) = some ⟨gA', 0, none⟩ ∧ gU ≠ gA' ∧ w6.ownsRow w0.heap.size 63 1 (.slice (some ⟨gA', 0, none⟩) 1 c4) 1 xs) := fun _ => ⟨gA, _, rfl, by omega, (hA5.alloc (.cells #[.int .u32 5] 63)).kept hgrow6 (.inr (fun e => by cases e))⟩
      have hU6 := Lib.hid (own_base hown6 hsz5)
      clear hgrow6 hown6 hA5
      go_wp2_with fail
      go_roundw
      case rel => exact ⟨hb6, .inr ⟨1, gU, c6, _, c4, rfl, .inl rfl, rfl, rfl, hU6, hA6⟩⟩
      case measure => simp [intOf]
    · rcases hq with rfl | rfl
      · have r0 := (Whole.new wr 44 #[.int .u16 6, .int .i64 16, .int .i64 2, .int .i64 16, .string ⟨#[58]⟩]).cell 0
        simp only [List.getElem?_toArray, List.getElem?_cons_zero] at r0
        have ld := fun t h => heap_alloc_new wr (.cells #[.int .u16 6, .int .i64 16, .int .i64 2, .int .i64 16, .string ⟨#[58]⟩] t h)
        obtain ⟨gA, xs, rfl, hne, hA1⟩ := hA.out rfl
        go_wp2_with (first
          | (refine wpList_new_nt rfl 44 _ _ rfl wr _ _ rfl rfl rfl (by kernel_rfl) rfl ?_)
          | (at_builtin; refine wpList_append_lies _ rfl (.tmp 11) (.tmp 15) 61 rfl w0.heap.size 63 _ 4 Tryd.underlying61 u32infoT rfl _ _ _ rfl ((hA1.alloc _).alloc _) _ _ 1 1 [.int .u32 6] rfl rfl (lies_new2W _ _ _ _) (by intro u hu; rw [List.mem_singleton.1 hu]; rfl) (by omega) (by unfold maxLen; omega) (by simp; omega) ?_; intro A4 c4 w4 hown4 hgrow4 _; have r4 := ((Whole.new wr 44 #[.int .u16 6, .int .i64 16, .int .i64 2, .int .i64 16, .string ⟨#[58]⟩]).alloc (.cells #[.int .u32 6] 63)).grown hgrow4 (fun e => absurd (hA1.lt wr.heap.size e.symm).2 (Nat.lt_irrefl _)))
          | (refine wpList_load_nt rfl 44 _ rfl wr.heap.size rfl _ r4 _ Tryd.underlying44 rfl (by kernel_rfl) ?_)
          | fail)
        have hgrow4' : World.grownBy _ w4 (some gA) := hgrow4
        have hg4 := ((hgr.alloc (.cells #[.int .u16 6, .int .i64 16, .int .i64 2, .int .i64 16, .string ⟨#[58]⟩] 44)).alloc (.cells #[.int .u32 6] 63)).grown hgrow4' (fun e => whole_row_neW hgr (by decide) hA1 e.symm)
        have hb4 : Below w0.heap.size w0 w4 := ((hbel.alloc hsr (.cells #[.int .u16 6, .int .i64 16, .int .i64 2, .int .i64 16, .string ⟨#[58]⟩] 44)).alloc (by simp; omega) (.cells #[.int .u32 6] 63)).grown hgrow4' (by simp; omega) (fun q e => (hA1.lt q e).1)
        have hU4 := ((hU.out.alloc (.cells #[.int .u16 6, .int .i64 16, .int .i64 2, .int .i64 16, .string ⟨#[58]⟩] 44)).alloc (.cells #[.int .u32 6] 63)).kept hgrow4' (.inr (fun e => hne (Option.some.inj e)))
        refine (hH6 w4 hg4).mono ?_
        rintro e w5 ⟨rfl, b5⟩
        have hb5 := hb4.trans (b5.mono hb4.size)
        have hU5 : Hid (w5.ownsRow w0.heap.size 63 1 (.slice (some ⟨gU, 0, none⟩) 1 cU) 1 [.int .u32 5]) := hU4.kept (row := none) ⟨b5.os, b5.tape, b5.output, b5.size, fun q hq _ => b5.block q hq⟩ (Classical.em _)
        clear hgrow4 hgrow4' hown4 hg4 hb4 hU4 b5 r4 r0 ld
        go_wp2_with fail
        go_roundw
        case rel => exact ⟨hb5, .inr ⟨2, gU, cU, _, _, rfl, .inr rfl, rfl, rfl, hU5, fun h => absurd h (by omega)⟩⟩
        case measure => simp [intOf]
      · have hlies := Lies.own hU.out
        have hP := put_any 2 (.inr (.inl rfl)) (some ⟨gU, 0, none⟩) cU [5] wr hlies (by simp)
        have hbw := HB.out.trans (hbel.mono HB.out.size)
        clear hlies hA
        go_wp2_with fail
        refine hP.mono ?_
        rintro e w5 ⟨A', c', rfl, own5, b5⟩
        have z5 := z1.below b5 z1.lt
        have hb5 := hbw.trans (b5.mono hbw.size)
        have HL5 : Hid (Lies w5 w5.heap.size A' ([0, 5].map bv)) := Lies.own own5
        have hgn : ∀ ad, A' = some ad → ad.block ≠ w.heap.size := fun ad e => by subst e; have := (own5.lt ad.block rfl).1; have := z1.lt; omega
        have HGN := Lib.hid hgn
        clear own5 b5 hgn
        go_wp2_with (first | (refine wpList_store_row rfl 27 _ _ rfl w.heap.size #[.int .u16 12, .slice A' 2 c', .slice none 0 0] rfl rfl _ _ z5 (by kernel_rfl) rfl (by simp [Value.oneCell']) ?_) | fail)
        (try simp only [Exit.inBlock, Exit.then])
        refine bodyPost_ret (results_cell_row rfl _ _ w.heap.size 27 _ (0, 0) _ rfl (z5.setRow _) Tryd.underlying27 rfl (by kernel_rfl)) rfl ?_
        exact ⟨A', c', rfl, by rw [setRow_size]; exact HL5.out.keepC fun ad e => setRow_other _ _ _ _ (HGN.out ad e), below_setRow hb5 (Nat.le_refl _) _⟩
end Go.Proofs.YtemeeeiglifpaaaDoor

