/- Layer 8: whether a node is right (check), for whatever node. It writes nothing that was there. -/
import Derived.Test.YthkbcpbgoefanaaGreatDoorQNodeAD
import Derived.Test.YthkbcpbgoefanaaGreatDoorQE


namespace Go.Proofs.YthkbcpbgoefanaaGreatDoor
open Go.RowKit

/-- the first number that is not 0; 0, if there is none -/
def fst0 (l : List Nat) : Nat := (l.find? (· ≠ 0)).getD 0
theorem fst0_at {l : List Nat} {k x : Nat} (h : l[k]? = some x) (hx : x ≠ 0) (hp : ∀ (j y : Nat), j < k → l[j]? = some y → y = 0) : fst0 l = x := by
  unfold fst0
  have : l.find? (· ≠ 0) = some x := by
    rw [List.find?_eq_some_iff_getElem]
    obtain ⟨hk, rfl⟩ := List.getElem?_eq_some_iff.1 h
    refine ⟨by simpa using hx, k, hk, rfl, fun j hj => ?_⟩
    have := hp j _ hj (List.getElem?_eq_getElem (by omega))
    simpa using this
  rw [this]
  rfl
theorem fst0_none {l : List Nat} (hp : ∀ (j y : Nat), j < l.length → l[j]? = some y → y = 0) : fst0 l = 0 := by
  unfold fst0
  have : l.find? (· ≠ 0) = none := by
    rw [List.find?_eq_none]
    intro x hx
    obtain ⟨j, hj, rfl⟩ := List.getElem_of_mem hx
    have := hp j _ hj (List.getElem?_eq_getElem hj)
    simpa using this
  rw [this]
  rfl
/-- does the number of bytes fit, if the type is known? -/
def fitK (c : Int) (t : UInt16) (n : Nat) : Bool := match look (tab c) t with | some f => fitsB f (n : Int) | none => true
/-- the code of a node's error at a depth (f: how much deeper it may be), 0 if it is right -/
def chk : Nat → Int → Nd → Nat
  | 0, _, _ => 9
  | f + 1, c, n =>
    if fitK c n.t n.v.length = false ∨ insB (formOf c n.t).ki n.ks = false then 7
    else if cntB c n.t n.v = false then 8
    else if fst0 (n.ks.map (chk f (ins (formOf c n.t).ki).1)) ≠ 0 then fst0 (n.ks.map (chk f (ins (formOf c n.t).ki).1))
    else if 65531 < n.vlen then 4 else 0
def codeE (c : Nat) : Value := if c = 0 then .nilIface else codeV (c : Int)

def CheckOK (f : Nat) : Prop := ∀ (c : Int) (n : Nd) (d : Nat) (A : Option Addr) (cc : Nat) (K : Option Addr) (kk : Nat) (w : World), d + f = 5 → Node w w.heap.size A cc K kk n → Fine n →
  Calls Tryz.prog 134 #[.int .i64 c, ndV n A cc K kk, .int .i64 (d : Int)] w fun e w' => e = .returned (codeE (chk f c n)) ∧ Below w.heap.size w w'

set_option maxRecDepth 100000 in
theorem check_zero : CheckOK 0 := by
  intro c n d A cc K kk w hd hN hf
  obtain rfl : d = 5 := by omega
  have hO := of_any c n.t
  simp only [ofV_eq] at hO
  have HR : Hid (∀ u, u = codeV 9 → Ending.returned u = .returned (codeE (chk 0 c n))) := fun u hu => by rw [hu]; rfl
  generalize (look (tab c) n.t).getD zeroF = F at *
  generalize (look (tab c) n.t).isSome = kn at *
  unfold Form.val at hO
  unfold ndV
  go_enter Tryz.func134, Tryz.ntmps134
  go_wp2_with fail
  refine (hO _).mono ?_
  rintro e w1 ⟨rfl, b1⟩
  go_wp2_with (refine wpList_new_form rfl 206 _ _ rfl w1 _ _ rfl rfl rfl (by kernel_rfl) rfl ?_)
  go_ret
  exact ⟨HR.out _ rfl, (((Below.refl _ w).alloc (Nat.le_refl _) _).trans (b1.mono (by simp))).alloc (by have := b1.size; simp at this; omega) _⟩

theorem sizes_one (x : Nat) : sizes [x] = x := by simp [sizes, up, gap]
/-- the cells of the form's variable -/
theorem form_cells {w : World} {g : Nat} {F : Form} (h : Whole w g 206 #[.int .i64 F.cl, hv F.ty, .string F.nm, .int .i64 F.lo, .int .i64 F.hi, .int .i64 F.un, .int .i64 F.ki]) :
    Hid (∀ (j : Nat) (u : Value), F.cells[j]? = some u → w.cell? ((⟨g, 0, none⟩ : Addr).add j) = some u) := fun j u hu => by
  rw [add_row, h.cell]
  simpa [Form.cells] using hu
/-- the two variables of a check: the node and its form -/
structure Box2 (W : World) (g0 g1 : Nat) (n : Nd) (A : Option Addr) (cc : Nat) (K : Option Addr) (kk : Nat) (F : Form) : Prop where
  nd : Whole W g0 50 #[hv n.t, .slice A n.v.length cc, .slice K n.ks.length kk]
  fo : Whole W g1 206 #[.int .i64 F.cl, hv F.ty, .string F.nm, .int .i64 F.lo, .int .i64 F.hi, .int .i64 F.un, .int .i64 F.ki]
section
variable {W W' : World} {g0 g1 : Nat} {n : Nd} {A : Option Addr} {cc : Nat} {K : Option Addr} {kk : Nat} {F : Form}
theorem Box2.below (h : Box2 W g0 g1 n A cc K kk F) (hb : Below W.heap.size W W') : Box2 W' g0 g1 n A cc K kk F := ⟨h.nd.below hb h.nd.lt, h.fo.below hb h.fo.lt⟩
theorem Box2.c0 (h : Box2 W g0 g1 n A cc K kk F) : W.cell? ⟨g0, 0, none⟩ = some (hv n.t) := by rw [h.nd.cell]; rfl
theorem Box2.c1 (h : Box2 W g0 g1 n A cc K kk F) : W.cell? ⟨g0, 1, none⟩ = some (.slice A n.v.length cc) := by rw [h.nd.cell]; rfl
theorem Box2.c2 (h : Box2 W g0 g1 n A cc K kk F) : W.cell? ⟨g0, 2, none⟩ = some (.slice K n.ks.length kk) := by rw [h.nd.cell]; rfl
theorem Box2.k0 (h : Box2 W g0 g1 n A cc K kk F) : W.cell? ⟨g1, 0, none⟩ = some (.int .i64 F.cl) := by rw [h.fo.cell]; rfl
theorem Box2.k1 (h : Box2 W g0 g1 n A cc K kk F) : W.cell? ⟨g1, 1, none⟩ = some (hv F.ty) := by rw [h.fo.cell]; rfl
theorem Box2.k2 (h : Box2 W g0 g1 n A cc K kk F) : W.cell? ⟨g1, 2, none⟩ = some (.string F.nm) := by rw [h.fo.cell]; rfl
theorem Box2.k4 (h : Box2 W g0 g1 n A cc K kk F) : W.cell? ⟨g1, 4, none⟩ = some (.int .i64 F.hi) := by rw [h.fo.cell]; rfl
theorem Box2.k5 (h : Box2 W g0 g1 n A cc K kk F) : W.cell? ⟨g1, 5, none⟩ = some (.int .i64 F.un) := by rw [h.fo.cell]; rfl
theorem Box2.k3 (h : Box2 W g0 g1 n A cc K kk F) : W.cell? ⟨g1, 3, none⟩ = some (.int .i64 F.lo) := by rw [h.fo.cell]; rfl
theorem Box2.k6 (h : Box2 W g0 g1 n A cc K kk F) : W.cell? ⟨g1, 6, none⟩ = some (.int .i64 F.ki) := by rw [h.fo.cell]; rfl
theorem Box2.form (h : Box2 W g0 g1 n A cc K kk F) : Hid (∀ (j : Nat) (u : Value), F.cells[j]? = some u → W.cell? ((⟨g1, 0, none⟩ : Addr).add j) = some u) := form_cells h.fo
end

set_option maxRecDepth 100000 in
set_option maxHeartbeats 4000000 in
theorem check_succ (f : Nat) (ih : CheckOK f) : CheckOK (f + 1) := by
  intro c n d A cc K kk w hd hN hf
  have hd4 : (d : Int) ≤ 4 := by omega
  have hvl := hf.vl
  have hve := n.vlen_eq
  have hkl := hf.kl
  have hO := of_any c n.t
  simp only [ofV_eq] at hO
  have hNb := fun W (hW : Below w.heap.size w W) => hN.on (w' := W) hW
  have hIn := inside_any (formOf c n.t).ki
  have hH := fun W (hW : Below w.heap.size w W) => hasInside_any (formOf c n.t) K kk n.ks W (hNb W hW).kids (by omega)
  have hC := fun W (hW : Below w.heap.size w W) => counted_any c n.t A cc n.v W (hNb W hW).data hN.dc hN.dm (by omega)
  have hFit : ∀ F, look (tab c) n.t = some F → ∀ W, Calls Tryz.prog 152 #[F.val, .int .i64 (n.v.length : Int)] W fun e w' => e = .returned (.bool (fitsB F (n.v.length : Int))) ∧ Below W.heap.size W w' := fun F hF W => fits_any F (tame_tab (look_mem hF)) _ W
  have HCH : Hid (chk (f + 1) c n = if fitK c n.t n.v.length = false ∨ insB (formOf c n.t).ki n.ks = false then 7
    else if cntB c n.t n.v = false then 8
    else if fst0 (n.ks.map (chk f (ins (formOf c n.t).ki).1)) ≠ 0 then fst0 (n.ks.map (chk f (ins (formOf c n.t).ki).1))
    else if 65531 < n.vlen then 4 else 0) := rfl
  have HK := Lib.hid ih
  have HF := Lib.hid hf
  have HV := Lib.hid hve
  have HNb := Lib.hid hNb
  have HNK := Lib.hid hN.kids
  have HN := Lib.hid hN
  clear ih hf hve hN hNb
  generalize hcode : chk (f + 1) c n = code at *
  clear hcode
  rw [show (look (tab c) n.t).getD zeroF = formOf c n.t from rfl] at hO
  have b0 : Below w.heap.size w (w.alloc (.cells #[hv n.t, .slice A n.v.length cc, .slice K n.ks.length kk] 50)) := (Below.refl _ _).alloc (Nat.le_refl _) _
  have hW0 := Whole.new w 50 #[hv n.t, .slice A n.v.length cc, .slice K n.ks.length kk]
  cases hl : look (tab c) n.t with
  | none =>
    have hfk : fitK c n.t n.v.length = true := by unfold fitK; rw [hl]
    rw [hl] at hO
    simp only [Option.isSome_none] at hO
    clear hFit hl
    generalize formOf c n.t = F at *
    unfold Form.val at hO
    unfold ndV
    cases hib : insB F.ki n.ks with
    | false =>
      rw [hib] at hH
      have hc7 : code = 7 := by rw [HCH.out, if_pos (.inr hib)]
      have HR : Hid (Ending.returned (codeV 7) = .returned (codeE code)) := by rw [hc7]; rfl
      clear hfk hib hc7 HCH
      unfold Form.val at hH
      go_enter Tryz.func134, Tryz.ntmps134
      go_wp2_with fail
      refine (hO _).mono ?_
      rintro e w1 ⟨rfl, b1⟩
      have hb1 := b0.trans (b1.mono (by simp))
      have hB1 : Box2 (w1.alloc (.cells #[.int .i64 F.cl, hv F.ty, .string F.nm, .int .i64 F.lo, .int .i64 F.hi, .int .i64 F.un, .int .i64 F.ki] 206)) w.heap.size w1.heap.size n A cc K kk F := ⟨(hW0.below b1 (by simp)).alloc _, Whole.new _ _ _⟩
      have HG1 := hB1.form
      have z1 := hB1.c1
      have z2 := hB1.c2
      have b1' := hb1.alloc hb1.size (.cells #[.int .i64 F.cl, hv F.ty, .string F.nm, .int .i64 F.lo, .int .i64 F.hi, .int .i64 F.un, .int .i64 F.ki] 206)
      go_wp2_with (first | (refine wpList_new_form rfl 206 _ _ rfl w1 _ _ rfl rfl rfl (by kernel_rfl) rfl ?_) | (refine wpList_load_form rfl 206 _ rfl ⟨w1.heap.size, 0, none⟩ rfl F HG1 _ Tryz.underlying206 rfl (by kernel_rfl) ?_))
      have hB2 := hB1
      have hb2 := b1'
      refine (hH _ hb2).mono ?_
      rintro e w3 ⟨rfl, b3⟩
      have hB3 := hB2.below b3
      have hb3 := hb2.trans (b3.mono hb2.size)
      have x0 := hB3.c0
      have x1 := hB3.c1
      go_wp2_with fail
      go_ret
      exact ⟨HR.out, hb3⟩
    | true =>
      rw [hib] at hH
      cases hcb : cntB c n.t n.v with
      | false =>
        rw [hcb] at hC
        have hc8 : code = 8 := by rw [HCH.out, if_neg (by rw [hfk, hib]; simp), if_pos hcb]
        have HR : Hid (Ending.returned (codeV 8) = .returned (codeE code)) := by rw [hc8]; rfl
        clear hfk hib hcb hc8 HCH
        unfold Form.val at hH
        go_enter Tryz.func134, Tryz.ntmps134
        go_wp2_with fail
        refine (hO _).mono ?_
        rintro e w1 ⟨rfl, b1⟩
        have hb1 := b0.trans (b1.mono (by simp))
        have hB1 : Box2 (w1.alloc (.cells #[.int .i64 F.cl, hv F.ty, .string F.nm, .int .i64 F.lo, .int .i64 F.hi, .int .i64 F.un, .int .i64 F.ki] 206)) w.heap.size w1.heap.size n A cc K kk F := ⟨(hW0.below b1 (by simp)).alloc _, Whole.new _ _ _⟩
        have HG1 := hB1.form
        have z1 := hB1.c1
        have z2 := hB1.c2
        have b1' := hb1.alloc hb1.size (.cells #[.int .i64 F.cl, hv F.ty, .string F.nm, .int .i64 F.lo, .int .i64 F.hi, .int .i64 F.un, .int .i64 F.ki] 206)
        go_wp2_with (first | (refine wpList_new_form rfl 206 _ _ rfl w1 _ _ rfl rfl rfl (by kernel_rfl) rfl ?_) | (refine wpList_load_form rfl 206 _ rfl ⟨w1.heap.size, 0, none⟩ rfl F HG1 _ Tryz.underlying206 rfl (by kernel_rfl) ?_))
        have hB2 := hB1
        have hb2 := b1'
        refine (hH _ hb2).mono ?_
        rintro e w3 ⟨rfl, b3⟩
        have hB3 := hB2.below b3
        have hb3 := hb2.trans (b3.mono hb2.size)
        have x0 := hB3.c0
        have x1 := hB3.c1
        go_wp2_with fail
        refine (hC _ hb3).mono ?_
        rintro e w4 ⟨rfl, b4⟩
        go_wp2_with fail
        go_ret
        exact ⟨HR.out, hb3.trans (b4.mono hb3.size)⟩
      | true =>
        rw [hcb] at hC
        have hcc := HCH.out
        rw [if_neg (by rw [hfk, hib]; simp), if_neg (by rw [hcb]; simp)] at hcc
        have HCC := Lib.hid hcc
        clear hfk hib hcb HCH hcc
        unfold Form.val at hH
        go_enter Tryz.func134, Tryz.ntmps134
        go_wp2_with fail
        refine (hO _).mono ?_
        rintro e w1 ⟨rfl, b1⟩
        have hb1 := b0.trans (b1.mono (by simp))
        have hB1 : Box2 (w1.alloc (.cells #[.int .i64 F.cl, hv F.ty, .string F.nm, .int .i64 F.lo, .int .i64 F.hi, .int .i64 F.un, .int .i64 F.ki] 206)) w.heap.size w1.heap.size n A cc K kk F := ⟨(hW0.below b1 (by simp)).alloc _, Whole.new _ _ _⟩
        have HG1 := hB1.form
        have z1 := hB1.c1
        have z2 := hB1.c2
        have b1' := hb1.alloc hb1.size (.cells #[.int .i64 F.cl, hv F.ty, .string F.nm, .int .i64 F.lo, .int .i64 F.hi, .int .i64 F.un, .int .i64 F.ki] 206)
        go_wp2_with (first | (refine wpList_new_form rfl 206 _ _ rfl w1 _ _ rfl rfl rfl (by kernel_rfl) rfl ?_) | (refine wpList_load_form rfl 206 _ rfl ⟨w1.heap.size, 0, none⟩ rfl F HG1 _ Tryz.underlying206 rfl (by kernel_rfl) ?_))
        have hB2 := hB1
        have hb2 := b1'
        refine (hH _ hb2).mono ?_
        rintro e w3 ⟨rfl, b3⟩
        have hB3 := hB2.below b3
        have hb3 := hb2.trans (b3.mono hb2.size)
        have x0 := hB3.c0
        have x1 := hB3.c1
        go_wp2_with fail
        refine (hC _ hb3).mono ?_
        rintro e w4 ⟨rfl, b4⟩
        have hB4 := hB3.below b4
        have hb4 := hb3.trans (b4.mono hb3.size)
        have v2 := hB4.c2
        have v6 := hB4.k6
        generalize (ins F.ki).1 = c1 at *
        go_wp2_with fail
        refine (hIn _).mono ?_
        rintro e w5 ⟨rfl, rfl⟩
        clear x0 x1 z1 z2
        go_wp2_with fail
        go_loopw [63] (fun i wr => ∃ k : Nat, k ≤ n.ks.length ∧ i = .int .i64 k ∧ Hid (∀ (j y : Nat), j < k → (n.ks.map (chk f c1))[j]? = some y → y = 0) ∧ Below w4.heap.size w4 wr) (fun i _ => n.ks.length - (intOf i).toNat)
        case atStart => exact ⟨0, Nat.zero_le _, rfl, fun j y hj _ => by omega, Below.refl _ _⟩
        case round =>
          obtain ⟨k, hk, rfl, hz, hbel⟩ := hrel
          have hbw := hb4.trans (hbel.mono hb4.size)
          have hBr := hB4.below hbel
          by_cases hlt : k < n.ks.length
          · obtain ⟨ad, A', c', K', k', m, rfl, hb, hm, hc0, hc1, hc2, hM⟩ := (HNK.out.bel hbw).at_ hlt
            have hb0' : Below wr.heap.size wr (wr.alloc (.cells #[hv m.t, .slice A' m.v.length c', .slice K' m.ks.length k'] 50)) := (Below.refl _ _).alloc (Nat.le_refl _) _
            have hS := HK.out c1 m (d + 1) A' c' K' k' _ (by omega) ((hM.more hbw.size).on hb0') (HF.out.kid m (List.mem_of_getElem? hm.out))
            have HX : Hid ((n.ks.map (chk f c1))[k]? = some (chk f c1 m)) := by rw [Hid, List.getElem?_map, hm.out]; rfl
            rw [Int.natCast_add] at hS
            generalize chk f c1 m = x at *
            unfold ndV at hS
            have hd1 : (d : Int) + 1 ≤ 5 := by omega
            by_cases hx : x = 0
            · have HZ : Hid (∀ (j y : Nat), j < k + 1 → (n.ks.map (chk f c1))[j]? = some y → y = 0) := fun j y hj hy => by
                by_cases hjk : j = k
                · subst hjk
                  rw [HX.out] at hy
                  cases hy
                  exact hx
                · exact hz.out j y (by omega) hy
              subst hx
              have hS' := hS.mono (R' := fun e w' => e = .returned .nilIface ∧ Below (wr.alloc (.cells #[hv m.t, .slice A' m.v.length c', .slice K' m.ks.length k'] 50)).heap.size (wr.alloc (.cells #[hv m.t, .slice A' m.v.length c', .slice K' m.ks.length k'] 50)) w') (fun e w' h => h)
              clear hS
              go_wp2_with fail
              refine hS'.mono ?_
              rintro e w6 ⟨rfl, b6⟩
              go_wp2_with fail
              go_roundw
              case rel => exact ⟨k + 1, by omega, by go_num, HZ, hbel.trans ((hb0'.trans (b6.mono (by simp))).mono hbel.size)⟩
              case measure => simp [intOf]; omega
            · have hxc : code = x := by
                rw [HCC.out, fst0_at HX.out hx hz.out, if_pos hx]
              have HR := Lib.hid (show Ending.returned (codeV x) = .returned (codeE code) by rw [hxc]; unfold codeE; rw [if_neg hx])
              have hS' := hS.mono (R' := fun e w' => e = .returned (codeV x) ∧ Below (wr.alloc (.cells #[hv m.t, .slice A' m.v.length c', .slice K' m.ks.length k'] 50)).heap.size (wr.alloc (.cells #[hv m.t, .slice A' m.v.length c', .slice K' m.ks.length k'] 50)) w') (fun e w' h => by unfold codeE at h; rwa [if_neg hx] at h)
              clear hS hx hxc
              unfold codeV at hS' HR
              go_wp2_with fail
              refine hS'.mono ?_
              rintro e w6 ⟨rfl, b6⟩
              go_wp2_with fail
              go_ret
              exact ⟨HR.out, hbw.trans ((hb0'.trans (b6.mono (by simp))).mono hbw.size)⟩
          · obtain rfl : k = n.ks.length := by omega
            have hcc := HCC.out
            rw [fst0_none (by intro j y hj hy; exact hz.out j y (by simpa using hj) hy), if_neg (by simp)] at hcc
            have hb0' : Below wr.heap.size wr (wr.alloc (.cells #[hv n.t, .slice A n.v.length cc, .slice K n.ks.length kk] 50)) := (Below.refl _ _).alloc (Nat.le_refl _) _
            have hL1 := ((HNb.out _ hbw).list1 50)
            have hS := nsize_any [n] (some ⟨wr.heap.size, 0, none⟩) 1 (wr.alloc (.cells #[hv n.t, .slice A n.v.length cc, .slice K n.ks.length kk] 50)) (hL1.more (by simp)) (by simp) (by intro m hm; rw [List.mem_singleton.1 hm]; exact HF.out)
            have e1 : sizes (lens [n]) = 4 + n.vlen := by rw [lens, lens, sizes_one]
            rw [e1] at hS
            have hS' := hS.mono (R' := fun e w' => e = .returned (.int .i64 ((4 + n.vlen : Nat) : Int)) ∧ Below wr.heap.size wr w') (fun e w' h => ⟨h.1, hb0'.trans (h.2.mono (by simp))⟩)
            have r0 := hBr.c0
            have r1 := hBr.c1
            have r2 := hBr.c2
            simp only [List.length_singleton] at hS'
            clear hS e1 v2 v6 hL1
            by_cases hv4 : 65531 < n.vlen
            · rw [if_pos hv4] at hcc
              have HR : Hid (Ending.returned (codeV 4) = .returned (codeE code)) := by rw [hcc]; rfl
              have hi4 : (65535 : Int) < ((4 + n.vlen : Nat) : Int) := by omega
              clear hcc
              generalize 4 + n.vlen = y at *
              go_wp2_with fail
              refine hS'.mono ?_
              rintro e w6 ⟨rfl, b6⟩
              go_wp2_with fail
              go_ret
              exact ⟨HR.out, hbw.trans (b6.mono hbw.size)⟩
            · rw [if_neg hv4] at hcc
              have HR : Hid (Ending.returned .nilIface = .returned (codeE code)) := by rw [hcc]; rfl
              have hi4 : ¬ (65535 : Int) < ((4 + n.vlen : Nat) : Int) := by omega
              clear hcc
              generalize 4 + n.vlen = y at *
              go_wp2_with fail
              refine hS'.mono ?_
              rintro e w6 ⟨rfl, b6⟩
              go_wp2_with fail
              go_ret
              exact ⟨HR.out, hbw.trans (b6.mono hbw.size)⟩
  | some F =>
    have hF0 := formOf_some hl
    rw [hF0] at hO hIn hH HCH
    have hfk : fitK c n.t n.v.length = fitsB F (n.v.length : Int) := by unfold fitK; rw [hl]
    rw [hl] at hO
    simp only [Option.isSome_some] at hO
    have hFt := hFit F hl
    clear hFit hl hF0
    unfold Form.val at hO hFt
    unfold ndV
    cases hfb : fitsB F (n.v.length : Int) with
    | false =>
      rw [hfb] at hfk hFt
      have hc7 : code = 7 := by rw [HCH.out, if_pos (.inl hfk)]
      have HR : Hid (Ending.returned (codeV 7) = .returned (codeE code)) := by rw [hc7]; rfl
      clear hfk hfb hc7 HCH
      go_enter Tryz.func134, Tryz.ntmps134
      go_wp2_with fail
      refine (hO _).mono ?_
      rintro e w1 ⟨rfl, b1⟩
      have hb1 := b0.trans (b1.mono (by simp))
      have hB1 : Box2 (w1.alloc (.cells #[.int .i64 F.cl, hv F.ty, .string F.nm, .int .i64 F.lo, .int .i64 F.hi, .int .i64 F.un, .int .i64 F.ki] 206)) w.heap.size w1.heap.size n A cc K kk F := ⟨(hW0.below b1 (by simp)).alloc _, Whole.new _ _ _⟩
      have HG := hB1.form
      have z1 := hB1.c1
      go_wp2_with (first | (refine wpList_new_form rfl 206 _ _ rfl w1 _ _ rfl rfl rfl (by kernel_rfl) rfl ?_) | (refine wpList_load_form rfl 206 _ rfl ⟨w1.heap.size, 0, none⟩ rfl F HG _ Tryz.underlying206 rfl (by kernel_rfl) ?_))
      refine (hFt _).mono ?_
      rintro e w2 ⟨rfl, b2⟩
      go_wp2_with fail
      go_ret
      exact ⟨HR.out, (hb1.alloc hb1.size _).trans (b2.mono (by have := hb1.size; simp; omega))⟩
    | true =>
      rw [hfb] at hfk hFt
      clear hfb
      cases hib : insB F.ki n.ks with
      | false =>
        rw [hib] at hH
        have hc7 : code = 7 := by rw [HCH.out, if_pos (.inr hib)]
        have HR : Hid (Ending.returned (codeV 7) = .returned (codeE code)) := by rw [hc7]; rfl
        clear hfk hib hc7 HCH
        unfold Form.val at hH
        go_enter Tryz.func134, Tryz.ntmps134
        go_wp2_with fail
        refine (hO _).mono ?_
        rintro e w1 ⟨rfl, b1⟩
        have hb1 := b0.trans (b1.mono (by simp))
        have hB1 : Box2 (w1.alloc (.cells #[.int .i64 F.cl, hv F.ty, .string F.nm, .int .i64 F.lo, .int .i64 F.hi, .int .i64 F.un, .int .i64 F.ki] 206)) w.heap.size w1.heap.size n A cc K kk F := ⟨(hW0.below b1 (by simp)).alloc _, Whole.new _ _ _⟩
        have HG1 := hB1.form
        have z1 := hB1.c1
        have z2 := hB1.c2
        have b1' := hb1.alloc hb1.size (.cells #[.int .i64 F.cl, hv F.ty, .string F.nm, .int .i64 F.lo, .int .i64 F.hi, .int .i64 F.un, .int .i64 F.ki] 206)
        go_wp2_with (first | (refine wpList_new_form rfl 206 _ _ rfl w1 _ _ rfl rfl rfl (by kernel_rfl) rfl ?_) | (refine wpList_load_form rfl 206 _ rfl ⟨w1.heap.size, 0, none⟩ rfl F HG1 _ Tryz.underlying206 rfl (by kernel_rfl) ?_))
        refine (hFt _).mono ?_
        rintro e w2 ⟨rfl, b2⟩
        have hB2 := hB1.below b2
        have hb2 := b1'.trans (b2.mono b1'.size)
        have y2 := hB2.c2
        have y0 := hB2.k0
        have y1 := hB2.k1
        have y3 := hB2.k2
        have y4 := hB2.k3
        have y5 := hB2.k4
        have y6 := hB2.k5
        have y7 := hB2.k6
        clear z1 z2
        go_wp2_with fail
        refine (hH _ hb2).mono ?_
        rintro e w3 ⟨rfl, b3⟩
        have hB3 := hB2.below b3
        have hb3 := hb2.trans (b3.mono hb2.size)
        have x0 := hB3.c0
        have x1 := hB3.c1
        go_wp2_with fail
        go_ret
        exact ⟨HR.out, hb3⟩
      | true =>
        rw [hib] at hH
        cases hcb : cntB c n.t n.v with
        | false =>
          rw [hcb] at hC
          have hc8 : code = 8 := by rw [HCH.out, if_neg (by rw [hfk, hib]; simp), if_pos hcb]
          have HR : Hid (Ending.returned (codeV 8) = .returned (codeE code)) := by rw [hc8]; rfl
          clear hfk hib hcb hc8 HCH
          unfold Form.val at hH
          go_enter Tryz.func134, Tryz.ntmps134
          go_wp2_with fail
          refine (hO _).mono ?_
          rintro e w1 ⟨rfl, b1⟩
          have hb1 := b0.trans (b1.mono (by simp))
          have hB1 : Box2 (w1.alloc (.cells #[.int .i64 F.cl, hv F.ty, .string F.nm, .int .i64 F.lo, .int .i64 F.hi, .int .i64 F.un, .int .i64 F.ki] 206)) w.heap.size w1.heap.size n A cc K kk F := ⟨(hW0.below b1 (by simp)).alloc _, Whole.new _ _ _⟩
          have HG1 := hB1.form
          have z1 := hB1.c1
          have z2 := hB1.c2
          have b1' := hb1.alloc hb1.size (.cells #[.int .i64 F.cl, hv F.ty, .string F.nm, .int .i64 F.lo, .int .i64 F.hi, .int .i64 F.un, .int .i64 F.ki] 206)
          go_wp2_with (first | (refine wpList_new_form rfl 206 _ _ rfl w1 _ _ rfl rfl rfl (by kernel_rfl) rfl ?_) | (refine wpList_load_form rfl 206 _ rfl ⟨w1.heap.size, 0, none⟩ rfl F HG1 _ Tryz.underlying206 rfl (by kernel_rfl) ?_))
          refine (hFt _).mono ?_
          rintro e w2 ⟨rfl, b2⟩
          have hB2 := hB1.below b2
          have hb2 := b1'.trans (b2.mono b1'.size)
          have y2 := hB2.c2
          have y0 := hB2.k0
          have y1 := hB2.k1
          have y3 := hB2.k2
          have y4 := hB2.k3
          have y5 := hB2.k4
          have y6 := hB2.k5
          have y7 := hB2.k6
          clear z1 z2
          go_wp2_with fail
          refine (hH _ hb2).mono ?_
          rintro e w3 ⟨rfl, b3⟩
          have hB3 := hB2.below b3
          have hb3 := hb2.trans (b3.mono hb2.size)
          have x0 := hB3.c0
          have x1 := hB3.c1
          go_wp2_with fail
          refine (hC _ hb3).mono ?_
          rintro e w4 ⟨rfl, b4⟩
          go_wp2_with fail
          go_ret
          exact ⟨HR.out, hb3.trans (b4.mono hb3.size)⟩
        | true =>
          rw [hcb] at hC
          have hcc := HCH.out
          rw [if_neg (by rw [hfk, hib]; simp), if_neg (by rw [hcb]; simp)] at hcc
          have HCC := Lib.hid hcc
          clear hfk hib hcb HCH hcc
          unfold Form.val at hH
          go_enter Tryz.func134, Tryz.ntmps134
          go_wp2_with fail
          refine (hO _).mono ?_
          rintro e w1 ⟨rfl, b1⟩
          have hb1 := b0.trans (b1.mono (by simp))
          have hB1 : Box2 (w1.alloc (.cells #[.int .i64 F.cl, hv F.ty, .string F.nm, .int .i64 F.lo, .int .i64 F.hi, .int .i64 F.un, .int .i64 F.ki] 206)) w.heap.size w1.heap.size n A cc K kk F := ⟨(hW0.below b1 (by simp)).alloc _, Whole.new _ _ _⟩
          have HG1 := hB1.form
          have z1 := hB1.c1
          have z2 := hB1.c2
          have b1' := hb1.alloc hb1.size (.cells #[.int .i64 F.cl, hv F.ty, .string F.nm, .int .i64 F.lo, .int .i64 F.hi, .int .i64 F.un, .int .i64 F.ki] 206)
          go_wp2_with (first | (refine wpList_new_form rfl 206 _ _ rfl w1 _ _ rfl rfl rfl (by kernel_rfl) rfl ?_) | (refine wpList_load_form rfl 206 _ rfl ⟨w1.heap.size, 0, none⟩ rfl F HG1 _ Tryz.underlying206 rfl (by kernel_rfl) ?_))
          refine (hFt _).mono ?_
          rintro e w2 ⟨rfl, b2⟩
          have hB2 := hB1.below b2
          have hb2 := b1'.trans (b2.mono b1'.size)
          have y2 := hB2.c2
          have y0 := hB2.k0
          have y1 := hB2.k1
          have y3 := hB2.k2
          have y4 := hB2.k3
          have y5 := hB2.k4
          have y6 := hB2.k5
          have y7 := hB2.k6
          clear z1 z2
          go_wp2_with fail
          refine (hH _ hb2).mono ?_
          rintro e w3 ⟨rfl, b3⟩
          have hB3 := hB2.below b3
          have hb3 := hb2.trans (b3.mono hb2.size)
          have x0 := hB3.c0
          have x1 := hB3.c1
          go_wp2_with fail
          refine (hC _ hb3).mono ?_
          rintro e w4 ⟨rfl, b4⟩
          have hB4 := hB3.below b4
          have hb4 := hb3.trans (b4.mono hb3.size)
          have v2 := hB4.c2
          have v6 := hB4.k6
          generalize (ins F.ki).1 = c1 at *
          go_wp2_with fail
          refine (hIn _).mono ?_
          rintro e w5 ⟨rfl, rfl⟩
          clear x0 x1 y0 y1 y2 y3 y4 y5 y6 y7
          go_wp2_with fail
          go_loopw [63] (fun i wr => ∃ k : Nat, k ≤ n.ks.length ∧ i = .int .i64 k ∧ Hid (∀ (j y : Nat), j < k → (n.ks.map (chk f c1))[j]? = some y → y = 0) ∧ Below w4.heap.size w4 wr) (fun i _ => n.ks.length - (intOf i).toNat)
          case atStart => exact ⟨0, Nat.zero_le _, rfl, fun j y hj _ => by omega, Below.refl _ _⟩
          case round =>
            obtain ⟨k, hk, rfl, hz, hbel⟩ := hrel
            have hbw := hb4.trans (hbel.mono hb4.size)
            have hBr := hB4.below hbel
            by_cases hlt : k < n.ks.length
            · obtain ⟨ad, A', c', K', k', m, rfl, hb, hm, hc0, hc1, hc2, hM⟩ := (HNK.out.bel hbw).at_ hlt
              have hb0' : Below wr.heap.size wr (wr.alloc (.cells #[hv m.t, .slice A' m.v.length c', .slice K' m.ks.length k'] 50)) := (Below.refl _ _).alloc (Nat.le_refl _) _
              have hS := HK.out c1 m (d + 1) A' c' K' k' _ (by omega) ((hM.more hbw.size).on hb0') (HF.out.kid m (List.mem_of_getElem? hm.out))
              have HX : Hid ((n.ks.map (chk f c1))[k]? = some (chk f c1 m)) := by rw [Hid, List.getElem?_map, hm.out]; rfl
              rw [Int.natCast_add] at hS
              generalize chk f c1 m = x at *
              unfold ndV at hS
              have hd1 : (d : Int) + 1 ≤ 5 := by omega
              by_cases hx : x = 0
              · have HZ : Hid (∀ (j y : Nat), j < k + 1 → (n.ks.map (chk f c1))[j]? = some y → y = 0) := fun j y hj hy => by
                  by_cases hjk : j = k
                  · subst hjk
                    rw [HX.out] at hy
                    cases hy
                    exact hx
                  · exact hz.out j y (by omega) hy
                subst hx
                have hS' := hS.mono (R' := fun e w' => e = .returned .nilIface ∧ Below (wr.alloc (.cells #[hv m.t, .slice A' m.v.length c', .slice K' m.ks.length k'] 50)).heap.size (wr.alloc (.cells #[hv m.t, .slice A' m.v.length c', .slice K' m.ks.length k'] 50)) w') (fun e w' h => h)
                clear hS
                go_wp2_with fail
                refine hS'.mono ?_
                rintro e w6 ⟨rfl, b6⟩
                go_wp2_with fail
                go_roundw
                case rel => exact ⟨k + 1, by omega, by go_num, HZ, hbel.trans ((hb0'.trans (b6.mono (by simp))).mono hbel.size)⟩
                case measure => simp [intOf]; omega
              · have hxc : code = x := by
                  rw [HCC.out, fst0_at HX.out hx hz.out, if_pos hx]
                have HR := Lib.hid (show Ending.returned (codeV x) = .returned (codeE code) by rw [hxc]; unfold codeE; rw [if_neg hx])
                have hS' := hS.mono (R' := fun e w' => e = .returned (codeV x) ∧ Below (wr.alloc (.cells #[hv m.t, .slice A' m.v.length c', .slice K' m.ks.length k'] 50)).heap.size (wr.alloc (.cells #[hv m.t, .slice A' m.v.length c', .slice K' m.ks.length k'] 50)) w') (fun e w' h => by unfold codeE at h; rwa [if_neg hx] at h)
                clear hS hx hxc
                unfold codeV at hS' HR
                go_wp2_with fail
                refine hS'.mono ?_
                rintro e w6 ⟨rfl, b6⟩
                go_wp2_with fail
                go_ret
                exact ⟨HR.out, hbw.trans ((hb0'.trans (b6.mono (by simp))).mono hbw.size)⟩
            · obtain rfl : k = n.ks.length := by omega
              have hcc := HCC.out
              rw [fst0_none (by intro j y hj hy; exact hz.out j y (by simpa using hj) hy), if_neg (by simp)] at hcc
              have hb0' : Below wr.heap.size wr (wr.alloc (.cells #[hv n.t, .slice A n.v.length cc, .slice K n.ks.length kk] 50)) := (Below.refl _ _).alloc (Nat.le_refl _) _
              have hL1 := ((HNb.out _ hbw).list1 50)
              have hS := nsize_any [n] (some ⟨wr.heap.size, 0, none⟩) 1 (wr.alloc (.cells #[hv n.t, .slice A n.v.length cc, .slice K n.ks.length kk] 50)) (hL1.more (by simp)) (by simp) (by intro m hm; rw [List.mem_singleton.1 hm]; exact HF.out)
              have e1 : sizes (lens [n]) = 4 + n.vlen := by rw [lens, lens, sizes_one]
              rw [e1] at hS
              have hS' := hS.mono (R' := fun e w' => e = .returned (.int .i64 ((4 + n.vlen : Nat) : Int)) ∧ Below wr.heap.size wr w') (fun e w' h => ⟨h.1, hb0'.trans (h.2.mono (by simp))⟩)
              have r0 := hBr.c0
              have r1 := hBr.c1
              have r2 := hBr.c2
              simp only [List.length_singleton] at hS'
              clear hS e1 v2 v6 hL1
              by_cases hv4 : 65531 < n.vlen
              · rw [if_pos hv4] at hcc
                have HR : Hid (Ending.returned (codeV 4) = .returned (codeE code)) := by rw [hcc]; rfl
                have hi4 : (65535 : Int) < ((4 + n.vlen : Nat) : Int) := by omega
                clear hcc
                generalize 4 + n.vlen = y at *
                go_wp2_with fail
                refine hS'.mono ?_
                rintro e w6 ⟨rfl, b6⟩
                go_wp2_with fail
                go_ret
                exact ⟨HR.out, hbw.trans (b6.mono hbw.size)⟩
              · rw [if_neg hv4] at hcc
                have HR : Hid (Ending.returned .nilIface = .returned (codeE code)) := by rw [hcc]; rfl
                have hi4 : ¬ (65535 : Int) < ((4 + n.vlen : Nat) : Int) := by omega
                clear hcc
                generalize 4 + n.vlen = y at *
                go_wp2_with fail
                refine hS'.mono ?_
                rintro e w6 ⟨rfl, b6⟩
                go_wp2_with fail
                go_ret
                exact ⟨HR.out, hbw.trans (b6.mono hbw.size)⟩

theorem check_all (f : Nat) : CheckOK f := by
  induction f with
  | zero => exact check_zero
  | succ f ih => exact check_succ f ih
end Go.Proofs.YthkbcpbgoefanaaGreatDoor


