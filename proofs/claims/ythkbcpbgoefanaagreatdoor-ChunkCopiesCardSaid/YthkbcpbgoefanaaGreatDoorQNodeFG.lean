/- NodeF + NodeG -/
import Derived.Test.YthkbcpbgoefanaaGreatDoorQNodeE
import Derived.Test.YthkbcpbgoefanaaGreatDoorQNodeAD
import Derived.Test.YthkbcpbgoefanaaGreatDoorQA

namespace Go.Proofs.YthkbcpbgoefanaaGreatDoor
open Go.RowKit

theorem fst0_zero {l : List Nat} (h : fst0 l = 0) : ∀ x ∈ l, x = 0 := by
  unfold fst0 at h
  intro x hx
  cases hf : l.find? (· ≠ 0) with
  | none =>
    rw [List.find?_eq_none] at hf
    simpa using hf x hx
  | some y =>
    rw [hf] at h
    have := List.find?_some hf
    simp at this h
    exact absurd h this
theorem chk_succ (f : Nat) (c : Int) (n : Nd) : chk (f + 1) c n = if fitK c n.t n.v.length = false ∨ insB (formOf c n.t).ki n.ks = false then 7
    else if cntB c n.t n.v = false then 8
    else if fst0 (n.ks.map (chk f (ins (formOf c n.t).ki).1)) ≠ 0 then fst0 (n.ks.map (chk f (ins (formOf c n.t).ki).1))
    else if 65531 < n.vlen then 4 else 0 := rfl
theorem chk_zero {f : Nat} {c : Int} {n : Nd} (h : chk (f + 1) c n = 0) : fitK c n.t n.v.length = true ∧ insB (formOf c n.t).ki n.ks = true ∧ cntB c n.t n.v = true ∧ (∀ k ∈ n.ks, chk f (ins (formOf c n.t).ki).1 k = 0) ∧ n.vlen ≤ 65531 := by
  rw [chk_succ] at h
  split at h
  · cases h
  · rename_i h1
    split at h
    · cases h
    · rename_i h2
      split at h
      · rename_i h3; exact absurd h h3
      · rename_i h3
        split at h
        · cases h
        · rename_i h4
          have h3' : fst0 (n.ks.map (chk f (ins (formOf c n.t).ki).1)) = 0 := by simpa using h3
          refine ⟨?_, ?_, by simpa using h2, fun k hk => fst0_zero h3' _ (List.mem_map.2 ⟨k, hk, rfl⟩), by omega⟩
          · cases hq : fitK c n.t n.v.length with
            | true => rfl
            | false => exact absurd (.inl hq) h1
          · cases hq : insB (formOf c n.t).ki n.ks with
            | true => rfl
            | false => exact absurd (.inr hq) h1
theorem fit_of_chk : ∀ (f : Nat) (c : Int) (n : Nd), chk f c n = 0 → FitN n := by
  intro f
  induction f with
  | zero => intro c n h; cases h
  | succ f ih =>
    intro c n h
    obtain ⟨_, _, _, h4, h5⟩ := chk_zero h
    exact .mk h5 fun k hk => ih _ k (h4 k hk)

theorem ncheck_any (c : Int) (n : Nd) (A : Option Addr) (cc : Nat) (K : Option Addr) (kk : Nat) (w : World) (hN : Node w w.heap.size A cc K kk n) (hf : Fine n) :
    Calls Tryz.prog 104 #[.int .i64 c, ndV n A cc K kk] w fun e w' => e = .returned (codeE (chk 4 c n)) ∧ Below w.heap.size w w' := by
  have b0 : Below w.heap.size w (w.alloc (.cells #[hv n.t, .slice A n.v.length cc, .slice K n.ks.length kk] 50)) := (Below.refl _ _).alloc (Nat.le_refl _) _
  have h := check_all 4 c n 1 A cc K kk _ rfl (hN.on b0) hf
  simp only [Int.cast_ofNat_Int] at h
  generalize chk 4 c n = x at *
  unfold ndV at h ⊢
  go_enter Tryz.func104, Tryz.ntmps104
  go_wp2_with fail
  refine h.mono ?_
  rintro e w1 ⟨rfl, b1⟩
  go_wp2_with fail
  go_ret
  exact ⟨rfl, b0.trans (b1.mono (by simp))⟩

/-- the code of the first node that is not right, 0 if all are -/
def chkL (c : Int) (ns : List Nd) : Nat := fst0 (ns.map (chk 4 c))
/-- how Encode ends -/
def EncR (w : World) (c : Int) (ns : List Nd) (e : Ending) (w' : World) : Prop := Below w.heap.size w w' ∧
  ((chkL c ns ≠ 0 ∧ e = .returned (.tuple #[.slice none 0 0, codeV (chkL c ns)])) ∨
   (chkL c ns = 0 ∧ ∃ A' c', e = .returned (.tuple #[.slice A' (jn (frs ns)).length c', .nilIface]) ∧ w'.ownsRow w.heap.size 5 1 (.slice A' (jn (frs ns)).length c') (jn (frs ns)).length ((jn (frs ns)).map bv)))
set_option maxRecDepth 100000 in
theorem encode_any (c : Int) (A : Option Addr) (cc : Nat) (ns : List Nd) (w : World) (h : Nodes w w.heap.size A ns) (hn : ns.length ≤ 1000) (hf : ∀ n ∈ ns, Fine n) :
    Calls Tryz.prog 55 #[.int .i64 c, .slice A ns.length cc] w (EncR w c ns) := by
  have HF := Lib.hid hf
  have HCC : Hid (chkL c ns = fst0 (ns.map (chk 4 c))) := rfl
  unfold EncR
  generalize hcode : chkL c ns = code at *
  clear hf hcode
  go_enter Tryz.func55, Tryz.ntmps55
  go_wp2_with fail
  go_loopw [11] (fun i wr => ∃ k : Nat, k ≤ ns.length ∧ i = .int .i64 k ∧ Hid (∀ (j y : Nat), j < k → (ns.map (chk 4 c))[j]? = some y → y = 0) ∧ Below w.heap.size w wr) (fun i _ => ns.length - (intOf i).toNat)
  case atStart => exact ⟨0, Nat.zero_le _, rfl, fun j y hj _ => by omega, Below.refl _ _⟩
  case round =>
    obtain ⟨k, hk, rfl, hz, hbel⟩ := hrel
    by_cases hlt : k < ns.length
    · obtain ⟨ad, A', c', K', k', m, rfl, hb, hm, hc0, hc1, hc2, hM⟩ := (h.bel hbel).at_ hlt
      have hb0' : Below wr.heap.size wr (wr.alloc (.cells #[hv m.t, .slice A' m.v.length c', .slice K' m.ks.length k'] 50)) := (Below.refl _ _).alloc (Nat.le_refl _) _
      have hS := ncheck_any c m A' c' K' k' _ ((hM.more hbel.size).on hb0') (HF.out m (List.mem_of_getElem? hm.out))
      have HX : Hid ((ns.map (chk 4 c))[k]? = some (chk 4 c m)) := by rw [Hid, List.getElem?_map, hm.out]; rfl
      generalize chk 4 c m = x at *
      unfold ndV at hS
      by_cases hx : x = 0
      · have HZ : Hid (∀ (j y : Nat), j < k + 1 → (ns.map (chk 4 c))[j]? = some y → y = 0) := fun j y hj hy => by
          by_cases hjk : j = k
          · subst hjk
            rw [HX.out] at hy
            cases hy
            exact hx
          · exact hz.out j y (by omega) hy
        subst hx
        have hS' := hS.mono (R' := fun e w' => e = .returned .nilIface ∧ Below wr.heap.size wr w') (fun e w' h => ⟨h.1, hb0'.trans (h.2.mono (by simp))⟩)
        clear hS
        go_wp2_with fail
        refine hS'.mono ?_
        rintro e w6 ⟨rfl, b6⟩
        go_wp2_with fail
        go_roundw
        case rel => exact ⟨k + 1, by omega, by go_num, HZ, hbel.trans (b6.mono hbel.size)⟩
        case measure => simp [intOf]; omega
      · have hxc : code = x := by rw [HCC.out, fst0_at HX.out hx hz.out]
        have HR := Lib.hid (show code ≠ 0 ∧ Ending.returned (.tuple #[.slice none 0 0, codeV x]) = .returned (.tuple #[.slice none 0 0, codeV code]) by rw [hxc]; exact ⟨hx, rfl⟩)
        have hS' := hS.mono (R' := fun e w' => e = .returned (codeV x) ∧ Below wr.heap.size wr w') (fun e w' h => ⟨by have := h.1; unfold codeE at this; rwa [if_neg hx] at this, hb0'.trans (h.2.mono (by simp))⟩)
        clear hS hx hxc
        unfold codeV at hS' HR
        go_wp2_with fail
        refine hS'.mono ?_
        rintro e w6 ⟨rfl, b6⟩
        go_wp2_with fail
        go_ret2
        exact ⟨hbel.trans (b6.mono hbel.size), .inl HR.out⟩
    · obtain rfl : k = ns.length := by omega
      have hcc := HCC.out
      rw [fst0_none (by intro j y hj hy; exact hz.out j y (by simpa using hj) hy)] at hcc
      have hall : ∀ n ∈ ns, chk 4 c n = 0 := fun n hn => by
        obtain ⟨j, hj, rfl⟩ := List.getElem_of_mem hn
        exact hz.out j _ hj (by rw [List.getElem?_map, List.getElem?_eq_getElem hj]; rfl)
      have hJ := njoin_any ns A cc wr ((h.bel hbel).more hbel.size) hn HF.out (fun n hn => fit_of_chk _ _ _ (hall n hn))
      have HC0 := Lib.hid hcc
      have HJ := Lib.hid hJ
      clear hcc hJ hall
      go_wp2_with fail
      refine HJ.out.mono ?_
      rintro e w6 ⟨A2, c2, rfl, own2, b6⟩
      go_wp2_with fail
      go_ret2
      exact ⟨hbel.trans (b6.mono hbel.size), .inr ⟨HC0.out, A2, c2, rfl, own_base own2 hbel.size⟩⟩
end Go.Proofs.YthkbcpbgoefanaaGreatDoor



namespace Go.Proofs.YthkbcpbgoefanaaGreatDoor
open Go.RowKit

mutual
def Nd.beq : Nd → Nd → Bool
  | .mk t v ks, .mk t' v' ks' => decide (t = t') && decide (v = v') && beqL ks ks'
def beqL : List Nd → List Nd → Bool
  | [], [] => true
  | a :: xs, b :: ys => a.beq b && beqL xs ys
  | [], _ :: _ => false
  | _ :: _, [] => false
end
theorem Nd.beq_eq (a : Nd) : ∀ b, a.beq b = true ↔ a = b :=
  Nd.ind (P := fun a => ∀ b, a.beq b = true ↔ a = b) (fun t v ks ih b => by
    have hl : ∀ (l m : List Nd), (∀ k ∈ l, ∀ b, k.beq b = true ↔ k = b) → (beqL l m = true ↔ l = m) := by
      intro l
      induction l with
      | nil => intro m _; cases m <;> simp [beqL]
      | cons x l ihl =>
        intro m hx
        cases m with
        | nil => simp [beqL]
        | cons y m =>
          simp only [beqL, Bool.and_eq_true, List.cons.injEq]
          rw [hx x List.mem_cons_self y, ihl m fun k hk => hx k (List.mem_cons_of_mem _ hk)]
    cases b with
    | mk t' v' ks' =>
      simp only [Nd.beq, Bool.and_eq_true, decide_eq_true_eq, Nd.mk.injEq, hl ks ks' ih]
      exact and_assoc) a
theorem beqL_eq (l : List Nd) : ∀ m, beqL l m = true ↔ l = m := by
  induction l with
  | nil => intro m; cases m <;> simp [beqL]
  | cons x l ih =>
    intro m
    cases m with
    | nil => simp [beqL]
    | cons y m =>
      simp only [beqL, Bool.and_eq_true, List.cons.injEq]
      rw [Nd.beq_eq x y, ih m]
theorem beqL_true {l m : List Nd} (h : l = m) : beqL l m = true := (beqL_eq l m).2 h
theorem beqL_false {l m : List Nd} (h : l ≠ m) : beqL l m = false := by
  cases hb : beqL l m with
  | false => rfl
  | true => exact absurd ((beqL_eq l m).1 hb) h
theorem Nd.beq_def (a b : Nd) : a.beq b = (decide (a.t = b.t) && decide (a.v = b.v) && beqL a.ks b.ks) := by cases a; cases b; rfl

def EqOK (ns : List Nd) : Prop := ∀ (ms : List Nd) (A A' : Option Addr) (c c' : Nat) (w : World), Nodes w w.heap.size A ns → Nodes w w.heap.size A' ms → ns.length ≤ 100000000 →
  Calls Tryz.prog 82 #[.slice A ns.length c, .slice A' ms.length c', .func (.func 83) #[] #[]] w fun e w' => e = .returned (.bool (beqL ns ms)) ∧ Below w.heap.size w w'
set_option maxRecDepth 100000 in
theorem same_node (a b : Nd) (ih : EqOK a.ks) (A : Option Addr) (c : Nat) (K : Option Addr) (k : Nat) (A' : Option Addr) (c' : Nat) (K' : Option Addr) (k' : Nat) (w : World) (ha : Node w w.heap.size A c K k a) (hb : Node w w.heap.size A' c' K' k' b) (hl : a.ks.length ≤ 100000000) :
    Calls Tryz.prog 83 #[ndV a A c K k, ndV b A' c' K' k'] w fun e w' => e = .returned (.bool (a.beq b)) ∧ Below w.heap.size w w' := by
  rw [Nd.beq_def]
  unfold ndV
  have b0 : Below w.heap.size w ((w.alloc (.cells #[hv a.t, .slice A a.v.length c, .slice K a.ks.length k] 50)).alloc (.cells #[hv b.t, .slice A' b.v.length c', .slice K' b.ks.length k'] 50)) :=
    ((Below.refl _ _).alloc (Nat.le_refl _) _).alloc (by simp) _
  have hE := equal_any A A' c c' _ _ a.v b.v _ (ha.on b0).data (hb.on b0).data
  have hK := ih b.ks K K' k k' _ (ha.on b0).kids (hb.on b0).kids hl
  have HB := Lib.hid b0
  clear ih ha hb b0
  generalize beqL a.ks b.ks = kb at *
  by_cases ht : a.t = b.t
  · have hq : ((a.t.toNat : Int) == (b.t.toNat : Int)) = true := by rw [ht]; simp
    by_cases hv' : a.v = b.v
    · have hd := decide_eq_true hv'
      rw [hd] at hE
      have R := Lib.hid (show (decide (a.t = b.t) && decide (a.v = b.v) && kb) = kb by rw [decide_eq_true ht, hd]; rfl)
      clear ht hv' hd
      go_enter Tryz.func83, Tryz.ntmps83
      go_wp2_with fail
      refine hE.mono ?_
      rintro e w1 ⟨rfl, rfl⟩
      go_wp2_with fail
      refine hK.mono ?_
      rintro e w2 ⟨rfl, b2⟩
      go_wp2_with fail
      go_ret
      exact ⟨ret_bool R.out.symm, HB.out.trans (b2.mono HB.out.size)⟩
    · have hd := decide_eq_false hv'
      rw [hd] at hE
      have R := Lib.hid (show (decide (a.t = b.t) && decide (a.v = b.v) && kb) = false by rw [hd]; simp)
      clear ht hv' hd
      go_enter Tryz.func83, Tryz.ntmps83
      go_wp2_with fail
      refine hE.mono ?_
      rintro e w1 ⟨rfl, rfl⟩
      go_wp2_with fail
      go_ret
      exact ⟨ret_bool R.out.symm, HB.out⟩
  · have hq : ((a.t.toNat : Int) == (b.t.toNat : Int)) = false := by
      rw [beq_eq_false_iff_ne]
      intro h
      exact ht (UInt16.toNat_inj.1 (by omega))
    have R := Lib.hid (show (decide (a.t = b.t) && decide (a.v = b.v) && kb) = false by rw [decide_eq_false ht]; rfl)
    clear ht
    go_enter Tryz.func83, Tryz.ntmps83
    go_wp2_with fail
    go_ret
    exact ⟨ret_bool R.out.symm, HB.out⟩
/-- so many inside, at whatever depth -/
inductive Few1 : Nd → Prop
  | mk {n : Nd} : n.ks.length ≤ 100000000 → (∀ k ∈ n.ks, Few1 k) → Few1 n
theorem Few1.kl {n : Nd} (h : Few1 n) : n.ks.length ≤ 100000000 := by cases h; assumption
theorem Few1.kid {n : Nd} (h : Few1 n) : ∀ k ∈ n.ks, Few1 k := by cases h; assumption
theorem Fine.few1 (n : Nd) : Fine n → Few1 n :=
  Nd.ind (P := fun n => Fine n → Few1 n) (fun t v ks ih h => .mk (by have := h.kl; omega) fun k hk => ih k hk (h.kid k hk)) n
set_option maxRecDepth 100000 in
set_option maxHeartbeats 1000000 in
theorem eq_step (ns : List Nd) (ih : ∀ n ∈ ns, EqOK n.ks) (hf : ∀ n ∈ ns, n.ks.length ≤ 100000000) : EqOK ns := by
  intro ms A A' c c' w ha hb hl
  by_cases hlen : ns.length = ms.length
  · have hneq : ((ns.length : Int) != (ms.length : Int)) = false := by rw [bne_eq_false_iff_eq]; omega
    have hl1 : ms.length ≤ ns.length := by omega
    have hl2 : ns.length ≤ ms.length := by omega
    have HI := Lib.hid ih
    have HF := Lib.hid hf
    have HR : Hid (∀ b : Bool, (ns = ms ↔ b = true) → beqL ns ms = b) := fun b hb => by
      cases b with
      | true => exact beqL_true (hb.2 rfl)
      | false => exact beqL_false fun e => by have := hb.1 e; cases this
    clear hlen ih hf
    go_enter Tryz.func82, Tryz.ntmps82
    go_wp2_with fail
    go_loopw [17] (fun i wr => ∃ k : Nat, k ≤ ns.length ∧ i = .int .i64 k ∧ Hid (ns.take k = ms.take k) ∧ Below w.heap.size w wr) (fun i _ => ns.length - (intOf i).toNat)
    case atStart => exact ⟨0, Nat.zero_le _, rfl, rfl, Below.refl _ _⟩
    case round =>
      obtain ⟨k, hk, rfl, htk, hbel⟩ := hrel
      by_cases hlt : k < ns.length
      · obtain ⟨ad, A2, c2, K2, k2, a, rfl, hb1, hn1, hc0, hc1, hc2, hM⟩ := (ha.bel hbel).at_ hlt
        obtain ⟨ad', A3, c3, K3, k3, b, rfl, hb3, hn3, hd0, hd1, hd2, hM'⟩ := (hb.bel hbel).at_ (k := k) (by omega)
        have hi1 : (k : Int) < (ns.length : Int) := by omega
        have hi2 : (k : Int) < (ms.length : Int) := by omega
        have b0 : Below wr.heap.size wr ((wr.alloc (.cells #[hv a.t, .slice A2 a.v.length c2, .slice K2 a.ks.length k2] 50)).alloc (.cells #[hv b.t, .slice A3 b.v.length c3, .slice K3 b.ks.length k3] 50)) :=
          ((Below.refl _ _).alloc (Nat.le_refl _) _).alloc (by simp) _
        have hbb : ad'.block < wr.heap.size := by have := hbel.size; omega
        have hq0 := (World.cell?_alloc_lt wr (.cells #[hv a.t, .slice A2 a.v.length c2, .slice K2 a.ks.length k2] 50) (ad'.add (k * 3)) (by rw [blk_add]; exact hbb)).trans hd0
        have hq1 := (World.cell?_alloc_lt wr (.cells #[hv a.t, .slice A2 a.v.length c2, .slice K2 a.ks.length k2] 50) ⟨(ad'.add (k * 3)).block, (ad'.add (k * 3)).off + 1, none⟩ (by show (ad'.add (k * 3)).block < _; rw [blk_add]; exact hbb)).trans hd1
        have hq2 := (World.cell?_alloc_lt wr (.cells #[hv a.t, .slice A2 a.v.length c2, .slice K2 a.ks.length k2] 50) ⟨(ad'.add (k * 3)).block, (ad'.add (k * 3)).off + 2, none⟩ (by show (ad'.add (k * 3)).block < _; rw [blk_add]; exact hbb)).trans hd2
        have hmem := List.mem_of_getElem? hn1.out
        have hS := (same_node a b (HI.out a hmem) A2 c2 K2 k2 A3 c3 K3 k3 _ ((hM.more hbel.size).on b0) ((hM'.more hbel.size).on b0) (HF.out a hmem)).mono (R' := fun e w' => e = .returned (.bool (a.beq b)) ∧ Below wr.heap.size wr w') (fun e w' h => ⟨h.1, b0.trans (h.2.mono b0.size)⟩)
        unfold ndV at hS
        by_cases hab : a = b
        · have HT := Lib.hid (take_eq_snoc hn1.out hn3.out htk.out hab)
          rw [(Nd.beq_eq a b).2 hab] at hS
          clear hab
          go_wp2_with fail
          refine hS.mono ?_
          rintro e w6 ⟨rfl, b6⟩
          go_wp2_with fail
          go_roundw
          case rel => exact ⟨k + 1, by omega, by go_num, HT, hbel.trans (b6.mono hbel.size)⟩
          case measure => simp [intOf]; omega
        · have R := Lib.hid (HR.out false ⟨fun e => absurd e (ne_of_at hn1.out hn3.out hab), fun e => by cases e⟩)
          have hab' : a.beq b = false := by
            cases hq : a.beq b with
            | false => rfl
            | true => exact absurd ((Nd.beq_eq a b).1 hq) hab
          rw [hab'] at hS
          clear hab hab'
          go_wp2_with fail
          refine hS.mono ?_
          rintro e w6 ⟨rfl, b6⟩
          go_wp2_with fail
          go_ret
          exact ⟨ret_bool R.out.symm, hbel.trans (b6.mono hbel.size)⟩
      · have R := Lib.hid (HR.out true ⟨fun _ => rfl, fun _ => by
          have := htk.out
          rwa [List.take_of_length_le (by omega), List.take_of_length_le (by omega)] at this⟩)
        go_wp2_with fail
        go_ret
        exact ⟨ret_bool R.out.symm, hbel⟩
  · have hneq : ((ns.length : Int) != (ms.length : Int)) = true := by rw [bne_iff_ne]; omega
    have R := Lib.hid (beqL_false (l := ns) (m := ms) fun e => hlen (by rw [e]))
    clear hlen ih hf
    go_enter Tryz.func82, Tryz.ntmps82
    go_wp2_with fail
    go_ret
    exact ⟨ret_bool R.out.symm, Below.refl _ _⟩
theorem eq_any (ns : List Nd) : (∀ n ∈ ns, Few1 n) → EqOK ns :=
  Nds.ind (P := fun ns => (∀ n ∈ ns, Few1 n) → EqOK ns) (fun ns ih h => eq_step ns (fun n hn => ih n hn (h n hn).kid) fun n hn => (h n hn).kl) ns
/-- Same of whatever nodes -/
theorem nsame_any (a b : Nd) (hf : Few1 a) (A : Option Addr) (c : Nat) (K : Option Addr) (k : Nat) (A' : Option Addr) (c' : Nat) (K' : Option Addr) (k' : Nat) (w : World) (ha : Node w w.heap.size A c K k a) (hb : Node w w.heap.size A' c' K' k' b) :
    Calls Tryz.prog 83 #[ndV a A c K k, ndV b A' c' K' k'] w fun e w' => e = .returned (.bool (a.beq b)) ∧ Below w.heap.size w w' :=
  same_node a b (eq_any a.ks hf.kid) A c K k A' c' K' k' w ha hb hf.kl
end Go.Proofs.YthkbcpbgoefanaaGreatDoor


