/- Layer 9: the two notations; which of them a node is an address of. They write nothing that was there. -/
/- Layer 9, the reference: whether a node is an address (Is), the value of a digit (digit). They write nothing that was there. -/
/- Layer 9: the notation of an address (notationOf), whether a node is one (isAddress), the address of bytes (Of). They write nothing that was there. -/
/- Layer 9: whether a node is an address (isAddress), the class inside (inside), the address of bytes (Of). They write nothing that was there. -/
import Derived.Test.YteknmgmdmjmnmaaGreatDoorUAddrA
import Derived.Test.YteknmgmdmjmnmaaGreatDoorUNF
import Derived.Test.YteknmgmdmjmnmaaGreatDoorUS


namespace Go.Proofs.YteknmgmdmjmnmaaGreatDoor
open Go.RowKit Go.Shelf

/-- a notation as a value -/
abbrev ntV (t : UInt16) (s x y : Nat) (m : ByteArray) : Value := .agg #[hv t, .int .i64 (s : Int), .int .i64 (x : Int), .int .i64 (y : Int), .string m]
def fitA (t : UInt16) (s : Nat) (n : Nd) : Bool := decide (n.t = t) && decide (n.v.length = s) && decide (n.ks.length = 0)
set_option maxRecDepth 100000 in
set_option maxHeartbeats 1000000 in
theorem fits_nt (t : UInt16) (s x y : Nat) (m : ByteArray) (n : Nd) (A : Option Addr) (c : Nat) (K : Option Addr) (k : Nat) (w : World) (_hs : s ≤ 16) (_hl : n.v.length ≤ 9223372036854775807) (_hk : n.ks.length ≤ 9223372036854775807) :
    Calls Tryz.prog 145 #[ntV t s x y m, ndV n A c K k] w fun e w' => e = .returned (.bool (fitA t s n)) ∧ Below w.heap.size w w' := by
  unfold ntV ndV fitA
  by_cases h1 : n.t = t
  · rw [decide_eq_true h1]
    subst h1
    by_cases h2 : n.v.length = s
    · rw [decide_eq_true h2]
      subst h2
      by_cases h3 : n.ks.length = 0
      · rw [decide_eq_true h3, h3]
        go_enter Tryz.func145, Tryz.ntmps145
        go_wp2_with fail
        go_ret
        exact ⟨rfl, ((Below.refl _ w).alloc (Nat.le_refl _) _).alloc (by simp) _⟩
      · rw [decide_eq_false h3]
        have h4 : ¬ (n.ks.length : Int) = 0 := by omega
        have h5 : ¬ n.ks = [] := fun e => h3 (by rw [e]; rfl)
        go_enter Tryz.func145, Tryz.ntmps145
        go_wp2_with fail
        go_ret
        exact ⟨by simp [*], ((Below.refl _ w).alloc (Nat.le_refl _) _).alloc (by simp) _⟩
    · rw [decide_eq_false h2]
      have h4 : ¬ (n.v.length : Int) = (s : Int) := by omega
      go_enter Tryz.func145, Tryz.ntmps145
      go_wp2_with fail
      go_ret
      exact ⟨by simp [*], ((Below.refl _ w).alloc (Nat.le_refl _) _).alloc (by simp) _⟩
  · rw [decide_eq_false h1]
    have h4 : ¬ (n.t.toNat : Int) = (t.toNat : Int) := fun e => h1 (UInt16.toNat_inj.1 (by omega))
    go_enter Tryz.func145, Tryz.ntmps145
    go_wp2_with fail
    go_ret
    exact ⟨by simp [*], ((Below.refl _ w).alloc (Nat.le_refl _) _).alloc (by simp) _⟩
/-! ### the table -/
/-- what the program's table holds -/
def Tbl (w : World) : Prop := ∀ (j : Nat) (v : Value), [hv 5, .int .i64 4, .int .i64 1, .int .i64 10, .string ⟨#[46]⟩, hv 6, .int .i64 16, .int .i64 2, .int .i64 16, .string ⟨#[58]⟩][j]? = some v → w.cell? ⟨0, j, none⟩ = some v
theorem Tbl.lt {w : World} (h : Tbl w) : 0 < w.heap.size := by
  have h0 := h 0 _ rfl
  rcases Nat.lt_or_ge 0 w.heap.size with h1 | h1
  · exact h1
  · unfold World.cell? at h0
    rw [Array.getElem?_eq_none h1] at h0
    simp at h0
theorem Tbl.below {w w' : World} (h : Tbl w) (hb : Below w.heap.size w w') : Tbl w' := fun j v hj => (hb.cell (p := ⟨0, j, none⟩) h.lt).trans (h j v hj)
/-- which notation a node is an address of: 2 for none -/
def nof (n : Nd) : Nat := if fitA 5 4 n then 0 else if fitA 6 16 n then 1 else 2
abbrev nt5 : Value := ntV 5 4 1 10 ⟨#[46]⟩
abbrev nt6 : Value := ntV 6 16 2 16 ⟨#[58]⟩
end Go.Proofs.YteknmgmdmjmnmaaGreatDoor



namespace Go.Proofs.YteknmgmdmjmnmaaGreatDoor
open Go.RowKit Go.Shelf

theorem nof_def (n : Nd) : decide (nof n < 2) = (fitA 5 4 n || fitA 6 16 n) := by
  unfold nof
  cases fitA 5 4 n <;> cases fitA 6 16 n <;> rfl
set_option maxRecDepth 100000 in
set_option maxHeartbeats 2000000 in
theorem ris_any (n : Nd) (A : Option Addr) (c : Nat) (K : Option Addr) (k : Nat) (w : World) (_hl : n.v.length ≤ 9223372036854775807) (_hk : n.ks.length ≤ 9223372036854775807) :
    Calls Tryz.prog 76 #[ndV n A c K k] w fun e w' => e = .returned (.bool (decide (nof n < 2))) ∧ Below w.heap.size w w' := by
  have HB : Hid (Below w.heap.size w (w.alloc (.cells #[hv n.t, .slice A n.v.length c, .slice K n.ks.length k] 51))) := (Below.refl _ w).alloc (Nat.le_refl _) _
  rw [nof_def]
  unfold fitA ndV
  by_cases h3 : n.ks.length = 0
  · have q3 : (n.ks.length : Int) = 0 := by omega
    by_cases h1 : n.t = 5
    · have q1 : (n.t.toNat : Int) = 5 := by rw [h1]; rfl
      have HR : Hid ((decide (n.t = 5) && decide (n.v.length = 4) && decide (n.ks.length = 0) || decide (n.t = 6) && decide (n.v.length = 16) && decide (n.ks.length = 0)) = decide (n.v.length = 4)) := by
        rw [h1, h3]; simp [Hid]
      by_cases h2 : n.v.length = 4
      · have q2 : (n.v.length : Int) = 4 := by omega
        have HR2 : Hid (decide (n.v.length = 4) = true) := decide_eq_true h2
        clear h1 h2 h3
        go_enter Tryz.func76, Tryz.ntmps76
        go_wp2_with fail
        go_ret
        exact ⟨by rw [HR.out, HR2.out]; rfl, HB.out⟩
      · have q2 : ¬ (n.v.length : Int) = 4 := by omega
        have q9 : ((n.v.length : Int) == 4) = false := beq_eq_false_iff_ne.2 q2
        have HR2 : Hid (decide (n.v.length = 4) = false) := decide_eq_false h2
        have q6 : ¬ (n.t.toNat : Int) = 6 := by omega
        clear h1 h2 h3
        go_enter Tryz.func76, Tryz.ntmps76
        go_wp2_with fail
        go_ret
        exact ⟨by rw [HR.out, HR2.out]; rfl, HB.out⟩
    · have q1 : ¬ (n.t.toNat : Int) = 5 := fun e => h1 (UInt16.toNat_inj.1 (by show n.t.toNat = 5; omega))
      by_cases h4 : n.t = 6
      · have q4 : (n.t.toNat : Int) = 6 := by rw [h4]; rfl
        have HR : Hid ((decide (n.t = 5) && decide (n.v.length = 4) && decide (n.ks.length = 0) || decide (n.t = 6) && decide (n.v.length = 16) && decide (n.ks.length = 0)) = decide (n.v.length = 16)) := by
          rw [h4, h3]; simp [Hid]
        by_cases h2 : n.v.length = 16
        · have q2 : (n.v.length : Int) = 16 := by omega
          have HR2 : Hid (decide (n.v.length = 16) = true) := decide_eq_true h2
          clear h1 h2 h3 h4
          go_enter Tryz.func76, Tryz.ntmps76
          go_wp2_with fail
          go_ret
          exact ⟨by rw [HR.out, HR2.out]; rfl, HB.out⟩
        · have q2 : ¬ (n.v.length : Int) = 16 := by omega
          have q9 : ((n.v.length : Int) == 16) = false := beq_eq_false_iff_ne.2 q2
          have HR2 : Hid (decide (n.v.length = 16) = false) := decide_eq_false h2
          clear h1 h2 h3 h4
          go_enter Tryz.func76, Tryz.ntmps76
          go_wp2_with fail
          go_ret
          exact ⟨by rw [HR.out, HR2.out]; rfl, HB.out⟩
      · have q4 : ¬ (n.t.toNat : Int) = 6 := fun e => h4 (UInt16.toNat_inj.1 (by show n.t.toNat = 6; omega))
        have HR : Hid ((decide (n.t = 5) && decide (n.v.length = 4) && decide (n.ks.length = 0) || decide (n.t = 6) && decide (n.v.length = 16) && decide (n.ks.length = 0)) = false) := by
          rw [decide_eq_false h1, decide_eq_false h4]; simp [Hid]
        clear h1 h3 h4
        go_enter Tryz.func76, Tryz.ntmps76
        go_wp2_with fail
        go_ret
        exact ⟨by rw [HR.out]; rfl, HB.out⟩
  · have q3 : ¬ (n.ks.length : Int) = 0 := by omega
    have q9 : ((n.ks.length : Int) == 0) = false := beq_eq_false_iff_ne.2 q3
    have q5 : ¬ n.ks = [] := fun e => h3 (by rw [e]; rfl)
    have HR : Hid ((decide (n.t = 5) && decide (n.v.length = 4) && decide (n.ks.length = 0) || decide (n.t = 6) && decide (n.v.length = 16) && decide (n.ks.length = 0)) = false) := by
      rw [decide_eq_false h3]; simp [Hid]
    clear h3
    go_enter Tryz.func76, Tryz.ntmps76
    go_wp2_with fail
    go_ret
    exact ⟨by rw [HR.out]; rfl, HB.out⟩
end Go.Proofs.YteknmgmdmjmnmaaGreatDoor




namespace Go.Proofs.YteknmgmdmjmnmaaGreatDoor
open Go.RowKit Go.Shelf

/-! ### a notation in one piece -/
section
variable {P : Program} {ops : Array Oper} {rest : List Oper} {o : Oper} {a : Act} {w : World} {Q : Exit → Act → World → Prop} {t : Int} {s x y : Int} {m : ByteArray}
theorem wpList_load_nt (hgd : o.guard = none) (T : TypeId) (p : Operand) (ho : o.op = .load T p)
    (g : Nat) (hp : a.eval p = .pointer (some ⟨g, 0, none⟩)) (tt : TypeId) (hc : Whole w g tt #[.int .u16 t, .int .i64 s, .int .i64 x, .int .i64 y, .string m]) (d : TypeDesc)
    (hu : P.underlying T = some d) (hd : (match d with | .struct _ | .array _ _ => true | _ => false) = true) (hi : (P.info? T).map (·.size) = some 5)
    (h : wpList P ops Q rest (a.put o.dst (.agg #[.int .u16 t, .int .i64 s, .int .i64 x, .int .i64 y, .string m])) w) : wpList P ops Q (o :: rest) a w :=
  wpList_load_lies hgd T p ho ⟨g, 0, none⟩ hp [.int .u16 t, .int .i64 s, .int .i64 x, .int .i64 y, .string m] (fun j u hu => by rw [add_row, hc.cell]; simpa using hu) d hu hd hi h
theorem wpList_store_nt (hgd : o.guard = none) (T : TypeId) (p q : Operand) (ho : o.op = .store T p q)
    (g : Nat) (hp : a.eval p = .pointer (some ⟨g, 0, none⟩)) (hq : a.eval q = .agg #[.int .u16 t, .int .i64 s, .int .i64 x, .int .i64 y, .string m])
    (tt : TypeId) (old : Array Value) (hg : w.heap[g]? = some (.cells old tt (0, 0))) (hi : (P.info? T).map (·.size) = some 5) (hold : old.size = 5)
    (h : wpList P ops Q rest (a.put o.dst undef) (w.setRow g #[.int .u16 t, .int .i64 s, .int .i64 x, .int .i64 y, .string m])) : wpList P ops Q (o :: rest) a w :=
  wpList_store_row hgd T p q ho g _ hp hq tt old hg hi hold (by simp [Value.oneCell']) h
theorem wpList_new_nt (hgd : o.guard = none) (T : TypeId) (p q : Operand) (ho : o.op = .store T p q)
    (w0 : World) (old : Array Value) (tt : TypeId) (hw : w = w0.alloc (.cells old tt)) (hp : a.eval p = .pointer (some ⟨w0.heap.size, 0, none⟩)) (hq : a.eval q = .agg #[.int .u16 t, .int .i64 s, .int .i64 x, .int .i64 y, .string m])
    (hi : (P.info? T).map (·.size) = some 5) (hold : old.size = 5)
    (h : wpList P ops Q rest (a.put o.dst undef) (w0.alloc (.cells #[.int .u16 t, .int .i64 s, .int .i64 x, .int .i64 y, .string m] tt))) : wpList P ops Q (o :: rest) a w :=
  wpList_store_new hgd T p q ho w0 old tt hw _ hp hq hi hold (by simp [Value.oneCell']) h
end
abbrev znt : Array Value := #[.int .u16 0, .int .i64 0, .int .i64 0, .int .i64 0, .string ⟨#[]⟩]
theorem idx_nt0 (w : World) : (Instr.index 164 (.agg #[hv 5, .int .i64 4, .int .i64 1, .int .i64 10, .string ⟨#[46]⟩, hv 6, .int .i64 16, .int .i64 2, .int .i64 16, .string ⟨#[58]⟩]) (.int .i64 0)).run Tryz.prog w = .ok (.agg #[hv 5, .int .i64 4, .int .i64 1, .int .i64 10, .string ⟨#[46]⟩]) w := by kernel_rfl
theorem idx_nt1 (w : World) : (Instr.index 164 (.agg #[hv 5, .int .i64 4, .int .i64 1, .int .i64 10, .string ⟨#[46]⟩, hv 6, .int .i64 16, .int .i64 2, .int .i64 16, .string ⟨#[58]⟩]) (.int .i64 1)).run Tryz.prog w = .ok (.agg #[hv 6, .int .i64 16, .int .i64 2, .int .i64 16, .string ⟨#[58]⟩]) w := by kernel_rfl
attribute [local go_sem, local simp] idx_nt0 idx_nt1
/-- what notationOf returns -/
def notV : Nat → Value
  | 0 => .tuple #[nt5, .bool true]
  | 1 => .tuple #[nt6, .bool true]
  | _ => .tuple #[.agg znt, .bool false]
set_option maxRecDepth 100000 in
set_option maxHeartbeats 2000000 in
theorem not_any (n : Nd) (A : Option Addr) (c : Nat) (K : Option Addr) (k : Nat) (w : World) (hT : Tbl w) (hl : n.v.length ≤ 9223372036854775807) (hk : n.ks.length ≤ 9223372036854775807) :
    Calls Tryz.prog 102 #[ndV n A c K k] w fun e w' => e = .returned (notV (nof n)) ∧ Below w.heap.size w w' := by
  have b0 : Below w.heap.size w ((w.alloc (.cells #[hv n.t, .slice A n.v.length c, .slice K n.ks.length k] 51)).alloc (.cells znt 160)) := ((Below.refl _ w).alloc (Nat.le_refl _) _).alloc (by simp) _
  have x0 := (Whole.new w 51 #[hv n.t, .slice A n.v.length c, .slice K n.ks.length k]).alloc (.cells znt 160)
  have x1 := Whole.new (w.alloc (.cells #[hv n.t, .slice A n.v.length c, .slice K n.ks.length k] 51)) 160 znt
  simp only [World.size_alloc] at x1
  have hsz : ((w.alloc (.cells #[hv n.t, .slice A n.v.length c, .slice K n.ks.length k] 51)).alloc (.cells znt 160)).heap.size = w.heap.size + 1 + 1 := by simp
  have hT2 := hT.below b0
  have U0 := hT 0 _ rfl
  have U1 := hT 1 _ rfl
  have U2 := hT 2 _ rfl
  have U3 := hT 3 _ rfl
  have U4 := hT 4 _ rfl
  have U5 := hT 5 _ rfl
  have U6 := hT 6 _ rfl
  have U7 := hT 7 _ rfl
  have U8 := hT 8 _ rfl
  have U9 := hT 9 _ rfl
  have hT0 := hT.lt
  have HB := Lib.hid b0
  clear b0 hT hT2
  unfold ndV
  go_enter Tryz.func102, Tryz.ntmps102
  go_wp2_with fail
  generalize (w.alloc (.cells #[hv n.t, .slice A n.v.length c, .slice K n.ks.length k] 51)).alloc (.cells znt 160) = w0 at *
  go_loopw [7] (fun i wr => ∃ q : Nat, q ≤ 2 ∧ i = .int .i64 q ∧ Hid ((1 ≤ q → fitA 5 4 n = false) ∧ (2 ≤ q → fitA 6 16 n = false)) ∧ Below w0.heap.size w0 wr) (fun i _ => 2 - (intOf i).toNat)
  case atStart => exact ⟨0, by omega, rfl, ⟨fun h => absurd h (by omega), fun h => absurd h (by omega)⟩, Below.refl _ _⟩
  case round =>
    obtain ⟨q, hq, rfl, hno, hbel⟩ := hrel
    have z0 := x0.below hbel (by omega)
    have z1 := x1.below hbel (by omega)
    have hsr := hbel.size
    have p0 : wr.cell? ⟨w.heap.size, 0, none⟩ = some (hv n.t) := by rw [z0.cell]; rfl
    have p1 : wr.cell? ⟨w.heap.size, 1, none⟩ = some (.slice A n.v.length c) := by rw [z0.cell]; rfl
    have p2 : wr.cell? ⟨w.heap.size, 2, none⟩ = some (.slice K n.ks.length k) := by rw [z0.cell]; rfl
    have HBW := Lib.hid (HB.out.trans (hbel.mono (by omega)))
    match q, hq with
    | 2, _ =>
      obtain ⟨h5, h6⟩ := hno.out
      have hn2 : nof n = 2 := by unfold nof; rw [h5 (by omega), h6 (by omega)]; rfl
      have hN := Lib.hid hn2
      clear hno h5 h6 hn2
      go_wp2_with (first | (refine wpList_store_nt rfl 160 _ _ rfl (w.heap.size + 1) rfl rfl _ _ z1 (by kernel_rfl) rfl ?_))
      (try simp only [Exit.inBlock, Exit.then])
      refine bodyPost_ret (results_row_tmp rfl _ _ (w.heap.size + 1) 160 _ _ rfl (z1.setRow _) Tryz.underlying160 rfl (by kernel_rfl)) rfl ?_
      exact ⟨by rw [hN.out]; rfl, below_setRow HBW.out (Nat.le_add_right _ _) _⟩
    | 0, _ =>
      have bn : Below wr.heap.size wr (wr.alloc (.cells #[.int .u16 5, .int .i64 4, .int .i64 1, .int .i64 10, .string ⟨#[46]⟩] 160)) := (Below.refl _ _).alloc (Nat.le_refl _) _
      have hF := fits_nt 5 4 1 10 ⟨#[46]⟩ n A c K k (wr.alloc (.cells #[.int .u16 5, .int .i64 4, .int .i64 1, .int .i64 10, .string ⟨#[46]⟩] 160)) (by omega) hl hk
      have y0 := Whole.new wr 160 #[.int .u16 5, .int .i64 4, .int .i64 1, .int .i64 10, .string ⟨#[46]⟩]
      have y1 := z0.below bn (by omega)
      have r0 : (wr.alloc (.cells #[.int .u16 5, .int .i64 4, .int .i64 1, .int .i64 10, .string ⟨#[46]⟩] 160)).cell? ⟨w.heap.size, 0, none⟩ = some (hv n.t) := by rw [y1.cell]; rfl
      have r1 : (wr.alloc (.cells #[.int .u16 5, .int .i64 4, .int .i64 1, .int .i64 10, .string ⟨#[46]⟩] 160)).cell? ⟨w.heap.size, 1, none⟩ = some (.slice A n.v.length c) := by rw [y1.cell]; rfl
      have r2 : (wr.alloc (.cells #[.int .u16 5, .int .i64 4, .int .i64 1, .int .i64 10, .string ⟨#[46]⟩] 160)).cell? ⟨w.heap.size, 2, none⟩ = some (.slice K n.ks.length k) := by rw [y1.cell]; rfl
      have hsn : (wr.alloc (.cells #[.int .u16 5, .int .i64 4, .int .i64 1, .int .i64 10, .string ⟨#[46]⟩] 160)).heap.size = wr.heap.size + 1 := by simp
      cases hf : fitA 5 4 n with
      | false =>
        rw [hf] at hF
        have HNO : Hid ((1 ≤ 0 + 1 → fitA 5 4 n = false) ∧ (2 ≤ 0 + 1 → fitA 6 16 n = false)) := ⟨fun _ => hf, fun h => absurd h (by omega)⟩
        clear hf hno
        go_wp2_with (first | (refine wpList_new_nt rfl 160 _ _ rfl wr _ _ rfl rfl rfl (by kernel_rfl) rfl ?_))
        refine hF.mono ?_
        rintro e w2 ⟨rfl, b2⟩
        go_wp2_with fail
        go_roundw
        case rel => exact ⟨0 + 1, by omega, by go_num, (by obtain ⟨ha, hb⟩ := HNO.out; exact ⟨fun h => by first | trivial | exact ha h, fun h => by first | trivial | exact hb h⟩), hbel.trans ((bn.trans (b2.mono bn.size)).mono hbel.size)⟩
        case measure => simp [intOf]
      | true =>
        rw [hf] at hF
        have hn2 : nof n = 0 := by unfold nof; rw [hf]; rfl
        have hN := Lib.hid hn2
        clear hno hf hn2
        go_wp2_with (first | (refine wpList_new_nt rfl 160 _ _ rfl wr _ _ rfl rfl rfl (by kernel_rfl) rfl ?_))
        refine hF.mono ?_
        rintro e w2 ⟨rfl, b2⟩
        have u0 := y0.below b2 (by omega)
        have u1 := z1.below (bn.trans (b2.mono bn.size)) (by omega)
        have hfin := HBW.out.trans ((bn.trans (b2.mono bn.size)).mono HBW.out.size)
        go_wp2_with (first | (refine wpList_load_nt rfl 160 _ rfl wr.heap.size rfl _ u0 _ Tryz.underlying160 rfl (by kernel_rfl) ?_) | (refine wpList_store_nt rfl 160 _ _ rfl (w.heap.size + 1) rfl rfl _ _ u1 (by kernel_rfl) rfl ?_))
        (try simp only [Exit.inBlock, Exit.then])
        refine bodyPost_ret (results_row_tmp rfl _ _ (w.heap.size + 1) 160 _ _ rfl (u1.setRow _) Tryz.underlying160 rfl (by kernel_rfl)) rfl ?_
        exact ⟨by rw [hN.out]; rfl, below_setRow hfin (Nat.le_add_right _ _) _⟩
    | 1, _ =>
      have bn : Below wr.heap.size wr (wr.alloc (.cells #[.int .u16 6, .int .i64 16, .int .i64 2, .int .i64 16, .string ⟨#[58]⟩] 160)) := (Below.refl _ _).alloc (Nat.le_refl _) _
      have hF := fits_nt 6 16 2 16 ⟨#[58]⟩ n A c K k (wr.alloc (.cells #[.int .u16 6, .int .i64 16, .int .i64 2, .int .i64 16, .string ⟨#[58]⟩] 160)) (by omega) hl hk
      have y0 := Whole.new wr 160 #[.int .u16 6, .int .i64 16, .int .i64 2, .int .i64 16, .string ⟨#[58]⟩]
      have y1 := z0.below bn (by omega)
      have r0 : (wr.alloc (.cells #[.int .u16 6, .int .i64 16, .int .i64 2, .int .i64 16, .string ⟨#[58]⟩] 160)).cell? ⟨w.heap.size, 0, none⟩ = some (hv n.t) := by rw [y1.cell]; rfl
      have r1 : (wr.alloc (.cells #[.int .u16 6, .int .i64 16, .int .i64 2, .int .i64 16, .string ⟨#[58]⟩] 160)).cell? ⟨w.heap.size, 1, none⟩ = some (.slice A n.v.length c) := by rw [y1.cell]; rfl
      have r2 : (wr.alloc (.cells #[.int .u16 6, .int .i64 16, .int .i64 2, .int .i64 16, .string ⟨#[58]⟩] 160)).cell? ⟨w.heap.size, 2, none⟩ = some (.slice K n.ks.length k) := by rw [y1.cell]; rfl
      have hsn : (wr.alloc (.cells #[.int .u16 6, .int .i64 16, .int .i64 2, .int .i64 16, .string ⟨#[58]⟩] 160)).heap.size = wr.heap.size + 1 := by simp
      cases hf : fitA 6 16 n with
      | false =>
        rw [hf] at hF
        have HNO : Hid ((1 ≤ 1 + 1 → fitA 5 4 n = false) ∧ (2 ≤ 1 + 1 → fitA 6 16 n = false)) := ⟨fun _ => hno.out.1 (by omega), fun _ => hf⟩
        clear hf hno
        go_wp2_with (first | (refine wpList_new_nt rfl 160 _ _ rfl wr _ _ rfl rfl rfl (by kernel_rfl) rfl ?_))
        refine hF.mono ?_
        rintro e w2 ⟨rfl, b2⟩
        go_wp2_with fail
        go_roundw
        case rel => exact ⟨1 + 1, by omega, by go_num, (by obtain ⟨ha, hb⟩ := HNO.out; exact ⟨fun h => by first | trivial | exact ha h, fun h => by first | trivial | exact hb h⟩), hbel.trans ((bn.trans (b2.mono bn.size)).mono hbel.size)⟩
        case measure => simp [intOf]
      | true =>
        rw [hf] at hF
        have hn2 : nof n = 1 := by unfold nof; rw [hno.out.1 (by omega), hf]; rfl
        have hN := Lib.hid hn2
        clear hno hf hn2
        go_wp2_with (first | (refine wpList_new_nt rfl 160 _ _ rfl wr _ _ rfl rfl rfl (by kernel_rfl) rfl ?_))
        refine hF.mono ?_
        rintro e w2 ⟨rfl, b2⟩
        have u0 := y0.below b2 (by omega)
        have u1 := z1.below (bn.trans (b2.mono bn.size)) (by omega)
        have hfin := HBW.out.trans ((bn.trans (b2.mono bn.size)).mono HBW.out.size)
        go_wp2_with (first | (refine wpList_load_nt rfl 160 _ rfl wr.heap.size rfl _ u0 _ Tryz.underlying160 rfl (by kernel_rfl) ?_) | (refine wpList_store_nt rfl 160 _ _ rfl (w.heap.size + 1) rfl rfl _ _ u1 (by kernel_rfl) rfl ?_))
        (try simp only [Exit.inBlock, Exit.then])
        refine bodyPost_ret (results_row_tmp rfl _ _ (w.heap.size + 1) 160 _ _ rfl (u1.setRow _) Tryz.underlying160 rfl (by kernel_rfl)) rfl ?_
        exact ⟨by rw [hN.out]; rfl, below_setRow hfin (Nat.le_add_right _ _) _⟩
end Go.Proofs.YteknmgmdmjmnmaaGreatDoor



namespace Go.Proofs.YteknmgmdmjmnmaaGreatDoor
open Go.RowKit Go.Shelf
attribute [local go_sem, local simp] idx_nt0 idx_nt1

/-- the node of an address of so many bytes -/
def ofN (l : List UInt8) : Nd := .mk (if l.length = 4 then 5 else 6) l []
abbrev znd : Value := .agg #[.int .u16 0, .slice none 0 0, .slice none 0 0]
def OfRAd (w : World) (l : List UInt8) (e : Ending) (w' : World) : Prop := Below w.heap.size w w' ∧
  (((l.length = 4 ∨ l.length = 16) ∧ ∃ A' c', e = .returned (.tuple #[ndV (ofN l) A' c' none 0, .bool true]) ∧ Node w' w'.heap.size A' c' none 0 (ofN l) ∧ ∀ ad, A' = some ad → w.heap.size < ad.block) ∨ (¬ (l.length = 4 ∨ l.length = 16) ∧ e = .returned (.tuple #[znd, .bool false])))
set_option maxRecDepth 100000 in
set_option maxHeartbeats 2000000 in
theorem of_bytes (A : Option Addr) (c : Nat) (l : List UInt8) (w : World) (hT : Tbl w) (h : Lies w w.heap.size A (l.map bv)) (hc : l.length ≤ c) (hm : c ≤ maxLen) (hn : l.length ≤ 140737488355328) :
    Calls Tryz.prog 65 #[.slice A l.length c] w (OfRAd w l) := by
  have b0 : Below w.heap.size w (w.alloc (.cells #[.int .u16 0, .slice none 0 0, .slice none 0 0] 51)) := (Below.refl _ w).alloc (Nat.le_refl _) _
  have x1 := Whole.new w 51 #[.int .u16 0, .slice none 0 0, .slice none 0 0]
  have hsz : (w.alloc (.cells #[.int .u16 0, .slice none 0 0, .slice none 0 0] 51)).heap.size = w.heap.size + 1 := by simp
  have U0 := hT 0 _ rfl
  have U1 := hT 1 _ rfl
  have U2 := hT 2 _ rfl
  have U3 := hT 3 _ rfl
  have U4 := hT 4 _ rfl
  have U5 := hT 5 _ rfl
  have U6 := hT 6 _ rfl
  have U7 := hT 7 _ rfl
  have U8 := hT 8 _ rfl
  have U9 := hT 9 _ rfl
  have hT0 := hT.lt
  have HB := Lib.hid b0
  have hl0 := (h.below b0).more b0.size
  clear b0 hT h
  go_enter Tryz.func65, Tryz.ntmps65
  go_wp2_with fail
  generalize w.alloc (.cells #[.int .u16 0, .slice none 0 0, .slice none 0 0] 51) = w0 at *
  go_loopw [7] (fun i wr => ∃ q : Nat, q ≤ 2 ∧ i = .int .i64 q ∧ Hid ((1 ≤ q → l.length ≠ 4) ∧ (2 ≤ q → l.length ≠ 16)) ∧ Below w0.heap.size w0 wr) (fun i _ => 2 - (intOf i).toNat)
  case atStart => exact ⟨0, by omega, rfl, ⟨fun h => absurd h (by omega), fun h => absurd h (by omega)⟩, Below.refl _ _⟩
  case round =>
    obtain ⟨q, hq, rfl, hno, hbel⟩ := hrel
    have z1 := x1.below hbel (by omega)
    have hsr := hbel.size
    have hlr := (hl0.below hbel).more hsr
    have HBW := Lib.hid (HB.out.trans (hbel.mono (by omega)))
    match q, hq with
    | 2, _ =>
      have HN := Lib.hid (show ¬ (l.length = 4 ∨ l.length = 16) from fun h => by rcases h with h | h; (exact hno.out.1 (by omega) h); (exact hno.out.2 (by omega) h))
      have c0 : wr.cell? ⟨w.heap.size, 0, none⟩ = some (.int .u16 0) := by rw [z1.cell]; rfl
      have c1 : wr.cell? ⟨w.heap.size, 1, none⟩ = some (.slice none 0 0) := by rw [z1.cell]; rfl
      have c2 : wr.cell? ⟨w.heap.size, 2, none⟩ = some (.slice none 0 0) := by rw [z1.cell]; rfl
      clear hno
      go_wp2_with (first | (at_builtin; fail) | (refine wpList_store_row rfl 51 _ _ rfl w.heap.size #[.int .u16 0, .slice none 0 0, .slice none 0 0] rfl rfl _ _ z1 (by kernel_rfl) rfl (by simp [Value.oneCell']) ?_))
      (try simp only [Exit.inBlock, Exit.then])
      refine bodyPost_ret (results_row_tmp rfl _ _ w.heap.size 51 _ _ rfl (z1.setRow _) Tryz.underlying51 rfl (by kernel_rfl)) rfl ?_
      exact ⟨below_setRow HBW.out (Nat.le_refl _) _, .inr ⟨HN.out, rfl⟩⟩
    | 0, _ =>
      have bn : Below wr.heap.size wr (wr.alloc (.cells #[.int .u16 5, .int .i64 4, .int .i64 1, .int .i64 10, .string ⟨#[46]⟩] 160)) := (Below.refl _ _).alloc (Nat.le_refl _) _
      have y0 := Whole.new wr 160 #[.int .u16 5, .int .i64 4, .int .i64 1, .int .i64 10, .string ⟨#[46]⟩]
      have r0 : (wr.alloc (.cells #[.int .u16 5, .int .i64 4, .int .i64 1, .int .i64 10, .string ⟨#[46]⟩] 160)).cell? ⟨wr.heap.size, 0, none⟩ = some (.int .u16 5) := by rw [y0.cell]; rfl
      have r1 : (wr.alloc (.cells #[.int .u16 5, .int .i64 4, .int .i64 1, .int .i64 10, .string ⟨#[46]⟩] 160)).cell? ⟨wr.heap.size, 1, none⟩ = some (.int .i64 4) := by rw [y0.cell]; rfl
      by_cases hf : l.length = 4
      · have hL := Lib.hid hf
        have hf1 : (l.length : Int) = 4 := by omega
        have hsn : (wr.alloc (.cells #[.int .u16 5, .int .i64 4, .int .i64 1, .int .i64 10, .string ⟨#[46]⟩] 160)).heap.size = wr.heap.size + 1 := by simp
        have hln := (hlr.below bn).more bn.size
        have HNF : Hid (l.length = 4 ∨ l.length = 16) := by simp [Hid, hf]
        have HON : Hid ((ofN l).t.toNat = 5) := by unfold ofN; rw [hf]; rfl
        clear hf hno
        go_wp2_with (first | (refine wpList_new_nt rfl 160 _ _ rfl wr _ _ rfl rfl rfl (by kernel_rfl) rfl ?_))
        generalize wr.alloc (.cells #[.int .u16 5, .int .i64 4, .int .i64 1, .int .i64 10, .string ⟨#[46]⟩] 160) = wn at *
        have HC : Hid (∀ W, Below wn.heap.size wn W → Calls Tryz.prog 103 #[.slice A l.length c] W fun e w' => ∃ A' c', e = .returned (.slice A' l.length c') ∧ LiesS w' (NewS W w') A' (l.map bv) ∧ l.length ≤ c' ∧ c' ≤ maxLen ∧ Below wn.heap.size wn w' ∧ Below W.heap.size W w') := fun W hW => by
          refine (bclone_any A c l W ((hln.below hW).more hW.size) hc hm hn).mono ?_
          rintro e w' ⟨A', c', h1, h2, h3, h4, h5⟩
          exact ⟨A', c', h1, h2, h3, h4, hW.trans (h5.mono hW.size), h5⟩
        have KS : Hid (∀ W, Below wn.heap.size wn W → W.cell? ⟨wr.heap.size, 0, none⟩ = some (.int .u16 5)) := fun W hW => (hW.cell (p := ⟨wr.heap.size, 0, none⟩) (by simp; omega)).trans r0
        have z2 := z1.below bn (by omega)
        have HZ : Hid (∀ W, Below wn.heap.size wn W → Whole W w.heap.size 51 #[.int .u16 0, .slice none 0 0, .slice none 0 0]) := fun W hW => z2.below hW (by omega)
        have hneq : ¬ w.heap.size = wr.heap.size := by omega
        clear y0 r1 z2 hln hc
        go_region_held3 (fun W => W.cell? ⟨wr.heap.size, 0, none⟩ = some (.int .u16 5))
          (first | exact KS.out _ (below_drew (Below.refl _ _)) | exact KS.out _ R2 | (rw [World.cell?_setCell_other _ _ _ _ (fun e => hneq (congrArg Addr.block e)), World.cell?_setCell_other _ _ _ _ (fun e => hneq (congrArg Addr.block e)), World.cell?_setCell_other _ _ _ _ (fun e => hneq (congrArg Addr.block e))]; exact KS.out _ R2) | fail)
          (first
          | (go_at_call 103; (with_reducible refine (HC.out _ (below_drew (Below.refl _ _))).mono ?_); rintro e w2 ⟨A2, c2, rfl, hN2, m1, m2, R2, b2⟩; have zz := HZ.out w2 R2; have g0 := zz.cell 0; have g1 := zz.cell 1; have g2 := zz.cell 2; have f0 := zz.frozen 0; have f1 := zz.frozen 1; have f2 := zz.frozen 2; simp only [List.getElem?_toArray, List.getElem?_cons_zero, List.getElem?_cons_succ] at g0 g1 g2)
          | fail)
        have hR := HBW.out.trans ((bn.trans (R2.mono bn.size)).mono HBW.out.size)
        have hR2 := R2.size
        have he : ndV (ofN l) A2 c2 none 0 = .agg #[.int .u16 5, .slice A2 l.length c2, .slice none 0 0] := by unfold ndV hv; rw [HON.out]; rfl
        have HE := Lib.hid he
        have HND : Hid (∀ v0 v1 v2, Node (((w2.setCell ⟨w.heap.size, 0, none⟩ v0).setCell ⟨w.heap.size, 1, none⟩ v1).setCell ⟨w.heap.size, 2, none⟩ v2) w2.heap.size A2 c2 none 0 (ofN l)) := fun v0 v1 v2 => by
          have hk : ∀ p : Addr, wn.heap.size ≤ p.block → (((w2.setCell ⟨w.heap.size, 0, none⟩ v0).setCell ⟨w.heap.size, 1, none⟩ v1).setCell ⟨w.heap.size, 2, none⟩ v2).cell? p = w2.cell? p := fun p hp => by
            rw [World.cell?_setCell_other _ _ _ _ (fun e => by rw [← e] at hp; simp at hp; omega), World.cell?_setCell_other _ _ _ _ (fun e => by rw [← e] at hp; simp at hp; omega), World.cell?_setCell_other _ _ _ _ (fun e => by rw [← e] at hp; simp at hp; omega)]
          exact ⟨(hN2.turn (fun p hp => hk p hp.1) (fun _ h => h)).lies (fun b hb => hb.2), m1, m2, Nodes.nil _ _ _, Nat.le_refl _, Nat.zero_le _⟩
        have HAD : Hid (∀ ad, A2 = some ad → w.heap.size < ad.block) := fun ad e => by
          obtain ⟨ad', q1, q2, _⟩ := hN2 (by intro e'; have q3 := congrArg List.length e'; rw [List.length_map, hL.out] at q3; simp at q3)
          rw [e] at q1
          cases q1
          have q4 : wn.heap.size ≤ ad.block := q2.1
          omega
        clear he hN2 m1 m2 b2
        go_wp2_with fail
        (try simp only [Exit.inBlock, Exit.then])
        refine bodyPost_ret (results_row_tmp rfl _ _ w.heap.size 51 _ _ rfl (((zz.set_ 0 _).set_ 1 _).set_ 2 _) Tryz.underlying51 rfl (by kernel_rfl)) rfl ?_
        refine ⟨((hR.setCell (Nat.le_refl _) _).setCell (Nat.le_refl _) _).setCell (Nat.le_refl _) _, .inl ⟨HNF.out, A2, c2, ?_, ?_, HAD.out⟩⟩
        · rw [HE.out]; rfl
        · have h := HND.out (.int .u16 5) (.slice A2 l.length c2) (.slice none 0 0)
          simpa [World.setCell] using h
      · have hf1 : ¬ (l.length : Int) = 4 := by omega
        have HNO : Hid ((1 ≤ 0 + 1 → l.length ≠ 4) ∧ (2 ≤ 0 + 1 → l.length ≠ 16)) := ⟨fun _ => hf, fun h => absurd h (by omega)⟩
        clear hf hno
        go_wp2_with (first | (refine wpList_new_nt rfl 160 _ _ rfl wr _ _ rfl rfl rfl (by kernel_rfl) rfl ?_))
        go_roundw
        case rel => exact ⟨0 + 1, by omega, by go_num, HNO, hbel.trans (bn.mono hbel.size)⟩
        case measure => simp [intOf]
    | 1, _ =>
      have bn : Below wr.heap.size wr (wr.alloc (.cells #[.int .u16 6, .int .i64 16, .int .i64 2, .int .i64 16, .string ⟨#[58]⟩] 160)) := (Below.refl _ _).alloc (Nat.le_refl _) _
      have y0 := Whole.new wr 160 #[.int .u16 6, .int .i64 16, .int .i64 2, .int .i64 16, .string ⟨#[58]⟩]
      have r0 : (wr.alloc (.cells #[.int .u16 6, .int .i64 16, .int .i64 2, .int .i64 16, .string ⟨#[58]⟩] 160)).cell? ⟨wr.heap.size, 0, none⟩ = some (.int .u16 6) := by rw [y0.cell]; rfl
      have r1 : (wr.alloc (.cells #[.int .u16 6, .int .i64 16, .int .i64 2, .int .i64 16, .string ⟨#[58]⟩] 160)).cell? ⟨wr.heap.size, 1, none⟩ = some (.int .i64 16) := by rw [y0.cell]; rfl
      by_cases hf : l.length = 16
      · have hL := Lib.hid hf
        have hf1 : (l.length : Int) = 16 := by omega
        have hsn : (wr.alloc (.cells #[.int .u16 6, .int .i64 16, .int .i64 2, .int .i64 16, .string ⟨#[58]⟩] 160)).heap.size = wr.heap.size + 1 := by simp
        have hln := (hlr.below bn).more bn.size
        have HNF : Hid (l.length = 4 ∨ l.length = 16) := by simp [Hid, hf]
        have HON : Hid ((ofN l).t.toNat = 6) := by unfold ofN; rw [hf]; rfl
        clear hf hno
        go_wp2_with (first | (refine wpList_new_nt rfl 160 _ _ rfl wr _ _ rfl rfl rfl (by kernel_rfl) rfl ?_))
        generalize wr.alloc (.cells #[.int .u16 6, .int .i64 16, .int .i64 2, .int .i64 16, .string ⟨#[58]⟩] 160) = wn at *
        have HC : Hid (∀ W, Below wn.heap.size wn W → Calls Tryz.prog 103 #[.slice A l.length c] W fun e w' => ∃ A' c', e = .returned (.slice A' l.length c') ∧ LiesS w' (NewS W w') A' (l.map bv) ∧ l.length ≤ c' ∧ c' ≤ maxLen ∧ Below wn.heap.size wn w' ∧ Below W.heap.size W w') := fun W hW => by
          refine (bclone_any A c l W ((hln.below hW).more hW.size) hc hm hn).mono ?_
          rintro e w' ⟨A', c', h1, h2, h3, h4, h5⟩
          exact ⟨A', c', h1, h2, h3, h4, hW.trans (h5.mono hW.size), h5⟩
        have KS : Hid (∀ W, Below wn.heap.size wn W → W.cell? ⟨wr.heap.size, 0, none⟩ = some (.int .u16 6)) := fun W hW => (hW.cell (p := ⟨wr.heap.size, 0, none⟩) (by simp; omega)).trans r0
        have z2 := z1.below bn (by omega)
        have HZ : Hid (∀ W, Below wn.heap.size wn W → Whole W w.heap.size 51 #[.int .u16 0, .slice none 0 0, .slice none 0 0]) := fun W hW => z2.below hW (by omega)
        have hneq : ¬ w.heap.size = wr.heap.size := by omega
        clear y0 r1 z2 hln hc
        go_region_held3 (fun W => W.cell? ⟨wr.heap.size, 0, none⟩ = some (.int .u16 6))
          (first | exact KS.out _ (below_drew (Below.refl _ _)) | exact KS.out _ R2 | (rw [World.cell?_setCell_other _ _ _ _ (fun e => hneq (congrArg Addr.block e)), World.cell?_setCell_other _ _ _ _ (fun e => hneq (congrArg Addr.block e)), World.cell?_setCell_other _ _ _ _ (fun e => hneq (congrArg Addr.block e))]; exact KS.out _ R2) | fail)
          (first
          | (go_at_call 103; (with_reducible refine (HC.out _ (below_drew (Below.refl _ _))).mono ?_); rintro e w2 ⟨A2, c2, rfl, hN2, m1, m2, R2, b2⟩; have zz := HZ.out w2 R2; have g0 := zz.cell 0; have g1 := zz.cell 1; have g2 := zz.cell 2; have f0 := zz.frozen 0; have f1 := zz.frozen 1; have f2 := zz.frozen 2; simp only [List.getElem?_toArray, List.getElem?_cons_zero, List.getElem?_cons_succ] at g0 g1 g2)
          | fail)
        have hR := HBW.out.trans ((bn.trans (R2.mono bn.size)).mono HBW.out.size)
        have hR2 := R2.size
        have he : ndV (ofN l) A2 c2 none 0 = .agg #[.int .u16 6, .slice A2 l.length c2, .slice none 0 0] := by unfold ndV hv; rw [HON.out]; rfl
        have HE := Lib.hid he
        have HND : Hid (∀ v0 v1 v2, Node (((w2.setCell ⟨w.heap.size, 0, none⟩ v0).setCell ⟨w.heap.size, 1, none⟩ v1).setCell ⟨w.heap.size, 2, none⟩ v2) w2.heap.size A2 c2 none 0 (ofN l)) := fun v0 v1 v2 => by
          have hk : ∀ p : Addr, wn.heap.size ≤ p.block → (((w2.setCell ⟨w.heap.size, 0, none⟩ v0).setCell ⟨w.heap.size, 1, none⟩ v1).setCell ⟨w.heap.size, 2, none⟩ v2).cell? p = w2.cell? p := fun p hp => by
            rw [World.cell?_setCell_other _ _ _ _ (fun e => by rw [← e] at hp; simp at hp; omega), World.cell?_setCell_other _ _ _ _ (fun e => by rw [← e] at hp; simp at hp; omega), World.cell?_setCell_other _ _ _ _ (fun e => by rw [← e] at hp; simp at hp; omega)]
          exact ⟨(hN2.turn (fun p hp => hk p hp.1) (fun _ h => h)).lies (fun b hb => hb.2), m1, m2, Nodes.nil _ _ _, Nat.le_refl _, Nat.zero_le _⟩
        have HAD : Hid (∀ ad, A2 = some ad → w.heap.size < ad.block) := fun ad e => by
          obtain ⟨ad', q1, q2, _⟩ := hN2 (by intro e'; have q3 := congrArg List.length e'; rw [List.length_map, hL.out] at q3; simp at q3)
          rw [e] at q1
          cases q1
          have q4 : wn.heap.size ≤ ad.block := q2.1
          omega
        clear he hN2 m1 m2 b2
        go_wp2_with fail
        (try simp only [Exit.inBlock, Exit.then])
        refine bodyPost_ret (results_row_tmp rfl _ _ w.heap.size 51 _ _ rfl (((zz.set_ 0 _).set_ 1 _).set_ 2 _) Tryz.underlying51 rfl (by kernel_rfl)) rfl ?_
        refine ⟨((hR.setCell (Nat.le_refl _) _).setCell (Nat.le_refl _) _).setCell (Nat.le_refl _) _, .inl ⟨HNF.out, A2, c2, ?_, ?_, HAD.out⟩⟩
        · rw [HE.out]; rfl
        · have h := HND.out (.int .u16 6) (.slice A2 l.length c2) (.slice none 0 0)
          simpa [World.setCell] using h
      · have hf1 : ¬ (l.length : Int) = 16 := by omega
        have HNO : Hid ((1 ≤ 1 + 1 → l.length ≠ 4) ∧ (2 ≤ 1 + 1 → l.length ≠ 16)) := ⟨fun _ => hno.out.1 (by omega), fun _ => hf⟩
        clear hf hno
        go_wp2_with (first | (refine wpList_new_nt rfl 160 _ _ rfl wr _ _ rfl rfl rfl (by kernel_rfl) rfl ?_))
        go_roundw
        case rel => exact ⟨1 + 1, by omega, by go_num, HNO, hbel.trans (bn.mono hbel.size)⟩
        case measure => simp [intOf]
end Go.Proofs.YteknmgmdmjmnmaaGreatDoor


