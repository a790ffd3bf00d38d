/- NodeK + NodeL -/
import Derived.Test.YthkbcpbgoefanaaGreatDoorQNodeFG
import Derived.Test.YthkbcpbgoefanaaGreatDoorQNodeHJ
import Derived.Test.YthkbcpbgoefanaaGreatDoorQTC
import Derived.Test.YthkbcpbgoefanaaGreatDoorQTA



namespace Go.Proofs.YthkbcpbgoefanaaGreatDoor
open Go.RowKit

inductive PR where
  | ok (ns : List Nd)
  | bad (code at_ : Nat)
inductive NR where
  | ok (n : Nd)
  | bad (code at_ : Nat)
/-- how many bytes of a value are in front of the kids -/
def frontOf (c : Int) (t : UInt16) (n : Nat) : Nat := if (formOf c t).ki = 0 then n else (formOf c t).lo.toNat
/-- a node is read, where P reads lists -/
def rdStep (P : Int → List UInt8 → PR) (c : Int) (fr : Fr) : NR :=
  if fr.v.length < frontOf c fr.t fr.v.length ∨ fitK c fr.t (frontOf c fr.t fr.v.length) = false then .bad 7 0
  else if cntB c fr.t (fr.v.take (frontOf c fr.t fr.v.length)) = false then .bad 8 4
  else match P (ins (formOf c fr.t).ki).1 (fr.v.drop (frontOf c fr.t fr.v.length)) with
    | .bad code at_ => .bad code (at_ + (4 + frontOf c fr.t fr.v.length))
    | .ok kids => if insB (formOf c fr.t).ki kids = false then .bad 7 0 else .ok (.mk fr.t (fr.v.take (frontOf c fr.t fr.v.length)) kids)
/-- a list is read, where R reads nodes -/
def stepL (R : Fr → NR) : List (Nat × Fr) → PR
  | [] => .ok []
  | (k, f) :: rest => match R f with
    | .bad c a => .bad c (a + k)
    | .ok n => match stepL R rest with
      | .bad c a => .bad c a
      | .ok ns => .ok (n :: ns)
def pal (R : Fr → NR) (b : List UInt8) : PR := match spl b with
  | .bad c k => .bad c k
  | .ok _ => stepL R (yla b 0)
/-- a node is read (f: how much deeper the depth may be) -/
def rd : Nat → Int → Fr → NR
  | 0, _, _ => .bad 9 0
  | f + 1, c, fr => rdStep (fun c' b => pal (rd f c') b) c fr
def pa (f : Nat) (c : Int) (b : List UInt8) : PR := pal (rd f c) b
theorem rd_succ (f : Nat) (c : Int) (fr : Fr) : rd (f + 1) c fr = rdStep (pa f) c fr := rfl

/-- all of the list has been read -/
theorem stepL_ok {R : Fr → NR} {l : List (Nat × Fr)} {ns : List Nd} (h : l.map (fun p => R p.2) = ns.map NR.ok) : stepL R l = .ok ns := by
  induction l generalizing ns with
  | nil =>
    cases ns with
    | nil => rfl
    | cons n ns => simp at h
  | cons p l ih =>
    cases ns with
    | nil => simp at h
    | cons n ns =>
      simp only [List.map_cons, List.cons.injEq] at h
      obtain ⟨k, f⟩ := p
      simp only [stepL, h.1, ih h.2]
/-- the first of the list that can't be read -/
theorem stepL_bad {R : Fr → NR} {pre : List (Nat × Fr)} {ns : List Nd} {k : Nat} {f : Fr} {post : List (Nat × Fr)} {c a : Nat} (h : pre.map (fun p => R p.2) = ns.map NR.ok) (hf : R f = .bad c a) : stepL R (pre ++ (k, f) :: post) = .bad c (a + k) := by
  induction pre generalizing ns with
  | nil => simp only [List.nil_append, stepL, hf]
  | cons p l ih =>
    cases ns with
    | nil => simp at h
    | cons n ns =>
      simp only [List.map_cons, List.cons.injEq] at h
      obtain ⟨k2, f2⟩ := p
      simp only [List.cons_append, stepL, h.1, ih h.2]

/-! ### the offsets lie in the bytes -/
theorem yla_mem (b : List UInt8) : ∀ m k, b.length - k ≤ m → ∀ p ∈ yla b k, p.1 + frL p.2 ≤ b.length := by
  intro m
  induction m with
  | zero =>
    intro k hk p hp
    rw [yla_none (by unfold fa; rw [if_pos (by omega)])] at hp
    cases hp
  | succ m ih =>
    intro k hk p hp
    cases hf : fa b k with
    | none => rw [yla_none hf] at hp; cases hp
    | some f =>
      have hl := fa_len hf
      have hp4 := frL_pos f
      cases hn : nx b (k + frL f) with
      | none =>
        rw [yla_last hf hn] at hp
        rw [List.mem_singleton.1 hp]
        exact hl
      | some k' =>
        rw [yla_more hf hn] at hp
        obtain ⟨_, h2, _⟩ := nx_some hn
        rcases List.mem_cons.1 hp with rfl | hp
        · exact hl
        · exact ih k' (by omega) p hp
theorem yla_in {b : List UInt8} {p : Nat × Fr} (h : p ∈ yla b 0) : p.1 + frL p.2 ≤ b.length := yla_mem b b.length 0 (by omega) p h
theorem kend_le (b : List UInt8) : kend (yla b 0) ≤ b.length := by
  unfold kend
  cases h : (yla b 0).getLast? with
  | none => exact Nat.zero_le _
  | some y => exact yla_in (List.mem_of_getLast? h)
theorem spl_at {b : List UInt8} {c k : Nat} (h : spl b = .bad c k) : k ≤ b.length := by
  unfold spl at h
  split at h
  · cases h
  · split at h
    · simp only [Out.bad.injEq] at h
      rw [← h.2]
      exact kend_le b
    · rename_i k' hn
      simp only [Out.bad.injEq] at h
      rw [← h.2]
      exact Nat.le_of_lt (nx_some hn).2.2.1
theorem stepL_at {R : Fr → NR} (hR : ∀ f c a, R f = .bad c a → a ≤ frL f) {m : Nat} : ∀ (l : List (Nat × Fr)), (∀ p ∈ l, p.1 + frL p.2 ≤ m) → ∀ c a, stepL R l = .bad c a → a ≤ m := by
  intro l
  induction l with
  | nil => intro _ c a h; cases h
  | cons p l ih =>
    intro hm c a h
    obtain ⟨k, f⟩ := p
    have h0 := hm (k, f) List.mem_cons_self
    simp only [stepL] at h
    cases hf : R f with
    | bad c1 a1 =>
      rw [hf] at h
      simp only [PR.bad.injEq] at h
      have := hR f c1 a1 hf
      simp only at h0
      omega
    | ok n =>
      rw [hf] at h
      simp only at h
      cases hs : stepL R l with
      | ok ns => rw [hs] at h; cases h
      | bad c2 a2 =>
        rw [hs] at h
        simp only [PR.bad.injEq] at h
        have := ih (fun q hq => hm q (List.mem_cons_of_mem _ hq)) c2 a2 hs
        omega
theorem pal_at {R : Fr → NR} (hR : ∀ f c a, R f = .bad c a → a ≤ frL f) {b : List UInt8} {c a : Nat} (h : pal R b = .bad c a) : a ≤ b.length := by
  unfold pal at h
  cases hs : spl b with
  | bad c1 k =>
    rw [hs] at h
    simp only [PR.bad.injEq] at h
    rw [← h.2]
    exact spl_at hs
  | ok fs =>
    rw [hs] at h
    exact stepL_at hR _ (fun p hp => yla_in hp) c a h
theorem rd_at : ∀ (f : Nat) (c : Int) (fr : Fr) (code a : Nat), rd f c fr = .bad code a → a ≤ frL fr := by
  intro f
  induction f with
  | zero => intro c fr code a h; simp only [rd, NR.bad.injEq] at h; omega
  | succ f ih =>
    intro c fr code a h
    rw [rd_succ] at h
    unfold rdStep at h
    unfold frL
    split at h
    · simp only [NR.bad.injEq] at h; omega
    · rename_i h1
      split at h
      · simp only [NR.bad.injEq] at h; omega
      · cases hp : pa f (ins (formOf c fr.t).ki).1 (fr.v.drop (frontOf c fr.t fr.v.length)) with
        | bad c1 a1 =>
          rw [hp] at h
          simp only [NR.bad.injEq] at h
          have h2 := pal_at (ih _) hp
          rw [List.length_drop] at h2
          have h3 : ¬ fr.v.length < frontOf c fr.t fr.v.length := fun e => h1 (.inl e)
          omega
        | ok kids =>
          rw [hp] at h
          simp only at h
          split at h
          · simp only [NR.bad.injEq] at h; omega
          · cases h
theorem pa_at {f : Nat} {c : Int} {b : List UInt8} {code a : Nat} (h : pa f c b = .bad code a) : a ≤ b.length := pal_at (rd_at f c) h
end Go.Proofs.YthkbcpbgoefanaaGreatDoor




namespace Go.Proofs.YthkbcpbgoefanaaGreatDoor
open Go.RowKit

theorem u8size (W : World) : (sizeOf 5).run Tryz.prog W = .ok 1 W := by kernel_rfl
theorem elem_u8 : Tryz.prog.elem 22 = 5 := by kernel_rfl
theorem slice_to {w : World} {B : Nat} (A : Option Addr) (c : Nat) (l : List UInt8) (k : Nat) (h : Lies w B A (l.map bv)) (hc : l.length ≤ c) (hm : c ≤ maxLen) (hk : k ≤ l.length) :
    ∃ A1 c1, (∀ W : World, (Instr.slice 22 (.slice A l.length c) none (some (.int .i64 (k : Int))) none).run Tryz.prog W = .ok (.slice A1 (l.take k).length c1) W) ∧ Lies w B A1 ((l.take k).map bv) ∧ (l.take k).length ≤ c1 ∧ c1 ≤ maxLen := by
  have hlk : (l.take k).length = k := by rw [List.length_take]; omega
  refine ⟨if c = 0 then A else A.map (·.add 0), c, fun W => ?_, ?_, by omega, hm⟩
  · rw [run_slice_h (P := Tryz.prog) W 22 A l.length c (by rw [elem_u8]; exact Tryz.underlying22) .i64 (k : Int) (by omega) (by omega), elem_u8, u8size, hlk]
    simp [Result.andThen, sliced]
  · have h2 := (h.drop (k := 0) (c := c) (by simpa using hc)).take k
    rwa [List.drop_zero, ← List.map_take] at h2
theorem slice_from {w : World} {B : Nat} (A : Option Addr) (c : Nat) (l : List UInt8) (k : Nat) (h : Lies w B A (l.map bv)) (hc : l.length ≤ c) (hm : c ≤ maxLen) (hk : k ≤ l.length) :
    ∃ A1 c1, (∀ W : World, (Instr.slice 22 (.slice A l.length c) (some (.int .i64 (k : Int))) none none).run Tryz.prog W = .ok (.slice A1 (l.drop k).length c1) W) ∧ Lies w B A1 ((l.drop k).map bv) ∧ (l.drop k).length ≤ c1 ∧ c1 ≤ maxLen := by
  refine ⟨if c = k then A else A.map (·.add k), c - k, fun W => ?_, ?_, by rw [List.length_drop]; omega, by omega⟩
  · rw [run_slice_l (P := Tryz.prog) W 22 A l.length c (by rw [elem_u8]; exact Tryz.underlying22) .i64 (k : Int) (by omega) (by omega), elem_u8, u8size]
    simp [Result.andThen, sliced]
  · have h2 := h.drop (k := k) (c := c) (by simpa using hc)
    rwa [← List.map_drop] at h2
theorem wpList_slice_is {P : Program} {ops : Array Oper} {rest : List Oper} {o : Oper} {a : Act} {w : World} {Q : Exit → Act → World → Prop} (hgd : o.guard = none) (t : TypeId) (x : Operand) (lo hi mx : Option Operand) (ho : o.op = .slice t x lo hi mx) (ht : P.underlying t = some (.slice (P.elem t)))
    (v : Value) (hr : (Instr.slice t (a.eval x) (lo.map a.eval) (hi.map a.eval) (mx.map a.eval)).run P w = .ok v w) (h : wpList P ops Q rest (a.put o.dst v) w) : wpList P ops Q (o :: rest) a w := by
  refine wpList_plain hgd fun _ hK => ?_
  unfold Oper.wp execOp
  simp only [ho, Sem.run_bind, Sem.run_pure, Result.andThen_ok, run_sliceAt_slice w t _ _ _ _ ht, hr]
  exact hK _ _ h

theorem yla_len (b : List UInt8) : ∀ m k, b.length - k ≤ m → (yla b k).length ≤ m := by
  intro m
  induction m with
  | zero =>
    intro k hk
    rw [yla_none (by unfold fa; rw [if_pos (by omega)])]
    exact Nat.le_refl _
  | succ m ih =>
    intro k hk
    cases hf : fa b k with
    | none => rw [yla_none hf]; exact Nat.zero_le _
    | some f =>
      have hp4 := frL_pos f
      cases hn : nx b (k + frL f) with
      | none => rw [yla_last hf hn]; simp
      | some k' =>
        obtain ⟨_, h2, _⟩ := nx_some hn
        rw [yla_more hf hn, List.length_cons]
        have := ih k' (by omega)
        omega
/-! ### how read and parse end -/
abbrev zeroNd : Value := .agg #[.int .u16 0, .slice none 0 0, .slice none 0 0]
def ReadR (w : World) (r : NR) (e : Ending) (w' : World) : Prop := Below w.heap.size w w' ∧
  match r with
  | .ok n => ∃ A c K k, e = .returned (.tuple #[ndV n A c K k, .nilIface]) ∧ NodeS w' (NewS w w') A c K k n
  | .bad code a => e = .returned (.tuple #[zeroNd, faultV (code : Int) (a : Int)])
def ParseR (w : World) (r : PR) (e : Ending) (w' : World) : Prop := Below w.heap.size w w' ∧
  match r with
  | .ok ns => ∃ A c, e = .returned (.tuple #[.slice A ns.length c, .nilIface]) ∧ NodesS w' (NewS w w') A ns ∧ ns.length ≤ c ∧ c ≤ maxLen ∧ ns.length ≤ 10000000
  | .bad code a => e = .returned (.tuple #[.slice none 0 0, faultV (code : Int) (a : Int)])
def ReadOK (f : Nat) : Prop := ∀ (c : Int) (fr : Fr) (d : Nat) (A : Option Addr) (cc : Nat) (w : World), d + f = 5 → Handle w → Lies w w.heap.size A (fr.v.map bv) → fr.v.length ≤ cc → cc ≤ maxLen → fr.v.length ≤ 10000000 →
  Calls Tryz.prog 144 #[.int .i64 c, .agg #[hv fr.t, .slice A fr.v.length cc], .int .i64 (d : Int)] w (ReadR w (rd f c fr))
def ParseOK (f : Nat) : Prop := ∀ (c : Int) (b : List UInt8) (d : Nat) (A : Option Addr) (cc : Nat) (w : World), d + f = 5 → Handle w → Lies w w.heap.size A (b.map bv) → b.length ≤ cc → cc ≤ maxLen → b.length ≤ 10000000 →
  Calls Tryz.prog 116 #[.int .i64 c, .slice A b.length cc, .int .i64 (d : Int)] w (ParseR w (pa f c b))
theorem own_liesS {w : World} {base n c L : Nat} {A : Option Addr} {xs : List Value} {t : TypeId} (h : w.ownsRow base t 1 (.slice A n c) n xs) (hL : L ≤ base) : LiesS w (fun b => L ≤ b ∧ b < w.heap.size) A xs := fun hne => by
  rcases h.2 with ⟨h1, h2⟩ | ⟨g, cap, cur, h1, h2, h3, _⟩
  · refine absurd (List.eq_nil_of_length_eq_zero ?_) hne
    rw [h.1, h2]
  · simp only [Value.slice.injEq] at h1
    obtain ⟨rfl, _, _⟩ := h1
    exact ⟨_, rfl, ⟨Nat.le_trans hL h2, (Array.getElem?_eq_some_iff.1 h3).1⟩, h.cells (g := g) rfl⟩

/-- the three variables of a reading: the frame, the result, the form -/
structure Box3 (W : World) (g0 g1 : Nat) (fr : Fr) (A : Option Addr) (cc : Nat) (F : Form) (lo : Int) : Prop where
  fb : Whole W g0 96 #[hv fr.t, .slice A fr.v.length cc]
  rs : Whole W (g0 + 1) 50 #[.int .u16 0, .slice none 0 0, .slice none 0 0]
  fo : Whole W g1 206 #[.int .i64 F.cl, hv F.ty, .string F.nm, .int .i64 lo, .int .i64 F.hi, .int .i64 F.un, .int .i64 F.ki]
section
variable {W W' : World} {g0 g1 : Nat} {fr : Fr} {A : Option Addr} {cc : Nat} {F : Form} {lo : Int}
theorem Box3.below (h : Box3 W g0 g1 fr A cc F lo) (hb : Below W.heap.size W W') : Box3 W' g0 g1 fr A cc F lo := ⟨h.fb.below hb h.fb.lt, h.rs.below hb h.rs.lt, h.fo.below hb h.fo.lt⟩
theorem Box3.c0 (h : Box3 W g0 g1 fr A cc F lo) : W.cell? ⟨g0, 0, none⟩ = some (hv fr.t) := by rw [h.fb.cell]; rfl
theorem Box3.c1 (h : Box3 W g0 g1 fr A cc F lo) : W.cell? ⟨g0, 1, none⟩ = some (.slice A fr.v.length cc) := by rw [h.fb.cell]; rfl
theorem Box3.r0 (h : Box3 W g0 g1 fr A cc F lo) : W.cell? ⟨g0 + 1, 0, none⟩ = some (.int .u16 0) := by rw [h.rs.cell]; rfl
theorem Box3.r1 (h : Box3 W g0 g1 fr A cc F lo) : W.cell? ⟨g0 + 1, 1, none⟩ = some (.slice none 0 0) := by rw [h.rs.cell]; rfl
theorem Box3.r2 (h : Box3 W g0 g1 fr A cc F lo) : W.cell? ⟨g0 + 1, 2, none⟩ = some (.slice none 0 0) := by rw [h.rs.cell]; rfl
theorem Box3.k0 (h : Box3 W g0 g1 fr A cc F lo) : W.cell? ⟨g1, 0, none⟩ = some (.int .i64 F.cl) := by rw [h.fo.cell]; rfl
theorem Box3.k1 (h : Box3 W g0 g1 fr A cc F lo) : W.cell? ⟨g1, 1, none⟩ = some (hv F.ty) := by rw [h.fo.cell]; rfl
theorem Box3.k2 (h : Box3 W g0 g1 fr A cc F lo) : W.cell? ⟨g1, 2, none⟩ = some (.string F.nm) := by rw [h.fo.cell]; rfl
theorem Box3.k3 (h : Box3 W g0 g1 fr A cc F lo) : W.cell? ⟨g1, 3, none⟩ = some (.int .i64 lo) := by rw [h.fo.cell]; rfl
theorem Box3.k4 (h : Box3 W g0 g1 fr A cc F lo) : W.cell? ⟨g1, 4, none⟩ = some (.int .i64 F.hi) := by rw [h.fo.cell]; rfl
theorem Box3.k5 (h : Box3 W g0 g1 fr A cc F lo) : W.cell? ⟨g1, 5, none⟩ = some (.int .i64 F.un) := by rw [h.fo.cell]; rfl
theorem Box3.k6 (h : Box3 W g0 g1 fr A cc F lo) : W.cell? ⟨g1, 6, none⟩ = some (.int .i64 F.ki) := by rw [h.fo.cell]; rfl
theorem Box3.set (h : Box3 W g0 g1 fr A cc F lo) (u v x : Value) : Whole (((W.setCell ⟨g0 + 1, 0, none⟩ u).setCell ⟨g0 + 1, 1, none⟩ v).setCell ⟨g0 + 1, 2, none⟩ x) (g0 + 1) 50 #[u, v, x] := ((h.rs.set_ 0 _).set_ 1 _).set_ 2 _
end
end Go.Proofs.YthkbcpbgoefanaaGreatDoor


