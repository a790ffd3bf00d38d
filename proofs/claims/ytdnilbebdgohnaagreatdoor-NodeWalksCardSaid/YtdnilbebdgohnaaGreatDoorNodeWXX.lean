/- A loop over an iterator whose elements lie in memory that the iterator made, where the body may leave the loop at any element, by a jump ('break', or 'return'). Over whatever program. -/
import Derived.Test.YtdnilbebdgohnaaGreatDoorNodeHJ
import Derived.Test.YtdnilbebdgohnaaGreatDoorNodeNO
import Derived.Test.YtdnilbebdgohnaaGreatDoorNodePQ

namespace Go.Proofs.YtdnilbebdgohnaaGreatDoor
open Go.RowKit

/-- how a body ends that goes on or leaves by the jump c -/
def leave {α : Type} (c : Code) (B : Nat) (Kp : World → World → Prop) (I : List α → World → Prop) (Ix : List α × α → World → Prop) (pre : List α) (x : α) (W : World) : Exit → Act → World → Prop
  | .normal, _, W' => KeepsFrom B W W' ∧ Kp W W' ∧ I (pre ++ [x]) W'
  | .ret, _, W' => c = .ret ∧ KeepsFrom B W W' ∧ Ix (pre, x) W'
  | .exit id, _, W' => c = .exit id ∧ KeepsFrom B W W' ∧ Ix (pre, x) W'
  | .goto _, _, _ => False
  | .panic _, _, _ => False
  | .outgrown, _, _ => False

/-- an iterator that ends by itself, or where a round has said 'no more' (Row: what it says of an element as it hands it over, behind those that have come) -/
def ComesL {α : Type} (F : Fence) (n : Nat) (P : Program) (gf : Nat) (lb : Array Value) (encs : α → Array Value) (Kp : World → World → Prop) (G : World → Nat → Prop) (Row : List α → World → α → Prop) (Fin : List α → Prop) (FinX : List α × α → Prop) (N : Nat) (w : World) : Prop :=
  ∀ (l : Nat) (J : List α → World → Prop) (Jx : List α × α → World → Prop) (W : World), Below w.heap.size w W → OwnFrom W.heap.size J → OwnFrom W.heap.size Jx → (∀ s A, J s A → ∀ i, G A i → i < A.heap.size) →
    (∀ pre x W1, J pre W1 → pre.length < N → Row pre W1 x → YieldAt F (n - 1) P l (encs x) W1 fun e W' => ((e = .returned (.bool true) ∧ J (pre ++ [x]) W' ∧ Kp W1 W') ∨ (e = .returned (.bool false) ∧ Jx (pre, x) W')) ∧ KeepsFrom W.heap.size W1 W') → J [] W →
    CallsIn F n P gf (#[.func (.yield l) #[] #[]] ++ lb) W fun e W' => (∃ v, e = .returned v) ∧ ((∃ xs, Fin xs ∧ J xs W') ∨ (∃ p, FinX p ∧ Jx p W'))

theorem each_leave {α : Type} (c : Code) {F : Fence} {n : Nat} {P : Program} {g : Operand} {ps : Array Tmp} {assign body : Code} {Q : Exit → Act → World → Prop} {a : Act} {w : World}
    (hro : F.round = none) (h1 : 1 ≤ n) {gf : Nat} {lb : Array Value} (hg : a.eval g = .func (.func gf) #[] lb) (hFg : F.fn gf) (eg : ∀ args w, (callFunc gf args).run P w = .ok (.enter gf args) w)
    {encs : α → Array Value} {Kp : World → World → Prop} {G : World → Nat → Prop} {Row : List α → World → α → Prop} {Fin : List α → Prop} {FinX : List α × α → Prop} {N : Nat} (hseq : ComesL F (n - 1) P gf lb encs Kp G Row Fin FinX N w)
    (hps : ∀ x, (encs x).size = ps.size)
    (hKt : ∀ {A B C : World}, Kp A B → Kp B C → Kp A C) (hKb : ∀ (W : World) (l : Nat) (o o' : Obj), w.heap.size ≤ l → W.heap[l]? = some o → o.isCells = false → Kp W (W.putObj l o'))
    (I : List α → World → Prop) (hI : OwnFrom w.heap.size I) (Ix : List α × α → World → Prop) (hIx : OwnFrom w.heap.size Ix) (h0 : I [] w) (hG : ∀ s A, I s A → ∀ i, G A i → i < A.heap.size)
    (Ax : List α → α → Act → World → Prop) (hAx : ∀ pre x a', OwnFrom w.heap.size (fun (_ : Unit) W => Ax pre x a' W))
    (hassign : ∀ (l : Nat) (pre : List α) (x : α) (W : World) (K : Act → World → Prop), I pre W → Row pre W x → (∀ a' W', KeepsFrom w.heap.size W W' → Kp W W' → Ax pre x a' W' → K a' W') →
      assign.wpIn (F.inRound l) (n - 1 - 1) P (Exit.then K (fun _ _ _ => False)) { tmps := (ps.zip (encs x)).foldl (fun t (p, v) => t.setIfInBounds p v) a.tmps, defers := [] } W)
    (hbody : ∀ (l : Nat) (pre : List α) (x : α) (a' : Act) (W : World), Ax pre x a' W → pre.length < N → body.wpIn (F.inRound l) (n - 1 - 1) P (leave c w.heap.size Kp I Ix pre x W) a' W)
    (hdone : ∀ (D : Nat) (xs : List α) (W : World), w.heap.size ≤ D → Fin xs → I xs W → W.heap[D]? = some (.deferred (some [])) → Q .normal { a with defers := { target := .collected D, args := #[] } :: a.defers } W)
    (hstop : ∀ (D : Nat) (p : List α × α) (W : World), w.heap.size ≤ D → FinX p → Ix p W → W.heap[D]? = some (.deferred (some [])) → c.wpIn F n P Q { a with defers := { target := .collected D, args := #[] } :: a.defers } W) :
    (Code.rangeFunc g ps assign body).wpIn F n P Q a w := by
  refine wpIn_rangeFunc fun fn hfn => ?_
  rw [hro]
  obtain ⟨rec, hrec⟩ : ∃ rec : LoopState → Option Code → Loop, rec = fun st pe => { state := st, pending := pe, fn, tmps := a.tmps, params := ps, assign, body, defers := w.heap.size } := ⟨_, rfl⟩
  have he := run_enterLoop_outer (P := P) (w := w) fn a.tmps ps assign body
  rw [show ({ state := .ready, pending := none, fn, tmps := a.tmps, params := ps, assign, body, defers := w.heap.size } : Loop) = rec .ready none by rw [hrec]] at he
  have hgrow : w.grownBy ((w.alloc (.deferred (some []))).alloc (.loop (rec .ready none))) none := (World.grownBy_alloc w _ none).trans (World.grownBy_alloc _ _ none)
  have hlr : ((w.alloc (.deferred (some []))).alloc (.loop (rec .ready none))).heap[w.heap.size + 1]? = some (.loop (rec .ready none)) := by
    have := World.alloc_heap_new (w.alloc (.deferred (some []))) (.loop (rec .ready none))
    rwa [World.size_alloc] at this
  have hld : ((w.alloc (.deferred (some []))).alloc (.loop (rec .ready none))).heap[w.heap.size]? = some (.deferred (some [])) :=
    (Below.heap_alloc _ _ _ (by simp)).trans (World.alloc_heap_new w _)
  have hb : Below w.heap.size w ((w.alloc (.deferred (some []))).alloc (.loop (rec .ready none))) := (Below.refl _ w).grown hgrow (Nat.le_refl _) (fun k e => by cases e)
  have hi1 : I [] ((w.alloc (.deferred (some []))).alloc (.loop (rec .ready none))) := hI [] w _ none h0 hgrow (fun _ e => by cases e)
  have hsz : ((w.alloc (.deferred (some []))).alloc (.loop (rec .ready none))).heap.size = w.heap.size + 1 + 1 := by simp
  generalize (w.alloc (.deferred (some []))).alloc (.loop (rec .ready none)) = w1 at *
  refine ⟨w.heap.size + 1, [{ target := .collected w.heap.size, args := #[] }], w1, { target := .fn (.func gf) lb, args := #[.func (.yield (w.heap.size + 1)) #[] #[]] }, w1, gf,
    #[.func (.yield (w.heap.size + 1)) #[] #[]] ++ lb, w1, he, ?_, ?_, ?_, fun _ => h1, ?_⟩
  · simp only [resolve, hg]
    simp [go_sem]
  · intro f' hf'
    simp [Target.leads] at hf'
    subst hf'
    exact hFg
  · simp [invoke, go_sem, eg]
  have hst : ∀ (A B : World) (row : Option Nat) (i : Nat) (o : Obj), A.grownBy B row → (∀ r, row = some r → w1.heap.size ≤ r ∧ ∃ o : Obj, A.heap[r]? = some o ∧ o.isCells = false) → i < w1.heap.size → A.heap[i]? = some o → B.heap[i]? = some o := fun A B row i o hgr hr hi ho =>
    (hgr.block i (Array.getElem?_eq_some_iff.1 ho).1 (fun e => by have := (hr i e.symm).1; omega)).trans ho
  refine (hseq (w.heap.size + 1) (fun pre W => I pre W ∧ W.heap[w.heap.size + 1]? = some (.loop (rec .ready none)) ∧ W.heap[w.heap.size]? = some (.deferred (some [])))
    (fun p W => Ix p W ∧ W.heap[w.heap.size + 1]? = some (.loop (rec .done (some c))) ∧ W.heap[w.heap.size]? = some (.deferred (some []))) w1 hb ?_ ?_ (fun s A h => hG s A h.1) ?_ ⟨hi1, hlr, hld⟩).mono ?_
  · rintro s A B row ⟨ha, hl, hd⟩ hgr hr
    exact ⟨hI s A B row ha hgr (fun r e => ⟨by have := (hr r e).1; omega, (hr r e).2⟩), hst A B row _ _ hgr hr (by omega) hl, hst A B row _ _ hgr hr (by omega) hd⟩
  · rintro s A B row ⟨ha, hl, hd⟩ hgr hr
    exact ⟨hIx s A B row ha hgr (fun r e => ⟨by have := (hr r e).1; omega, (hr r e).2⟩), hst A B row _ _ hgr hr (by omega) hl, hst A B row _ _ hgr hr (by omega) hd⟩
  · rintro pre x W ⟨hi, hl, hd⟩ hN hrw
    have hy := run_yield (P := P) (args := encs x) hl (by rw [hrec]; exact hps x)
    rw [hrec] at hy
    refine ⟨fn, _, assign, body, hy, roundIn_of_wpIn hfn (hassign _ pre x W _ hi hrw ?_)⟩
    intro a' W' hk hkp hax
    have hl' := hk.same _ _ (by omega) hl rfl
    have hd' := hk.same _ _ (Nat.le_refl _) hd rfl
    refine ⟨_, run_beginRound hl' (by rw [hrec]), ?_⟩
    have hlt := (Array.getElem?_eq_some_iff.1 hl').1
    have hl2 : (W'.putObj (w.heap.size + 1) (.loop { rec .ready none with state := .busy })).heap[w.heap.size + 1]? = some (.loop { rec .ready none with state := .busy }) := World.putObj_heap_same hlt
    have hd2 : (W'.putObj (w.heap.size + 1) (.loop { rec .ready none with state := .busy })).heap[w.heap.size]? = some (.deferred (some [])) := (World.putObj_heap_other (by omega)).trans hd'
    have hkf : ∀ {B B' : Nat} {X Y : World}, KeepsFrom B X Y → B ≤ B' → KeepsFrom B' X Y := fun h hB => ⟨h.size, fun k o hk => h.same k o (Nat.le_trans hB hk)⟩
    have hkp0 : ∀ {X : World} (o : Obj), KeepsFrom w1.heap.size X (X.putObj (w.heap.size + 1) o) := fun {X} o => KeepsFrom.of_grownBy (grownBy_putObj' X (w.heap.size + 1) o) (fun j e => by cases e; omega)
    have hka := (hkf hk (B' := w1.heap.size) (by omega)).trans (hkp0 (.loop { rec .ready none with state := .busy }))
    have hkp2 := hKt hkp (hKb W' _ _ (.loop { rec .ready none with state := .busy }) (by omega) hl' rfl)
    have hax2 := (hAx pre x a').putObj (s := ()) (.loop { rec .ready none with state := .busy }) hax (by omega) hl' rfl
    generalize W'.putObj (w.heap.size + 1) (.loop { rec .ready none with state := .busy }) = W2 at *
    refine wpIn_mono (hbody _ pre x a' W2 hax2 hN) ?_
    rintro e a3 W3 hp
    cases e with
    | normal =>
      obtain ⟨hk3, hkp3, hi3⟩ := hp
      have hl3 := hk3.same _ _ (by omega) hl2 rfl
      have hd3 := hk3.same _ _ (Nat.le_refl _) hd2 rfl
      have hend := run_endRound (P := P) none hl3
      have hrr : ({ ({ rec .ready none with state := .busy } : Loop) with state := if (none : Option Code).isNone then .ready else .done, pending := none } : Loop) = rec .ready none := by rw [hrec]; rfl
      rw [hrr] at hend
      exact ⟨_, _, hend, .inl ⟨rfl, ⟨hI.putObj _ hi3 (by omega) hl3 rfl, World.putObj_heap_same (Array.getElem?_eq_some_iff.1 hl3).1, (World.putObj_heap_other (by omega)).trans hd3⟩, hKt hkp2 (hKt hkp3 (hKb _ _ _ _ (by omega) hl3 rfl))⟩, (hka.trans (hkf hk3 (by omega))).trans (hkp0 _)⟩
    | ret =>
      obtain ⟨rfl, hk3, hi3⟩ := hp
      have hl3 := hk3.same _ _ (by omega) hl2 rfl
      have hd3 := hk3.same _ _ (Nat.le_refl _) hd2 rfl
      have hend := run_endRound (P := P) (some .ret) hl3
      have hrr : ({ ({ rec .ready none with state := .busy } : Loop) with state := if (some Code.ret : Option Code).isNone then .ready else .done, pending := some .ret } : Loop) = rec .done (some .ret) := by rw [hrec]; rfl
      rw [hrr] at hend
      exact ⟨_, _, hend, .inr ⟨rfl, hIx.putObj _ hi3 (by omega) hl3 rfl, World.putObj_heap_same (Array.getElem?_eq_some_iff.1 hl3).1, (World.putObj_heap_other (by omega)).trans hd3⟩, (hka.trans (hkf hk3 (by omega))).trans (hkp0 _)⟩
    | exit id =>
      obtain ⟨rfl, hk3, hi3⟩ := hp
      have hl3 := hk3.same _ _ (by omega) hl2 rfl
      have hd3 := hk3.same _ _ (Nat.le_refl _) hd2 rfl
      have hend := run_endRound (P := P) (some (.exit id)) hl3
      have hrr : ({ ({ rec .ready none with state := .busy } : Loop) with state := if (some (Code.exit id) : Option Code).isNone then .ready else .done, pending := some (.exit id) } : Loop) = rec .done (some (.exit id)) := by rw [hrec]; rfl
      rw [hrr] at hend
      exact ⟨_, _, hend, .inr ⟨rfl, hIx.putObj _ hi3 (by omega) hl3 rfl, World.putObj_heap_same (Array.getElem?_eq_some_iff.1 hl3).1, (World.putObj_heap_other (by omega)).trans hd3⟩, (hka.trans (hkf hk3 (by omega))).trans (hkp0 _)⟩
    | goto t => exact hp.elim
    | panic c => exact hp.elim
    | outgrown => exact hp.elim
  · rintro e W2 ⟨⟨v, rfl⟩, (⟨xs, hf, hi, hl, hd⟩ | ⟨p, hf, hi, hl, hd⟩)⟩
    · have hend := run_endLoop (P := P) hl (by rw [hrec]; simp)
      rw [hrec] at hend
      exact ⟨none, _, hend, hdone _ xs _ (Nat.le_refl _) hf (hI.putObj _ hi (by omega) hl rfl) ((World.putObj_heap_other (by omega)).trans hd)⟩
    · have hend := run_endLoop (P := P) hl (by rw [hrec]; simp)
      rw [hrec] at hend
      exact ⟨some c, _, hend, hstop _ p _ (Nat.le_refl _) hf (hIx.putObj _ hi (by omega) hl rfl) ((World.putObj_heap_other (by omega)).trans hd)⟩
end Go.Proofs.YtdnilbebdgohnaaGreatDoor

/- NodeWA + NodeWB + NodeWC + NodeWD + NodeWE + NodeWF -/





namespace Go.Proofs.YtdnilbebdgohnaaGreatDoor
open Go.RowKit Go.Shelf

attribute [local go_sem] Oper.semAt_some

/-- one element that comes: a depth and a node that lies in memory -/
structure Yn where
  d : Nat
  n : Nd
  A : Option Addr
  c : Nat
  K : Option Addr
  k : Nat
def Yn.key (y : Yn) : Nat × Nd := (y.d, y.n)
def encN (y : Yn) : Array Value := #[.int .i64 (y.d : Int), ndV y.n y.A y.c y.K y.k]
mutual
def Nd.flat : Nd → Nat → List (Nat × Nd)
  | .mk t v ks, d => (d, .mk t v ks) :: flats ks (d + 1)
def flats : List Nd → Nat → List (Nat × Nd)
  | [], _ => []
  | n :: ns, d => n.flat d ++ flats ns d
end
theorem Nd.flat_eq (n : Nd) (d : Nat) : n.flat d = (d, n) :: flats n.ks (d + 1) := by cases n; rw [Nd.flat]; rfl
theorem flats_cons (n : Nd) (ns : List Nd) (d : Nat) : flats (n :: ns) d = (d, n) :: (flats n.ks (d + 1) ++ flats ns d) := by rw [flats, Nd.flat_eq]; rfl
theorem flats_append (xs ys : List Nd) (d : Nat) : flats (xs ++ ys) d = flats xs d ++ flats ys d := by
  induction xs with
  | nil => rw [List.nil_append, flats, List.nil_append]
  | cons x xs ih => rw [List.cons_append, flats, ih, flats, List.append_assoc]
theorem flats_at {ns : List Nd} {k : Nat} {n : Nd} (h : ns[k]? = some n) (d : Nat) : flats ns d = flats (ns.take k) d ++ (d, n) :: (flats n.ks (d + 1) ++ flats (ns.drop (k + 1)) d) := by
  have hk := (List.getElem?_eq_some_iff.1 h).1
  have h1 : ns = ns.take k ++ n :: ns.drop (k + 1) := by
    have h2 : ns[k] = n := (List.getElem?_eq_some_iff.1 h).2
    rw [← h2, ← List.drop_eq_getElem_cons hk, List.take_append_drop]
  conv => lhs; rw [h1]
  rw [flats_append, flats_cons]
theorem flats_take {ns : List Nd} {k : Nat} {n : Nd} (h : ns[k]? = some n) (d : Nat) : flats (ns.take (k + 1)) d = flats (ns.take k) d ++ (d, n) :: flats n.ks (d + 1) := by
  rw [take_some h, flats_append, flats_cons, flats, List.append_nil]

section
variable {G : World → Nat → Prop} {n₀ : Nat} {A B : World}
theorem KpG.cell (k : KpG G n₀ A B) {p : Addr} {u : Value} (hg : ¬ G A p.block) (h : A.cell? p = some u) : B.cell? p = some u := by
  have h' := h
  unfold World.cell? at h'
  cases ho : A.heap[p.block]? with
  | none => rw [ho] at h'; simp at h'
  | some o =>
    rw [ho] at h'
    cases o <;> first | (simp at h'; done) | exact (World.cell?_of_block ((k.same _ _ _ _ hg ho).trans ho.symm)).trans h
/-- blocks that the rounds may not write -/
def Held (G : World → Nat → Prop) (W : World) (S : Nat → Prop) : Prop := ∀ b, S b → b < W.heap.size ∧ ¬ G W b
theorem Held.kp {S : Nat → Prop} (h : Held G A S) (k : KpG G n₀ A B) : Held G B S := fun b hb => ⟨Nat.lt_of_lt_of_le (h b hb).1 k.low.size, fun hg => (h b hb).2 (k.own b (h b hb).1 hg)⟩
theorem NodesS.kp {S : Nat → Prop} {a : Option Addr} {ns : List Nd} (h : NodesS A S a ns) (hS : Held G A S) (k : KpG G n₀ A B) : NodesS B S a ns :=
  h.turn2 (fun p _ hp hu => k.cell (hS p.block hp).2 hu) (fun _ hb => hb)
def RowN (G : World → Nat → Prop) (W : World) (y : Yn) : Prop := ∃ S, Held G W S ∧ NodeS W S y.A y.c y.K y.k y.n ∧ Few2 y.n
/-- an element of a list that lies in certain blocks -/
theorem NodesS.at_ {w : World} {S : Nat → Prop} {a : Option Addr} {ns : List Nd} (h : NodesS w S a ns) {k : Nat} (hk : k < ns.length) :
    ∃ ad A' c' K' k' n, a = some ad ∧ S ad.block ∧ Hid (ns[k]? = some n) ∧ w.cell? (ad.add (k * 3)) = some (hv n.t) ∧ w.cell? ⟨(ad.add (k * 3)).block, (ad.add (k * 3)).off + 1, none⟩ = some (.slice A' n.v.length c') ∧
      w.cell? ⟨(ad.add (k * 3)).block, (ad.add (k * 3)).off + 2, none⟩ = some (.slice K' n.ks.length k') ∧ NodeS w S A' c' K' k' n := by
  cases h with
  | mk vs K c lies len each kids =>
    obtain ⟨h1, ⟨d, h2, A2, c2, rfl, h4, h5, h6⟩, h7, h8, h9⟩ := each k _ (List.getElem?_eq_getElem hk)
    obtain ⟨ad, ha, hb, hc⟩ := lies (fun e => by rw [e] at len; simp at len; omega)
    exact ⟨ad, A2, c2, K k, c k, ns[k], ha, hb, List.getElem?_eq_getElem hk, hc _ _ h1, by have h10 := hc _ _ h2; rw [← add_add'] at h10; exact h10,
      by have h10 := hc _ _ h7; rw [← add_add'] at h10; exact h10, ⟨h4, h5, h6, kids k _ (List.getElem?_eq_getElem hk), h8, h9⟩⟩
end
/-- the closure's two variables: the yield, and itself -/
structure VisitV (G : World → Nat → Prop) (l By Bv : Nat) (W : World) : Prop where
  y : Boxed W By 53 (.func (.yield l) #[] #[])
  ny : ¬ G W By
  v : Boxed W Bv 69 (.func (.func 34) #[] #[.pointer (some ⟨By, 0, none⟩), .pointer (some ⟨Bv, 0, none⟩)])
  nv : ¬ G W Bv
theorem VisitV.kp {G : World → Nat → Prop} {n₀ l By Bv : Nat} {A B : World} (h : VisitV G l By Bv A) (k : KpG G n₀ A B) : VisitV G l By Bv B :=
  ⟨k.same _ _ _ _ h.ny h.y, fun hg => h.ny (k.own _ (boxed_lt h.y) hg), k.same _ _ _ _ h.nv h.v, fun hg => h.nv (k.own _ (boxed_lt h.v) hg)⟩
/-- x is the next one of T -/
def Nxt (T : List (Nat × Nd)) (pre : List Yn) (x : Yn) : Prop := ∃ post, T = pre.map Yn.key ++ x.key :: post
def VisitOK (T : List (Nat × Nd)) (n l By Bv n₀ X N : Nat) (G : World → Nat → Prop) (J : List Yn → World → Prop) (Jx : List Yn × Yn → World → Prop) (ns : List Nd) : Prop :=
  ∀ (d : Nat) (A : Option Addr) (c : Nat) (S : Nat → Prop) (pre : List Yn) (W : World), J pre W → NodesS W S A ns → Held G W S → VisitV G l By Bv W → X ≤ W.heap.size → n₀ ≤ W.heap.size → ns.length ≤ c → c ≤ maxLen →
    (∀ x ∈ flats ns d, x.1 ≤ 1000000) → d ≤ 1000001 → (∀ x ∈ ns, Few2 x) → ns.length ≤ 100000000 → pre.length + (flats ns d).length ≤ N → (∃ post, T = pre.map Yn.key ++ (flats ns d ++ post)) →
    CallsIn Fence.wide n Tryz.prog 34 #[.slice A ns.length c, .int .i64 (d : Int), .pointer (some ⟨By, 0, none⟩), .pointer (some ⟨Bv, 0, none⟩)] W fun e W' =>
      (e = .returned (.bool true) ∧ ∃ ys, ys.map Yn.key = flats ns d ∧ J (pre ++ ys) W' ∧ KpG G n₀ W W') ∨
      (e = .returned (.bool false) ∧ ∃ ys y post, flats ns d = ys.map Yn.key ++ y.key :: post ∧ Jx (pre ++ ys, y) W')

set_option maxRecDepth 100000 in
set_option maxHeartbeats 4000000 in
theorem visit_step (T : List (Nat × Nd)) (n : Nat) (hn : 1 ≤ n) (l By Bv n₀ X N : Nat) (G : World → Nat → Prop) (hGo : GOwn X G) (J : List Yn → World → Prop) (Jx : List Yn × Yn → World → Prop) (hJg : ∀ s A B, J s A → A.grownBy B none → J s B) (hJG : ∀ s A, J s A → ∀ i, G A i → i < A.heap.size)
    (hY : ∀ pre x W1, J pre W1 → pre.length < N → RowN G W1 x → Nxt T pre x → YieldAt Fence.wide (n - 1) Tryz.prog l (encN x) W1 fun e W' => (e = .returned (.bool true) ∧ J (pre ++ [x]) W' ∧ KpG G n₀ W1 W') ∨ (e = .returned (.bool false) ∧ Jx (pre, x) W'))
    (ns : List Nd) (ih : ∀ x ∈ ns, VisitOK T n l By Bv n₀ X N G J Jx x.ks) : VisitOK T n l By Bv n₀ X N G J Jx ns := by
  intro d A c S pre W h0 hN hS hV hX hn₀ hc hm hd hd1 hf hl hNn hT
  have IH := Lib.hid ih
  have HD := Lib.hid hd
  have HF := Lib.hid hf
  have HT := Lib.hid hT
  clear ih hd hf hT
  refine callsIn_of_wp Tryz.func34 rfl trivial ?_ rfl
  simp only [Tryz.ntmps34, List.size_toArray, List.length_cons, List.length_nil, Nat.reduceAdd, Nat.reduceSub, Array.replicate_succ, Array.replicate_zero, List.push_toArray, List.append_toArray, List.nil_append, List.cons_append]
  gi_wp2
  gi_loopw [11] (fun at_ wr => ∃ (k : Nat) (ys : List Yn), k ≤ ns.length ∧ at_ = .int .i64 k ∧ J (pre ++ ys) wr ∧ KpG G n₀ W wr ∧ Hid (ys.map Yn.key = flats (ns.take k) d))
    (fun at_ _ => ns.length - (intOf at_).toNat)
  case atStart => exact ⟨0, [], Nat.zero_le _, rfl, by rw [List.append_nil]; exact h0, KpG.refl _ _ _, by simp [Hid, flats]⟩
  case round =>
    obtain ⟨k, ys, hk, rfl, hj, hkp, hrel⟩ := hrel
    have hgl := hJG _ _ hj
    have hXw : X ≤ wr.heap.size := Nat.le_trans hX hkp.low.size
    -- what grows keeps all
    have hgr : ∀ B, Below wr.heap.size wr B → KpG G n₀ wr B ∧ J (pre ++ ys) B := fun B hB =>
      ⟨⟨hB.mono (Nat.le_trans hn₀ hkp.low.size), fun i _ _ _ _ hi => (hB.block i (Array.getElem?_eq_some_iff.1 hi).1).trans hi, fun i _ hi => hGo _ _ none hXw (grown_of_below hB) (fun r e => by cases e) i hi⟩, hJg _ _ _ hj (grown_of_below hB)⟩
    by_cases hlt : k < ns.length
    · obtain ⟨ad, A', c', K', k', x, rfl, hb, hx, hc0, hc1, hc2, hN1⟩ := (hN.kp hS hkp).at_ hlt
      have hmem := List.mem_of_getElem? hx.out
      have hfl := flats_at hx.out d
      obtain ⟨k1, hj1⟩ := hgr _ ((Below.refl wr.heap.size wr).alloc (Nat.le_refl _) (.cells #[hv x.t, .slice A' x.v.length c', .slice K' x.ks.length k'] 34))
      have hkA := hkp.trans k1
      have hVA := hV.kp hkA
      have hSA := hS.kp hkA
      have hNA : NodeS (wr.alloc (.cells #[hv x.t, .slice A' x.v.length c', .slice K' x.ks.length k'] 34)) S A' c' K' k' x :=
        hN1.turn (fun p hp => World.cell?_alloc_lt wr _ p (by have := (hS.kp hkp p.block hp).1; exact this)) (fun _ h => h)
      have hbox := Whole.new wr 34 #[hv x.t, .slice A' x.v.length c', .slice K' x.ks.length k']
      have hgb : ¬ G (wr.alloc (.cells #[hv x.t, .slice A' x.v.length c', .slice K' x.ks.length k'] 34)) wr.heap.size := fun hg => by
        have h1 := hGo _ _ none hXw (grown_of_below ((Below.refl wr.heap.size wr).alloc (Nat.le_refl _) (.cells #[hv x.t, .slice A' x.v.length c', .slice K' x.ks.length k'] 34))) (fun r e => by cases e) _ hg
        exact Nat.lt_irrefl _ (hgl _ h1)
      have hsz1 : (wr.alloc (.cells #[hv x.t, .slice A' x.v.length c', .slice K' x.ks.length k'] 34)).heap.size = wr.heap.size + 1 := by simp
      have hlys : ys.length = (flats (ns.take k) d).length := by rw [← hrel.out, List.length_map]
      have hfln : (flats ns d).length = ys.length + ((flats x.ks (d + 1)).length + (flats (ns.drop (k + 1)) d).length + 1) := by rw [hfl, hlys]; simp
      obtain ⟨fn, tmps, assign, body, hy, hR⟩ := hY (pre ++ ys) ⟨d, x, A', c', K', k'⟩ _ hj1 (by rw [List.length_append]; omega) ⟨S, hSA, hNA, HF.out x hmem⟩
        (by obtain ⟨post, hp⟩ := HT.out; exact ⟨flats x.ks (d + 1) ++ (flats (ns.drop (k + 1)) d ++ post), by rw [hp, hfl, List.map_append, hrel.out]; simp [Yn.key]⟩)
      simp only [encN, ndV] at hy
      have y0 := hVA.y.cell
      have v0 := hVA.v.cell
      have HX := Lib.hid hfl
      have HN := Lib.hid hN1
      clear hfl hN1
      gi_wp2_with fail
      refine hR.mono ?_
      rintro e w3 (⟨rfl, hj3, hk3⟩ | ⟨rfl, hx3⟩)
      · have hW3 : Whole w3 wr.heap.size 34 #[hv x.t, .slice A' x.v.length c', .slice K' x.ks.length k'] := hk3.same _ _ _ _ hgb hbox
        have hV3 := hVA.kp hk3
        have hk03 := hkA.trans hk3
        have hN3 := ((HN.out.kids.kp (hS.kp hkp) k1).kp hSA hk3)
        have w2c : w3.cell? ⟨wr.heap.size, 2, none⟩ = some (.slice K' x.ks.length k') := by rw [hW3.cell]; rfl
        have v3 := hV3.v.cell
        have hsz3 := hk3.low.size
        have hd2 : d ≤ 1000000 := HD.out (d, x) (by rw [HX.out]; exact List.mem_append_right _ (List.mem_cons_self ..))
        have hln : (pre ++ ys ++ [(⟨d, x, A', c', K', k'⟩ : Yn)]).length + (flats x.ks (d + 1)).length ≤ N := by
          rw [List.length_append, List.length_append, List.length_singleton]; omega
        have HC := Lib.hid (callsIn_wide.1 (IH.out x hmem (d + 1) K' k' S (pre ++ ys ++ [⟨d, x, A', c', K', k'⟩]) w3 hj3 hN3 (hSA.kp hk3) hV3 (Nat.le_trans hX hk03.low.size) (Nat.le_trans hn₀ hk03.low.size) HN.out.kc HN.out.km
          (fun z hz => HD.out z (by rw [HX.out]; exact List.mem_append_right _ (List.mem_cons_of_mem _ (List.mem_append_left _ hz))))
          (by omega) (HF.out x hmem).kid (HF.out x hmem).kl.1 hln
          (by obtain ⟨post, hp⟩ := HT.out; exact ⟨flats (ns.drop (k + 1)) d ++ post, by rw [hp, HX.out, List.map_append, List.map_append, hrel.out]; simp [Yn.key]⟩)))
        clear hfln hlys
        gi_wp2_with fail
        refine ⟨trivial, (callsIn_wide.2 HC.out).mono ?_⟩
        rintro e w4 (⟨rfl, zs, hz, hj4, hk4⟩ | ⟨rfl, zs, z, post, hz, hx4⟩)
        · have hk04 := hk03.trans hk4
          have HE := Lib.hid (show (ys ++ (⟨d, x, A', c', K', k'⟩ : Yn) :: zs).map Yn.key = flats (ns.take (k + 1)) d by
            rw [flats_take hx.out, List.map_append, List.map_cons, hrel.out, hz]; rfl)
          have HJ4 : J (pre ++ (ys ++ (⟨d, x, A', c', K', k'⟩ : Yn) :: zs)) w4 := by simpa using hj4
          gi_wp2_with fail
          go_roundw
          case rel => exact ⟨k + 1, ys ++ (⟨d, x, A', c', K', k'⟩ : Yn) :: zs, by omega, rfl, HJ4, hk04, HE⟩
          case measure => simp [intOf]; omega
        · have HP := Lib.hid (show flats ns d = (ys ++ (⟨d, x, A', c', K', k'⟩ : Yn) :: zs).map Yn.key ++ z.key :: (post ++ flats (ns.drop (k + 1)) d) by
            rw [HX.out, hz, List.map_append, List.map_cons, hrel.out]; simp [Yn.key])
          have HJ4 : Jx (pre ++ (ys ++ (⟨d, x, A', c', K', k'⟩ : Yn) :: zs), z) w4 := by simpa using hx4
          gi_wp2_with fail
          go_ret
          exact .inr ⟨rfl, _, z, _, HP.out, HJ4⟩
      · have HP := Lib.hid (show flats ns d = ys.map Yn.key ++ (⟨d, x, A', c', K', k'⟩ : Yn).key :: (flats x.ks (d + 1) ++ flats (ns.drop (k + 1)) d) by rw [HX.out, hrel.out]; rfl)
        gi_wp2_with fail
        refine ⟨fun f e => (by cases e), ?_⟩
        gi_wp2_with fail
        go_ret
        exact .inr ⟨rfl, _, _, _, HP.out, hx3⟩
    · obtain rfl : k = ns.length := by omega
      have HE := Lib.hid (show ys.map Yn.key = flats ns d by rw [hrel.out, List.take_length])
      have ht : ¬ ((ns.length : Int) < (ns.length : Int)) := by omega
      clear hrel
      gi_wp2_with fail
      go_ret
      exact .inl ⟨rfl, ys, HE.out, hj, hkp⟩
/-- the closure at whatever list -/
theorem visit_any (T : List (Nat × Nd)) (n : Nat) (hn : 1 ≤ n) (l By Bv n₀ X N : Nat) (G : World → Nat → Prop) (hGo : GOwn X G) (J : List Yn → World → Prop) (Jx : List Yn × Yn → World → Prop) (hJg : ∀ s A B, J s A → A.grownBy B none → J s B) (hJG : ∀ s A, J s A → ∀ i, G A i → i < A.heap.size)
    (hY : ∀ pre x W1, J pre W1 → pre.length < N → RowN G W1 x → Nxt T pre x → YieldAt Fence.wide (n - 1) Tryz.prog l (encN x) W1 fun e W' => (e = .returned (.bool true) ∧ J (pre ++ [x]) W' ∧ KpG G n₀ W1 W') ∨ (e = .returned (.bool false) ∧ Jx (pre, x) W')) (ns : List Nd) :
    VisitOK T n l By Bv n₀ X N G J Jx ns :=
  Nds.ind (P := VisitOK T n l By Bv n₀ X N G J Jx) (fun ns ih => visit_step T n hn l By Bv n₀ X N G hGo J Jx hJg hJG hY ns ih) ns
end Go.Proofs.YtdnilbebdgohnaaGreatDoor


namespace Go.Proofs.YtdnilbebdgohnaaGreatDoor
open Go.RowKit Go.Shelf

attribute [local go_sem] Oper.semAt_some

theorem run_store_fn {P : Program} {w : World} {a : Addr} {m : Mode} (fn : Fn) (first captured : Array Value) : (store a (.func fn first captured) m).run P w = stored P w a (.func fn first captured) m := run_store P w a _ m rfl
attribute [local go_sem] run_store_fn
/-- what has come at the end; how far it had come when it was stopped -/
def FinW (ns : List Nd) (ys : List Yn) : Prop := ys.map Yn.key = flats ns 1
def FinWX (ns : List Nd) (p : List Yn × Yn) : Prop := ∃ post, flats ns 1 = p.1.map Yn.key ++ p.2.key :: post
set_option maxRecDepth 100000 in
set_option maxHeartbeats 2000000 in
theorem walk1_in (n : Nat) (hn : 1 ≤ n) (l Bl n₀ X N : Nat) (A : Option Addr) (c : Nat) (ns : List Nd) (S : Nat → Prop) (G : World → Nat → Prop) (hGo : GOwn X G)
    (J : List Yn → World → Prop) (Jx : List Yn × Yn → World → Prop) (hJg : ∀ s A B, J s A → A.grownBy B none → J s B) (hJG : ∀ s A, J s A → ∀ i, G A i → i < A.heap.size)
    (hY : ∀ pre x W1, J pre W1 → pre.length < N → RowN G W1 x → Nxt (flats ns 1) pre x → YieldAt Fence.wide (n - 1) Tryz.prog l (encN x) W1 fun e W' => (e = .returned (.bool true) ∧ J (pre ++ [x]) W' ∧ KpG G n₀ W1 W') ∨ (e = .returned (.bool false) ∧ Jx (pre, x) W'))
    (W : World) (hX : X ≤ W.heap.size) (hn₀ : n₀ ≤ W.heap.size) (hBl : Whole W Bl 22 #[.slice A ns.length c]) (hS : Held G W S) (hN : NodesS W S A ns) (hc : ns.length ≤ c) (hm : c ≤ maxLen)
    (hd : ∀ x ∈ flats ns 1, x.1 ≤ 1000000) (hf : ∀ x ∈ ns, Few2 x) (hl : ns.length ≤ 100000000) (hNn : (flats ns 1).length ≤ N) (h0 : J [] W) :
    CallsIn Fence.wide n Tryz.prog 33 #[.func (.yield l) #[] #[], .pointer (some ⟨Bl, 0, none⟩)] W fun e W' => (∃ v, e = .returned v) ∧ ((∃ xs, FinW ns xs ∧ J xs W') ∨ (∃ p, FinWX ns p ∧ Jx p W')) := by
  have HV := Lib.hid (visit_any (flats ns 1) n hn l W.heap.size (W.heap.size + 1) n₀ X N G hGo J Jx hJg hJG hY ns)
  have HD := Lib.hid hd
  have HF := Lib.hid hf
  clear hd hf hY
  have hgl := hJG _ _ h0
  refine callsIn_of_wp Tryz.func33 rfl trivial ?_ rfl
  simp only [Tryz.ntmps33, List.size_toArray, List.length_cons, List.length_nil, Nat.reduceAdd, Nat.reduceSub, Array.replicate_succ, Array.replicate_zero, List.push_toArray, List.append_toArray, List.nil_append, List.cons_append]
  have e1 := Boxed.new (W.alloc (.cells #[.func (.yield l) #[] #[]] 53)) 69 .nilFunc
  have e2 := Boxed.new (W.alloc (.cells #[.func (.yield l) #[] #[]] 53)) 69 (.func (.func 34) #[] #[.pointer (some ⟨W.heap.size, 0, none⟩), .pointer (some ⟨W.heap.size + 1, 0, none⟩)])
  simp only [World.size_alloc] at e1 e2
  have e3 := (Boxed.new W 53 (.func (.yield l) #[] #[])).alloc (.cells #[.func (.func 34) #[] #[.pointer (some ⟨W.heap.size, 0, none⟩), .pointer (some ⟨W.heap.size + 1, 0, none⟩)]] 69)
  have v0 := e1.frozen
  have v1 := e1.cell
  have v2 := e2.cell
  have hB2 : Below W.heap.size W ((W.alloc (.cells #[.func (.yield l) #[] #[]] 53)).alloc (.cells #[.func (.func 34) #[] #[.pointer (some ⟨W.heap.size, 0, none⟩), .pointer (some ⟨W.heap.size + 1, 0, none⟩)]] 69)) := ((Below.refl _ W).alloc (Nat.le_refl _) _).alloc (by simp) _
  have hW2 := hBl.below hB2 hBl.lt
  have b0 : ((W.alloc (.cells #[.func (.yield l) #[] #[]] 53)).alloc (.cells #[.func (.func 34) #[] #[.pointer (some ⟨W.heap.size, 0, none⟩), .pointer (some ⟨W.heap.size + 1, 0, none⟩)]] 69)).cell? ⟨Bl, 0, none⟩ = some (.slice A ns.length c) := by rw [hW2.cell]; rfl
  have hk2 : KpG G n₀ W ((W.alloc (.cells #[.func (.yield l) #[] #[]] 53)).alloc (.cells #[.func (.func 34) #[] #[.pointer (some ⟨W.heap.size, 0, none⟩), .pointer (some ⟨W.heap.size + 1, 0, none⟩)]] 69)) := ⟨hB2.mono hn₀, fun i _ _ _ _ hi => (hB2.block i (Array.getElem?_eq_some_iff.1 hi).1).trans hi, fun i _ hi => hGo _ _ none hX (grown_of_below hB2) (fun r e => by cases e) i hi⟩
  have hg2 : ∀ i, G ((W.alloc (.cells #[.func (.yield l) #[] #[]] 53)).alloc (.cells #[.func (.func 34) #[] #[.pointer (some ⟨W.heap.size, 0, none⟩), .pointer (some ⟨W.heap.size + 1, 0, none⟩)]] 69)) i → i < W.heap.size := fun i hi => hgl i (hGo _ _ none hX (grown_of_below hB2) (fun r e => by cases e) i hi)
  have hj2 := hJg _ _ _ h0 (grown_of_below hB2)
  have HC := Lib.hid (callsIn_wide.1 (HV.out 1 A c S [] ((W.alloc (.cells #[.func (.yield l) #[] #[]] 53)).alloc (.cells #[.func (.func 34) #[] #[.pointer (some ⟨W.heap.size, 0, none⟩), .pointer (some ⟨W.heap.size + 1, 0, none⟩)]] 69)) hj2 (hN.kp hS hk2) (hS.kp hk2) ⟨e3, fun h => Nat.lt_irrefl _ (hg2 _ h), e2, fun h => by have := hg2 _ h; omega⟩ (Nat.le_trans hX hB2.size) (Nat.le_trans hn₀ hB2.size) hc hm HD.out (by omega) HF.out hl (by simpa using hNn) ⟨[], by simp⟩))
  gi_wp2_with fail
  refine ⟨trivial, (callsIn_wide.2 HC.out).mono ?_⟩
  rintro e w3 (⟨rfl, zs, hz, hj3, _⟩ | ⟨rfl, zs, z, post, hz, hx3⟩)
  · gi_wp2_with fail
    go_end0
    exact ⟨⟨_, rfl⟩, .inl ⟨zs, hz, by simpa using hj3⟩⟩
  · gi_wp2_with fail
    go_end0
    exact ⟨⟨_, rfl⟩, .inr ⟨(zs, z), ⟨post, hz⟩, by simpa using hx3⟩⟩
end Go.Proofs.YtdnilbebdgohnaaGreatDoor




namespace Go.Proofs.YtdnilbebdgohnaaGreatDoor
open Go.RowKit Go.Shelf

attribute [local go_sem] Oper.semAt_some
set_option linter.unusedSimpArgs false

def ops4W : Array Oper :=
  #[{ dst := some 9, op := Op.load 53 (Operand.tmp 2), type := 53, pos := "node.go:76", after := #[], guard := none },
    { dst := some 10, op := Op.move (Operand.tmp 3), type := 3, pos := "node.go:76", after := #[], guard := none },
    { dst := some 11, op := Op.load 34 (Operand.tmp 4), type := 34, pos := "node.go:76", after := #[], guard := none },
    { dst := some 12, op := Op.call { callee := Callee.value (Operand.func 10), args := #[Operand.tmp 11], argTypes := #[34] }, type := 34, pos := "node.go:76", after := #[{ on := 2, ground := Ground.data }], guard := none },
    { dst := some 13, op := Op.call { callee := Callee.value (Operand.tmp 9), args := #[Operand.tmp 10, Operand.tmp 12], argTypes := #[3, 34] }, type := 4, pos := "node.go:76", after := #[{ on := 0, ground := Ground.data }, { on := 1, ground := Ground.data }, { on := 3, ground := Ground.data }, { on := 3, ground := Ground.chain }], guard := none },
    { dst := some 14, op := Op.unOp UnOp.not 4 (Operand.tmp 13), type := 4, pos := "node.go:76", after := #[{ on := 4, ground := Ground.data }], guard := none }]
set_option maxRecDepth 100000 in
set_option maxHeartbeats 4000000 in
theorem region4W {l l' m : Nat} {Q : Exit → Act → World → Prop} (t0 t1 t5 t6 t7 t8 t9 t10 t11 t12 t13 t14 : Value) (By gb : Nat) (y : Yn) (w : World)
    (hl : Boxed w By 53 (.func (.yield l) #[] #[])) (hn : Whole w gb 34 #[hv y.n.t, .slice y.A y.n.v.length y.c, .slice y.K y.n.ks.length y.k])
    (hC : Calls Tryz.prog 10 #[ndV y.n y.A y.c y.K y.k] w.drew fun e w' => ∃ A' c' K' k', e = .returned (ndV y.n A' c' K' k') ∧ NodeS w' (NewS w w') A' c' K' k' y.n ∧ Below w.heap.size w.drew w')
    (h0123 : ∀ (A2 : Option Addr) (c2 : Nat) (K2 : Option Addr) (k2 : Nat) (w2 : World), NodeS w2 (NewS w w2) A2 c2 K2 k2 y.n → Below w.heap.size w.drew w2 → wpAnyIn (Fence.wide.inRound l') m Tryz.prog .any ops4W Q 2 #[true, true, true, true, false, false] { tmps := #[t0, t1, .pointer (some ⟨By, 0, none⟩), .int .i64 (y.d : Int), .pointer (some ⟨gb, 0, none⟩), t5, t6, t7, t8, .func (.yield l) #[] #[], .int .i64 (y.d : Int), ndV y.n y.A y.c y.K y.k, ndV y.n A2 c2 K2 k2, t13, t14], defers := [] } w2) :
    (Code.region 4 ops4W true).wpIn (Fence.wide.inRound l') m Tryz.prog Q { tmps := #[t0, t1, .pointer (some ⟨By, 0, none⟩), .int .i64 (y.d : Int), .pointer (some ⟨gb, 0, none⟩), t5, t6, t7, t8, t9, t10, t11, t12, t13, t14], defers := [] } w := by
  have e0 : w.drew.cell? ⟨By, 0, none⟩ = some (.func (.yield l) #[] #[]) := hl.cell
  have n0 : w.drew.cell? ⟨gb, 0, none⟩ = some (hv y.n.t) := by rw [hn.drew.cell]; rfl
  have n1 : w.drew.cell? ⟨gb, 1, none⟩ = some (.slice y.A y.n.v.length y.c) := by rw [hn.drew.cell]; rfl
  have n2 : w.drew.cell? ⟨gb, 2, none⟩ = some (.slice y.K y.n.ks.length y.k) := by rw [hn.drew.cell]; rfl
  have hBlt := boxed_lt hl
  have h023 : ∀ (A2 : Option Addr) (c2 : Nat) (K2 : Option Addr) (k2 : Nat) (w2 : World), NodeS w2 (NewS w w2) A2 c2 K2 k2 y.n → Below w.heap.size w.drew w2 → wpAnyIn (Fence.wide.inRound l') m Tryz.prog .any ops4W Q 3 #[true, false, true, true, false, false] { tmps := #[t0, t1, .pointer (some ⟨By, 0, none⟩), .int .i64 (y.d : Int), .pointer (some ⟨gb, 0, none⟩), t5, t6, t7, t8, .func (.yield l) #[] #[], t10, ndV y.n y.A y.c y.K y.k, ndV y.n A2 c2 K2 k2, t13, t14], defers := [] } w2 := by
    intro A2 c2 K2 k2 w2 hN2 b2
    have e2 : w2.cell? ⟨By, 0, none⟩ = some (.func (.yield l) #[] #[]) := (b2.cell hBlt).trans e0
    refine any_node (fuel := 2) [1] (by kernel_rfl) (by simp) ?_
    intro i hi
    simp only [List.mem_cons, List.not_mem_nil, or_false] at hi
    subst hi
    · refine op_of_list ({ dst := some 10, op := Op.move (Operand.tmp 3), type := 3, pos := "node.go:76", after := #[], guard := none } : Oper) rfl rfl ?_
      gi_wp2_with fail
      (try simp only [List.setIfInBounds_toArray, List.set_cons_succ, List.set_cons_zero])
      exact h0123 A2 c2 K2 k2 w2 hN2 b2
  have h123 : ∀ (A2 : Option Addr) (c2 : Nat) (K2 : Option Addr) (k2 : Nat) (w2 : World), NodeS w2 (NewS w w2) A2 c2 K2 k2 y.n → Below w.heap.size w.drew w2 → wpAnyIn (Fence.wide.inRound l') m Tryz.prog .any ops4W Q 3 #[false, true, true, true, false, false] { tmps := #[t0, t1, .pointer (some ⟨By, 0, none⟩), .int .i64 (y.d : Int), .pointer (some ⟨gb, 0, none⟩), t5, t6, t7, t8, t9, .int .i64 (y.d : Int), ndV y.n y.A y.c y.K y.k, ndV y.n A2 c2 K2 k2, t13, t14], defers := [] } w2 := by
    intro A2 c2 K2 k2 w2 hN2 b2
    have e2 : w2.cell? ⟨By, 0, none⟩ = some (.func (.yield l) #[] #[]) := (b2.cell hBlt).trans e0
    refine any_node (fuel := 2) [0] (by kernel_rfl) (by simp) ?_
    intro i hi
    simp only [List.mem_cons, List.not_mem_nil, or_false] at hi
    subst hi
    · refine op_of_list ({ dst := some 9, op := Op.load 53 (Operand.tmp 2), type := 53, pos := "node.go:76", after := #[], guard := none } : Oper) rfl rfl ?_
      gi_wp2_with fail
      (try simp only [List.setIfInBounds_toArray, List.set_cons_succ, List.set_cons_zero])
      exact h0123 A2 c2 K2 k2 w2 hN2 b2
  have h23 : ∀ (A2 : Option Addr) (c2 : Nat) (K2 : Option Addr) (k2 : Nat) (w2 : World), NodeS w2 (NewS w w2) A2 c2 K2 k2 y.n → Below w.heap.size w.drew w2 → wpAnyIn (Fence.wide.inRound l') m Tryz.prog .any ops4W Q 4 #[false, false, true, true, false, false] { tmps := #[t0, t1, .pointer (some ⟨By, 0, none⟩), .int .i64 (y.d : Int), .pointer (some ⟨gb, 0, none⟩), t5, t6, t7, t8, t9, t10, ndV y.n y.A y.c y.K y.k, ndV y.n A2 c2 K2 k2, t13, t14], defers := [] } w2 := by
    intro A2 c2 K2 k2 w2 hN2 b2
    have e2 : w2.cell? ⟨By, 0, none⟩ = some (.func (.yield l) #[] #[]) := (b2.cell hBlt).trans e0
    refine any_node (fuel := 3) [0, 1] (by kernel_rfl) (by simp) ?_
    intro i hi
    simp only [List.mem_cons, List.not_mem_nil, or_false] at hi
    rcases hi with rfl | rfl
    · refine op_of_list ({ dst := some 9, op := Op.load 53 (Operand.tmp 2), type := 53, pos := "node.go:76", after := #[], guard := none } : Oper) rfl rfl ?_
      gi_wp2_with fail
      (try simp only [List.setIfInBounds_toArray, List.set_cons_succ, List.set_cons_zero])
      exact h023 A2 c2 K2 k2 w2 hN2 b2
    · refine op_of_list ({ dst := some 10, op := Op.move (Operand.tmp 3), type := 3, pos := "node.go:76", after := #[], guard := none } : Oper) rfl rfl ?_
      gi_wp2_with fail
      (try simp only [List.setIfInBounds_toArray, List.set_cons_succ, List.set_cons_zero])
      exact h123 A2 c2 K2 k2 w2 hN2 b2
  have h012 : wpAnyIn (Fence.wide.inRound l') m Tryz.prog .any ops4W Q 3 #[true, true, true, false, false, false] { tmps := #[t0, t1, .pointer (some ⟨By, 0, none⟩), .int .i64 (y.d : Int), .pointer (some ⟨gb, 0, none⟩), t5, t6, t7, t8, .func (.yield l) #[] #[], .int .i64 (y.d : Int), ndV y.n y.A y.c y.K y.k, t12, t13, t14], defers := [] } w.drew := by
    refine any_node (fuel := 2) [3] (by kernel_rfl) (by simp) ?_
    intro i hi
    simp only [List.mem_cons, List.not_mem_nil, or_false] at hi
    subst hi
    · refine op_of_list ({ dst := some 12, op := Op.call { callee := Callee.value (Operand.func 10), args := #[Operand.tmp 11], argTypes := #[34] }, type := 34, pos := "node.go:76", after := #[{ on := 2, ground := Ground.data }], guard := none } : Oper) rfl rfl ?_
      gi_wp2_with fail
      refine ⟨trivial, (fun h => by cases h), (callsIn_round hC).mono ?_⟩
      rintro e w2 ⟨A2, c2, K2, k2, rfl, hN2, b2⟩
      gi_wp2_with fail
      (try simp only [List.setIfInBounds_toArray, List.set_cons_succ, List.set_cons_zero])
      exact h0123 A2 c2 K2 k2 w2 hN2 b2
  have h02 : wpAnyIn (Fence.wide.inRound l') m Tryz.prog .any ops4W Q 4 #[true, false, true, false, false, false] { tmps := #[t0, t1, .pointer (some ⟨By, 0, none⟩), .int .i64 (y.d : Int), .pointer (some ⟨gb, 0, none⟩), t5, t6, t7, t8, .func (.yield l) #[] #[], t10, ndV y.n y.A y.c y.K y.k, t12, t13, t14], defers := [] } w.drew := by
    refine any_node (fuel := 3) [1, 3] (by kernel_rfl) (by simp) ?_
    intro i hi
    simp only [List.mem_cons, List.not_mem_nil, or_false] at hi
    rcases hi with rfl | rfl
    · refine op_of_list ({ dst := some 10, op := Op.move (Operand.tmp 3), type := 3, pos := "node.go:76", after := #[], guard := none } : Oper) rfl rfl ?_
      gi_wp2_with fail
      (try simp only [List.setIfInBounds_toArray, List.set_cons_succ, List.set_cons_zero])
      exact h012
    · refine op_of_list ({ dst := some 12, op := Op.call { callee := Callee.value (Operand.func 10), args := #[Operand.tmp 11], argTypes := #[34] }, type := 34, pos := "node.go:76", after := #[{ on := 2, ground := Ground.data }], guard := none } : Oper) rfl rfl ?_
      gi_wp2_with fail
      refine ⟨trivial, (fun h => by cases h), (callsIn_round hC).mono ?_⟩
      rintro e w2 ⟨A2, c2, K2, k2, rfl, hN2, b2⟩
      gi_wp2_with fail
      (try simp only [List.setIfInBounds_toArray, List.set_cons_succ, List.set_cons_zero])
      exact h023 A2 c2 K2 k2 w2 hN2 b2
  have h12 : wpAnyIn (Fence.wide.inRound l') m Tryz.prog .any ops4W Q 4 #[false, true, true, false, false, false] { tmps := #[t0, t1, .pointer (some ⟨By, 0, none⟩), .int .i64 (y.d : Int), .pointer (some ⟨gb, 0, none⟩), t5, t6, t7, t8, t9, .int .i64 (y.d : Int), ndV y.n y.A y.c y.K y.k, t12, t13, t14], defers := [] } w.drew := by
    refine any_node (fuel := 3) [0, 3] (by kernel_rfl) (by simp) ?_
    intro i hi
    simp only [List.mem_cons, List.not_mem_nil, or_false] at hi
    rcases hi with rfl | rfl
    · refine op_of_list ({ dst := some 9, op := Op.load 53 (Operand.tmp 2), type := 53, pos := "node.go:76", after := #[], guard := none } : Oper) rfl rfl ?_
      gi_wp2_with fail
      (try simp only [List.setIfInBounds_toArray, List.set_cons_succ, List.set_cons_zero])
      exact h012
    · refine op_of_list ({ dst := some 12, op := Op.call { callee := Callee.value (Operand.func 10), args := #[Operand.tmp 11], argTypes := #[34] }, type := 34, pos := "node.go:76", after := #[{ on := 2, ground := Ground.data }], guard := none } : Oper) rfl rfl ?_
      gi_wp2_with fail
      refine ⟨trivial, (fun h => by cases h), (callsIn_round hC).mono ?_⟩
      rintro e w2 ⟨A2, c2, K2, k2, rfl, hN2, b2⟩
      gi_wp2_with fail
      (try simp only [List.setIfInBounds_toArray, List.set_cons_succ, List.set_cons_zero])
      exact h123 A2 c2 K2 k2 w2 hN2 b2
  have h2 : wpAnyIn (Fence.wide.inRound l') m Tryz.prog .any ops4W Q 5 #[false, false, true, false, false, false] { tmps := #[t0, t1, .pointer (some ⟨By, 0, none⟩), .int .i64 (y.d : Int), .pointer (some ⟨gb, 0, none⟩), t5, t6, t7, t8, t9, t10, ndV y.n y.A y.c y.K y.k, t12, t13, t14], defers := [] } w.drew := by
    refine any_node (fuel := 4) [0, 1, 3] (by kernel_rfl) (by simp) ?_
    intro i hi
    simp only [List.mem_cons, List.not_mem_nil, or_false] at hi
    rcases hi with rfl | rfl | rfl
    · refine op_of_list ({ dst := some 9, op := Op.load 53 (Operand.tmp 2), type := 53, pos := "node.go:76", after := #[], guard := none } : Oper) rfl rfl ?_
      gi_wp2_with fail
      (try simp only [List.setIfInBounds_toArray, List.set_cons_succ, List.set_cons_zero])
      exact h02
    · refine op_of_list ({ dst := some 10, op := Op.move (Operand.tmp 3), type := 3, pos := "node.go:76", after := #[], guard := none } : Oper) rfl rfl ?_
      gi_wp2_with fail
      (try simp only [List.setIfInBounds_toArray, List.set_cons_succ, List.set_cons_zero])
      exact h12
    · refine op_of_list ({ dst := some 12, op := Op.call { callee := Callee.value (Operand.func 10), args := #[Operand.tmp 11], argTypes := #[34] }, type := 34, pos := "node.go:76", after := #[{ on := 2, ground := Ground.data }], guard := none } : Oper) rfl rfl ?_
      gi_wp2_with fail
      refine ⟨trivial, (fun h => by cases h), (callsIn_round hC).mono ?_⟩
      rintro e w2 ⟨A2, c2, K2, k2, rfl, hN2, b2⟩
      gi_wp2_with fail
      (try simp only [List.setIfInBounds_toArray, List.set_cons_succ, List.set_cons_zero])
      exact h23 A2 c2 K2 k2 w2 hN2 b2
  have h01 : wpAnyIn (Fence.wide.inRound l') m Tryz.prog .any ops4W Q 4 #[true, true, false, false, false, false] { tmps := #[t0, t1, .pointer (some ⟨By, 0, none⟩), .int .i64 (y.d : Int), .pointer (some ⟨gb, 0, none⟩), t5, t6, t7, t8, .func (.yield l) #[] #[], .int .i64 (y.d : Int), t11, t12, t13, t14], defers := [] } w.drew := by
    refine any_node (fuel := 3) [2] (by kernel_rfl) (by simp) ?_
    intro i hi
    simp only [List.mem_cons, List.not_mem_nil, or_false] at hi
    subst hi
    · refine op_of_list ({ dst := some 11, op := Op.load 34 (Operand.tmp 4), type := 34, pos := "node.go:76", after := #[], guard := none } : Oper) rfl rfl ?_
      gi_wp2_with fail
      (try simp only [List.setIfInBounds_toArray, List.set_cons_succ, List.set_cons_zero])
      exact h012
  have h0 : wpAnyIn (Fence.wide.inRound l') m Tryz.prog .any ops4W Q 5 #[true, false, false, false, false, false] { tmps := #[t0, t1, .pointer (some ⟨By, 0, none⟩), .int .i64 (y.d : Int), .pointer (some ⟨gb, 0, none⟩), t5, t6, t7, t8, .func (.yield l) #[] #[], t10, t11, t12, t13, t14], defers := [] } w.drew := by
    refine any_node (fuel := 4) [1, 2] (by kernel_rfl) (by simp) ?_
    intro i hi
    simp only [List.mem_cons, List.not_mem_nil, or_false] at hi
    rcases hi with rfl | rfl
    · refine op_of_list ({ dst := some 10, op := Op.move (Operand.tmp 3), type := 3, pos := "node.go:76", after := #[], guard := none } : Oper) rfl rfl ?_
      gi_wp2_with fail
      (try simp only [List.setIfInBounds_toArray, List.set_cons_succ, List.set_cons_zero])
      exact h01
    · refine op_of_list ({ dst := some 11, op := Op.load 34 (Operand.tmp 4), type := 34, pos := "node.go:76", after := #[], guard := none } : Oper) rfl rfl ?_
      gi_wp2_with fail
      (try simp only [List.setIfInBounds_toArray, List.set_cons_succ, List.set_cons_zero])
      exact h02
  have h1 : wpAnyIn (Fence.wide.inRound l') m Tryz.prog .any ops4W Q 5 #[false, true, false, false, false, false] { tmps := #[t0, t1, .pointer (some ⟨By, 0, none⟩), .int .i64 (y.d : Int), .pointer (some ⟨gb, 0, none⟩), t5, t6, t7, t8, t9, .int .i64 (y.d : Int), t11, t12, t13, t14], defers := [] } w.drew := by
    refine any_node (fuel := 4) [0, 2] (by kernel_rfl) (by simp) ?_
    intro i hi
    simp only [List.mem_cons, List.not_mem_nil, or_false] at hi
    rcases hi with rfl | rfl
    · refine op_of_list ({ dst := some 9, op := Op.load 53 (Operand.tmp 2), type := 53, pos := "node.go:76", after := #[], guard := none } : Oper) rfl rfl ?_
      gi_wp2_with fail
      (try simp only [List.setIfInBounds_toArray, List.set_cons_succ, List.set_cons_zero])
      exact h01
    · refine op_of_list ({ dst := some 11, op := Op.load 34 (Operand.tmp 4), type := 34, pos := "node.go:76", after := #[], guard := none } : Oper) rfl rfl ?_
      gi_wp2_with fail
      (try simp only [List.setIfInBounds_toArray, List.set_cons_succ, List.set_cons_zero])
      exact h12
  refine wpIn_region_any (by kernel_rfl) ?_
  change wpAnyIn (Fence.wide.inRound l') m Tryz.prog .any ops4W Q 6 #[false, false, false, false, false, false] { tmps := #[t0, t1, .pointer (some ⟨By, 0, none⟩), .int .i64 (y.d : Int), .pointer (some ⟨gb, 0, none⟩), t5, t6, t7, t8, t9, t10, t11, t12, t13, t14], defers := [] } w.drew
  refine any_node (fuel := 5) [0, 1, 2] (by kernel_rfl) (by simp) ?_
  intro i hi
  simp only [List.mem_cons, List.not_mem_nil, or_false] at hi
  rcases hi with rfl | rfl | rfl
  · refine op_of_list ({ dst := some 9, op := Op.load 53 (Operand.tmp 2), type := 53, pos := "node.go:76", after := #[], guard := none } : Oper) rfl rfl ?_
    gi_wp2_with fail
    (try simp only [List.setIfInBounds_toArray, List.set_cons_succ, List.set_cons_zero])
    exact h0
  · refine op_of_list ({ dst := some 10, op := Op.move (Operand.tmp 3), type := 3, pos := "node.go:76", after := #[], guard := none } : Oper) rfl rfl ?_
    gi_wp2_with fail
    (try simp only [List.setIfInBounds_toArray, List.set_cons_succ, List.set_cons_zero])
    exact h1
  · refine op_of_list ({ dst := some 11, op := Op.load 34 (Operand.tmp 4), type := 34, pos := "node.go:76", after := #[], guard := none } : Oper) rfl rfl ?_
    gi_wp2_with fail
    (try simp only [List.setIfInBounds_toArray, List.set_cons_succ, List.set_cons_zero])
    exact h2
end Go.Proofs.YtdnilbebdgohnaaGreatDoor



namespace Go.Proofs.YtdnilbebdgohnaaGreatDoor
open Go.RowKit Go.Shelf

attribute [local go_sem] Oper.semAt_some
set_option linter.unusedSimpArgs false

theorem walk_in (n : Nat) (A : Option Addr) (m c : Nat) (w : World) :
    CallsIn Fence.wide n Tryz.prog 23 #[.slice A m c] w fun e w' => e = .returned (.func (.func 33) #[] #[.pointer (some ⟨w.heap.size, 0, none⟩)]) ∧
      w' = w.alloc (.cells #[.slice A m c] 22) := by
  refine callsIn_of_wp Tryz.func23 rfl trivial ?_ rfl
  simp only [Tryz.ntmps23, List.size_toArray, List.length_cons, List.length_nil, Nat.reduceAdd, Nat.reduceSub, Array.replicate_succ, Array.replicate_zero, List.push_toArray, List.append_toArray, List.nil_append, List.cons_append]
  gi_wp2
  go_ret
  exact ⟨rfl, rfl⟩

section
variable {G : World → Nat → Prop} {X : Nat} {A B : World}
theorem rowN_own (hGo : GOwn X G) {row : Option Nat} {x : Yn} (h0 : X ≤ A.heap.size) (hg : A.grownBy B row) (hr : ∀ r, row = some r → X ≤ r ∧ ∃ o : Obj, A.heap[r]? = some o ∧ o.isCells = false) (h : RowN G A x) : RowN G B x := by
  obtain ⟨S, h1, h2, h3⟩ := h
  have hcell : ∀ (p : Addr) (u : Value), S p.block → A.cell? p = some u → B.cell? p = some u := fun p u h4 h5 => (World.cell?_of_block (hg.block p.block (h1 _ h4).1 fun e => by
    obtain ⟨_, o, ho, hoc⟩ := hr p.block e.symm
    unfold World.cell? at h5
    rw [ho] at h5
    cases o <;> first | (simp [Obj.isCells] at hoc; done) | (simp at h5; done))).trans h5
  exact ⟨S, fun b hb => ⟨Nat.lt_of_lt_of_le (h1 b hb).1 hg.size, fun hgb => (h1 b hb).2 (hGo _ _ _ h0 hg (fun r e => (hr r e).1) _ hgb)⟩, ⟨h2.data.turn2 hcell (fun _ h => h), h2.dc, h2.dm, h2.kids.turn2 hcell (fun _ h => h), h2.kc, h2.km⟩, h3⟩
/-- what Walk's loop holds: the caller's, for clones of what has come; and the variable with the yield -/
structure WkI (G : World → Nat → Prop) (J : List Yn → World → Prop) (l By X : Nat) (ys : List Yn) (W : World) : Prop where
  j : ∃ zs, zs.map Yn.key = ys.map Yn.key ∧ J zs W
  y : Boxed W By 53 (.func (.yield l) #[] #[])
  ny : ¬ G W By
  sz : X ≤ W.heap.size
def WkX (Jx : List Yn × Yn → World → Prop) (p : List Yn × Yn) (W : World) : Prop := ∃ q : List Yn × Yn, q.1.map Yn.key = p.1.map Yn.key ∧ q.2.key = p.2.key ∧ Jx q W
theorem wkI_own {J : List Yn → World → Prop} {l By : Nat} (hGo : GOwn X G) (hJo : OwnFrom X J) : OwnFrom X (WkI G J l By X) := by
  rintro ys A B row ⟨⟨zs, h1, h1'⟩, h2, h3, h0⟩ hg hr
  have hne : ∀ (i : Nat) (cs : Array Value) (t : TypeId) (z : Nat × Nat), A.heap[i]? = some (.cells cs t z) → some i ≠ row := by
    intro i cs t z hi e
    obtain ⟨_, o, ho, hoc⟩ := hr i e.symm
    rw [hi] at ho
    cases ho
    cases hoc
  exact ⟨⟨zs, h1, hJo _ _ _ _ h1' hg hr⟩, h2.kept hg (hne _ _ _ _ h2), fun h => h3 (hGo _ _ _ h0 hg (fun r e => (hr r e).1) _ h), Nat.le_trans h0 hg.size⟩
theorem wkX_own {Jx : List Yn × Yn → World → Prop} (hJo : OwnFrom X Jx) : OwnFrom X (WkX Jx) := by
  rintro p A B row ⟨q, h1, h2, h3⟩ hg hr
  exact ⟨q, h1, h2, hJo _ _ _ _ h3 hg hr⟩
end

set_option maxRecDepth 100000 in
set_option maxHeartbeats 4000000 in
theorem walkit_in (l Bl n₀ N : Nat) (A : Option Addr) (c : Nat) (ns : List Nd) (S : Nat → Prop) (G : World → Nat → Prop) (W : World) (hGo : GOwn W.heap.size G)
    (J : List Yn → World → Prop) (Jx : List Yn × Yn → World → Prop) (hJo : OwnFrom W.heap.size J) (hJxo : OwnFrom W.heap.size Jx) (hJG : ∀ s A, J s A → ∀ i, G A i → i < A.heap.size)
    (hY : ∀ pre x W1, J pre W1 → pre.length < N → RowN G W1 x → Nxt (flats ns 1) pre x → YieldAt Fence.wide 4 Tryz.prog l (encN x) W1 fun e W' => ((e = .returned (.bool true) ∧ J (pre ++ [x]) W' ∧ KpG G n₀ W1 W') ∨ (e = .returned (.bool false) ∧ Jx (pre, x) W')) ∧ KeepsFrom W.heap.size W1 W')
    (hBl : Whole W Bl 22 #[.slice A ns.length c]) (hS : Held G W S) (hN : NodesS W S A ns) (hc : ns.length ≤ c) (hm : c ≤ maxLen)
    (hd : ∀ x ∈ flats ns 1, x.1 ≤ 1000000) (hf : ∀ x ∈ ns, Few2 x) (hl : ns.length ≤ 100000000) (hNn : (flats ns 1).length ≤ N) (hn₀ : n₀ ≤ W.heap.size) (h0 : J [] W) :
    CallsIn Fence.wide 5 Tryz.prog 22 #[.func (.yield l) #[] #[], .pointer (some ⟨Bl, 0, none⟩)] W fun e W' => (∃ v, e = .returned v) ∧ ((∃ xs, FinW ns xs ∧ J xs W') ∨ (∃ p, FinWX ns p ∧ Jx p W')) := by
  refine callsIn_of_wp_marks Tryz.func22 rfl trivial ?_ rfl
  simp only [Tryz.ntmps22, List.size_toArray, List.length_cons, List.length_nil, Nat.reduceAdd, Nat.reduceSub, Array.replicate_succ, Array.replicate_zero, List.push_toArray, List.append_toArray, List.nil_append, List.cons_append]
  have hcell : W.cell? ⟨Bl, 0, none⟩ = some (.slice A ns.length c) := by rw [Whole.cell hBl]; rfl
  have hBlt := hBl.lt
  have HD := Lib.hid hd
  have HF := Lib.hid hf
  clear hd hf
  gi_wp2_with (refine ⟨trivial, ?_⟩; gi_at_call 23; refine (walk_in _ _ _ _ _).mono ?_; rintro e w' ⟨rfl, rfl⟩)
  have hB0 : Below W.heap.size W ((W.alloc (.cells #[.func (.yield l) #[] #[]] 53)).alloc (.cells #[.slice A ns.length c] 22)) :=
    ((Below.refl _ W).alloc (Nat.le_refl _) _).alloc (by simp) _
  have x0 := (Boxed.new W 53 (.func (.yield l) #[] #[])).alloc (.cells #[.slice A ns.length c] 22)
  have x1 := Boxed.new (W.alloc (.cells #[.func (.yield l) #[] #[]] 53)) 22 (.slice A ns.length c)
  simp only [World.size_alloc] at x1
  have hsz : ((W.alloc (.cells #[.func (.yield l) #[] #[]] 53)).alloc (.cells #[.slice A ns.length c] 22)).heap.size = W.heap.size + 1 + 1 := by simp
  have hj0 : J [] ((W.alloc (.cells #[.func (.yield l) #[] #[]] 53)).alloc (.cells #[.slice A ns.length c] 22)) := hJo.alloc _ (hJo.alloc _ h0)
  have hk0 := kpg_of hGo (Nat.le_refl _) hn₀ hB0
  have hg0 : ∀ i, G ((W.alloc (.cells #[.func (.yield l) #[] #[]] 53)).alloc (.cells #[.slice A ns.length c] 22)) i → i < W.heap.size := fun i hi =>
    hJG _ _ h0 i (hGo _ _ none (Nat.le_refl _) (grown_of_below hB0) (fun r e => by cases e) i hi)
  have hS0 := hS.kp hk0
  have hN0 := hN.kp hS hk0
  generalize (W.alloc (.cells #[.func (.yield l) #[] #[]] 53)).alloc (.cells #[.slice A ns.length c] 22) = W0 at *
  have hi0 : WkI G J l W.heap.size W0.heap.size [] W0 := ⟨⟨[], rfl, hj0⟩, x0, fun h => Nat.lt_irrefl _ (hg0 _ h), Nat.le_refl _⟩
  have hGo0 : GOwn W0.heap.size G := fun A B row hA hg hr => hGo A B row (by omega) hg fun r e => by have := hr r e; omega
  have hIo : OwnFrom W0.heap.size (WkI G J l W.heap.size W0.heap.size) := wkI_own hGo0 (ownFrom_wider hJo (by omega))
  have hIxo : OwnFrom W0.heap.size (WkX Jx) := wkX_own (ownFrom_wider hJxo (by omega))
  refine each_leave .ret (F := Fence.wide) (n := 5) (P := Tryz.prog) rfl (by omega) (gf := 33) (lb := #[.pointer (some ⟨W.heap.size + 1, 0, none⟩)]) rfl trivial (enters_of Tryz.func33 (by kernel_rfl) rfl)
    (encs := encN) (Kp := KpG G n₀) (G := G) (Row := fun pre W x => RowN G W x ∧ Nxt (flats ns 1) pre x) (Fin := FinW ns) (FinX := FinWX ns) (N := N) ?hseq (fun _ => rfl)
    KpG.trans ?hKb (WkI G J l W.heap.size W0.heap.size) hIo (WkX Jx) hIxo hi0 (fun _ _ h => by obtain ⟨zs, _, hz⟩ := h.j; exact hJG _ _ hz)
    (fun pre x a' V => ∃ g, a' = { tmps := #[.func (.yield l) #[] #[], .pointer (some ⟨Bl, 0, none⟩), .pointer (some ⟨W.heap.size, 0, none⟩), .int .i64 (x.d : Int), .pointer (some ⟨g, 0, none⟩), .slice A ns.length c, .func (.func 33) #[] #[.pointer (some ⟨W.heap.size + 1, 0, none⟩)], .int .i64 (x.d : Int), ndV x.n x.A x.c x.K x.k, undef, undef, undef, undef, undef, undef], defers := [] } ∧
      Whole V g 34 #[hv x.n.t, .slice x.A x.n.v.length x.c, .slice x.K x.n.ks.length x.k] ∧ WkI G J l W.heap.size W0.heap.size pre V ∧ RowN G V x ∧ Nxt (flats ns 1) pre x) ?hAx
    ?assign ?body ?done ?stop
  case hseq =>
    intro l' J' Jx' V hV hJo' hJxo' hJG' hY' hj'
    have hkV := kpg_of (n₀ := n₀) hGo (by omega) (by omega) hV
    exact walk1_in 4 (by omega) l' (W.heap.size + 1) n₀ W0.heap.size N A c ns S G hGo0 J' Jx' (fun s A B h hg => hJo' s A B none h hg (fun r e => by cases e)) hJG'
      (fun pre x W1 h1 h2 h3 h4 => by
        obtain ⟨fn, tmps, assign, body, hy, hR⟩ := hY' pre x W1 h1 h2 ⟨h3, h4⟩
        exact ⟨fn, tmps, assign, body, hy, hR.mono fun e w' h => h.1⟩) V hV.size (by have := hV.size; omega) (Whole.below x1 hV (by omega)) (hS0.kp hkV) (hN0.kp hS0 hkV) hc hm HD.out HF.out hl hNn hj'
  case hKb =>
    intro V l' o o' hl ho hoc
    have hlt := (Array.getElem?_eq_some_iff.1 ho).1
    refine ⟨(Below.refl _ V).grown (grownBy_putObj' V l' o') (by omega) (fun k e => by cases e; omega), fun i cs t z _ hi => ?_, fun i _ hi => hGo _ _ (some l') (by omega) (grownBy_putObj' V l' o') (fun r e => by cases e; omega) i hi⟩
    rw [World.putObj_heap_other (fun e => ?_)]
    · exact hi
    · subst e
      rw [hi] at ho
      cases ho
      cases hoc
  case hAx =>
    rintro pre x a' s X Y row ⟨g, ha, hw, hi, hr1, hr2⟩ hg hr
    refine ⟨g, ha, (hg.block g hw.lt (fun e => ?_)).trans hw, hIo _ _ _ _ hi hg hr, rowN_own hGo0 hi.sz hg hr hr1, hr2⟩
    obtain ⟨_, o, ho, hoc⟩ := hr g e.symm
    unfold Whole at hw
    rw [hw] at ho
    cases ho
    cases hoc
  case assign =>
    intro l' pre x V K hi ⟨hrx, hnx⟩ hK
    have hk : ∀ o, KeepsFrom W0.heap.size V (V.alloc o) := fun o => (KeepsOthers.alloc V o).from _
    simp only [encN, ndV]
    gi_wp2
    have hb := (Below.refl V.heap.size V).alloc (Nat.le_refl _) (.cells #[hv x.n.t, .slice x.A x.n.v.length x.c, .slice x.K x.n.ks.length x.k] 34)
    have hgr := grown_of_below hb
    have hsz0 := hi.sz
    refine hK _ _ (hk _) ⟨hb.mono (by omega), fun i _ _ _ _ h2 => (hb.block i (Array.getElem?_eq_some_iff.1 h2).1).trans h2, fun i _ h2 => hGo0 _ _ none hsz0 hgr (fun r e => by cases e) i h2⟩
      ⟨V.heap.size, rfl, Whole.new _ _ _, hIo _ _ _ none hi hgr (fun _ e => by cases e), rowN_own hGo0 hsz0 hgr (fun _ e => by cases e) hrx, hnx⟩
  case body =>
    rintro l' pre x a' V ⟨g, rfl, hw, hi, ⟨S1, hH1, hN1, hF1⟩, hnx⟩ hlen
    have HNX := Lib.hid hnx
    clear hnx
    obtain ⟨zs, hz, hjz⟩ := hi.j
    have hzl : zs.length = pre.length := by have := congrArg List.length hz; simpa using this
    have hVsz := hi.sz
    have hCl := nclone_any x.n hF1 x.A x.c x.K x.k V.drew ((hN1.node (fun b hb => (hH1 b hb).1)).keep (fun _ _ => rfl))
    gi_wp2_with fail
    refine region4W _ _ _ _ _ _ _ _ _ _ _ _ W.heap.size g x V hi.y hw hCl ?_
    intro A2 c2 K2 k2 w2 hN2 b2'
    have b2 := below_undrew b2'
    have hkV := kpg_of (n₀ := n₀) hGo (by omega) (by omega) b2
    have hj2 := hJo _ _ _ none hjz (grown_of_below b2) (fun r e => by cases e)
    have hy2 : Boxed w2 W.heap.size 53 (.func (.yield l) #[] #[]) := Whole.below hi.y b2 (boxed_lt hi.y)
    have hny2 : ¬ G w2 W.heap.size := fun h => hi.ny (hkV.own _ (boxed_lt hi.y) h)
    have hkf2 : KeepsFrom W0.heap.size V w2 := ⟨b2.size, fun k o _ hk ho => (b2.block k (Array.getElem?_eq_some_iff.1 hk).1).trans hk⟩
    have hsz2 := b2.size
    obtain ⟨fn, tmps, assign, body, hy, hR⟩ := hY zs ⟨x.d, x.n, A2, c2, K2, k2⟩ w2 hj2 (by omega) ⟨NewS V w2, fun b hb => ⟨hb.2, fun hg => absurd (hJG _ _ hjz b (hGo _ _ none (by omega) (grown_of_below b2) (fun r e => by cases e) b hg)) (Nat.not_lt.2 hb.1)⟩, hN2, hF1⟩ (by obtain ⟨post, hp⟩ := HNX.out; exact ⟨post, by rw [hz]; exact hp⟩)
    simp only [encN, ndV] at hy
    refine any_node (fuel := 1) [4] (by kernel_rfl) (by simp) ?_
    intro i hi9
    simp only [List.mem_cons, List.not_mem_nil, or_false] at hi9
    subst hi9
    refine op_of_list ({ dst := some 13, op := Op.call { callee := Callee.value (Operand.tmp 9), args := #[Operand.tmp 10, Operand.tmp 12], argTypes := #[3, 34] }, type := 4, pos := "node.go:76", after := #[{ on := 0, ground := Ground.data }, { on := 1, ground := Ground.data }, { on := 3, ground := Ground.data }, { on := 3, ground := Ground.chain }], guard := none } : Oper) rfl rfl ?_
    gi_wp2_with fail
    refine (roundIn_wide hR).mono ?_
    rintro e w3 ⟨⟨rfl, hj3, hk3⟩ | ⟨rfl, hx3⟩, hkf⟩
    · have hfin : WkI G J l W.heap.size W0.heap.size (pre ++ [x]) w3 := ⟨⟨_, by rw [List.map_append, List.map_append, hz]; rfl, hj3⟩, hk3.same _ _ _ _ hny2 hy2, fun h => hny2 (hk3.own _ (boxed_lt hy2) h), by have := hkf.size; omega⟩
      gi_wp2_with fail
      (try simp only [List.setIfInBounds_toArray, List.set_cons_succ, List.set_cons_zero])
      refine any_node (fuel := 0) [5] (by kernel_rfl) (by simp) ?_
      intro i hi9
      simp only [List.mem_cons, List.not_mem_nil, or_false] at hi9
      subst hi9
      refine op_of_list ({ dst := some 14, op := Op.unOp UnOp.not 4 (Operand.tmp 13), type := 4, pos := "node.go:76", after := #[{ on := 4, ground := Ground.data }], guard := none } : Oper) rfl rfl ?_
      gi_wp2_with fail
      (try simp only [List.setIfInBounds_toArray, List.set_cons_succ, List.set_cons_zero])
      refine any_end (by kernel_rfl) ?_
      gi_wp2_with fail
      exact ⟨hkf2.trans ⟨hkf.size, fun k o hk ho => hkf.same k o (by omega) ho⟩, hkV.trans hk3, hfin⟩
    · have hfin : WkX Jx (pre, x) w3 := ⟨(zs, ⟨x.d, x.n, A2, c2, K2, k2⟩), hz, rfl, hx3⟩
      gi_wp2_with fail
      (try simp only [List.setIfInBounds_toArray, List.set_cons_succ, List.set_cons_zero])
      refine any_node (fuel := 0) [5] (by kernel_rfl) (by simp) ?_
      intro i hi9
      simp only [List.mem_cons, List.not_mem_nil, or_false] at hi9
      subst hi9
      refine op_of_list ({ dst := some 14, op := Op.unOp UnOp.not 4 (Operand.tmp 13), type := 4, pos := "node.go:76", after := #[{ on := 4, ground := Ground.data }], guard := none } : Oper) rfl rfl ?_
      gi_wp2_with fail
      (try simp only [List.setIfInBounds_toArray, List.set_cons_succ, List.set_cons_zero])
      refine any_end (by kernel_rfl) ?_
      gi_wp2_with fail
      exact ⟨rfl, hkf2.trans ⟨hkf.size, fun k o hk ho => hkf.same k o (by omega) ho⟩, hfin⟩
  case done =>
    rintro D xs V hD hF hi hKD
    obtain ⟨zs, hz, hjz⟩ := hi.j
    gi_wp2_with fail
    refine ⟨by simp, .inl ⟨_, _, rfl, run_takeDeferred hKD, ?_⟩⟩
    refine ⟨_, results_none rfl _ _ _, ?_⟩
    exact ⟨⟨_, rfl⟩, .inl ⟨zs, hz.trans hF, hJo.putObj _ hjz (by omega) hKD rfl⟩⟩
  case stop =>
    rintro D p V hD hF ⟨q, h1, h2, hi⟩ hKD
    obtain ⟨post, hp⟩ := hF
    gi_wp2_with fail
    refine ⟨by simp, .inl ⟨_, _, rfl, run_takeDeferred hKD, ?_⟩⟩
    refine ⟨_, results_none rfl _ _ _, ?_⟩
    exact ⟨⟨_, rfl⟩, .inr ⟨q, ⟨post, by rw [h1, h2]; exact hp⟩, hJxo.putObj _ hi (by omega) hKD rfl⟩⟩
end Go.Proofs.YtdnilbebdgohnaaGreatDoor


namespace Go.Proofs.YtdnilbebdgohnaaGreatDoor
open Go.RowKit Go.Shelf

section
variable {P : Program} (w : World)
/-- append of elements of whatever size, from whatever source, of none too -/
theorem run_append_wide (base : Nat) (t ty e : TypeId) (z : Value) (size bytes : Nat) (ht : P.underlying t = some (.slice e)) (hi : (P.info? e).map (fun i => (i.zero, i.size, i.bytes)) = some (some z, size, bytes))
    (hzs : z.cells.size = size) (hsz : 0 < size) (v : Value) (n : Nat) (xs : List Value) (hown : w.ownsRow base e size v n xs)
    (B : Nat) (A : Option Addr) (m c : Nat) (news : List Value) (hm : news.length = m * size) (hl : Lies w B A news) (h1 : ∀ u ∈ news, u.oneCell' = true)
    (hbytes : (n + m) * bytes ≤ 140737488355328) (h63 : n + m ≤ maxLen) (hbase : base ≤ w.heap.size) :
    ∃ v' w', (Builtin.append_ #[t, t] ty #[v, .slice A m c]).run P w = .ok v' w' ∧ w'.ownsRow base e size v' (n + m) (xs ++ news) ∧ w.grownBy w' v.ownBlock := by
  obtain ⟨i, hi0, hi1, hi2, hi3⟩ := info_parts hi
  by_cases hm0 : m = 0
  · subst hm0
    have hn : news = [] := List.eq_nil_of_length_eq_zero (by simpa using hm)
    subst hn
    rcases A with _ | ad
    · refine ⟨v, w, ?_, by simpa using hown, World.grownBy.refl w _⟩
      rcases hown.2 with ⟨rfl, rfl⟩ | ⟨g, cap, cur, rfl, _, _, hnc, _⟩
      · simp [Builtin.append_, run_underlying ht, sizeOf, typeInfo, hi0, Builtin.lenOf, Builtin.firstCells]
      · simp [Builtin.append_, run_underlying ht, sizeOf, typeInfo, hi0, Builtin.lenOf, Builtin.firstCells, hnc, storeCells]
    · obtain ⟨v', w', hr, h2, h3, _⟩ := run_append_own w base t ty e i z size bytes ht hi0 hi1 hi2 hi3 hzs hsz v n xs hown ad 0 c [] (by simp) (fun j u hu => by simp at hu) h1 h63 hbytes hbase
      exact ⟨v', w', hr, h2, h3⟩
  · have hne : news ≠ [] := fun e => by
      subst e
      have : 0 < m * size := Nat.mul_pos (by omega) hsz
      simp at hm
      omega
    obtain ⟨ad, rfl, _, hc⟩ := hl hne
    obtain ⟨v', w', hr, h2, h3, _⟩ := run_append_own w base t ty e i z size bytes ht hi0 hi1 hi2 hi3 hzs hsz v n xs hown ad m c news hm hc h1 h63 hbytes hbase
    exact ⟨v', w', hr, h2, h3⟩
theorem wpList_append_wide {ops : Array Oper} {rest : List Oper} {o : Oper} {a : Act} {Q : Exit → Act → World → Prop} (hgd : o.guard = none) (s x : Operand) (t : TypeId)
    (ho : o.op = .call { callee := .builtin .append, args := #[s, x], argTypes := #[t, t] })
    (base : Nat) (e : TypeId) (z : Value) (size bytes : Nat) (ht : P.underlying t = some (.slice e)) (hi : (P.info? e).map (fun i => (i.zero, i.size, i.bytes)) = some (some z, size, bytes))
    (hzs : z.cells.size = size) (hsz : 0 < size) (v : Value) (n : Nat) (xs : List Value) (hs : a.eval s = v) (hown : w.ownsRow base e size v n xs)
    (B : Nat) (A : Option Addr) (m c : Nat) (news : List Value) (hx : a.eval x = .slice A m c) (hm : news.length = m * size) (hl : Lies w B A news) (h1 : ∀ u ∈ news, u.oneCell' = true)
    (hbytes : (n + m) * bytes ≤ 140737488355328) (h63 : n + m ≤ maxLen) (hbase : base ≤ w.heap.size)
    (h : ∀ v' w', w'.ownsRow base e size v' (n + m) (xs ++ news) → w.grownBy w' v.ownBlock → wpList P ops Q rest (a.put o.dst v') w') : wpList P ops Q (o :: rest) a w :=
  wpList_plain hgd fun K hK => by
    obtain ⟨v', w', hr, h2, h3⟩ := run_append_wide (P := P) w base t o.type e z size bytes ht hi hzs hsz v n xs hown B A m c news hm hl h1 hbytes h63 hbase
    unfold Oper.wp execOp
    simp only [ho, resolve, invoke, builtin, Sem.run_bind, Sem.run_pure, Result.andThen_ok, List.map_toArray, List.map_cons, List.map_nil, hs, hx, hr]
    exact hK _ _ (h v' w' h2 h3)
end

section
variable {w : World} {S : Nat → Prop} {ns ns2 : List Nd} {us us2 : List Value} {Ks Ks2 : Nat → Option Addr} {cs cs2 : Nat → Nat}
theorem Elems.append (h : Elems w S us ns Ks cs) (h2 : Elems w S us2 ns2 Ks2 cs2) : ∃ K c, Elems w S (us ++ us2) (ns ++ ns2) K c := by
  have hl := h.len
  refine ⟨fun i => if i < ns.length then Ks i else Ks2 (i - ns.length), fun i => if i < ns.length then cs i else cs2 (i - ns.length), by simp [hl, h2.len]; omega, fun i m hm => ?_, fun i m hm => ?_⟩
  · rcases Nat.lt_or_ge i ns.length with hlt | hge
    · rw [List.getElem?_append_left hlt] at hm
      rw [List.getElem?_append_left (by omega), List.getElem?_append_left (by omega), List.getElem?_append_left (by omega)]
      simp only [hlt, if_true]
      exact h.each i m hm
    · rw [List.getElem?_append_right hge] at hm
      rw [List.getElem?_append_right (by omega), List.getElem?_append_right (by omega), List.getElem?_append_right (by omega), hl, show i * 3 - ns.length * 3 = (i - ns.length) * 3 by omega,
        show i * 3 + 1 - ns.length * 3 = (i - ns.length) * 3 + 1 by omega, show i * 3 + 2 - ns.length * 3 = (i - ns.length) * 3 + 2 by omega]
      simp only [show ¬ i < ns.length by omega, if_false]
      exact h2.each _ m hm
  · rcases Nat.lt_or_ge i ns.length with hlt | hge
    · rw [List.getElem?_append_left hlt] at hm
      simp only [hlt, if_true]
      exact h.kids i m hm
    · rw [List.getElem?_append_right hge] at hm
      simp only [show ¬ i < ns.length by omega, if_false]
      exact h2.kids _ m hm
end
end Go.Proofs.YtdnilbebdgohnaaGreatDoor


namespace Go.Proofs.YtdnilbebdgohnaaGreatDoor
open Go.RowKit Go.Shelf

attribute [local go_sem] Oper.semAt_some

def dvals (l : List (Nat × Nd)) : List Value := l.map fun x => .int .i64 (x.1 : Int)
/-- the two rows -/
structure Rows2 (W : World) (L : Nat) (S : Nat → Prop) (u v : Value) (l : List (Nat × Nd)) : Prop where
  ds : W.ownsRow L 3 1 u l.length (dvals l)
  ns : ∃ us, W.ownsRow L 34 3 v l.length us ∧ (∀ x ∈ us, x.oneCell' = true) ∧ ∃ Ks cs, Elems W S us (l.map Prod.snd) Ks cs
def ListOK (ns : List Nd) : Prop := ∀ (d : Nat) (A : Option Addr) (c : Nat) (S : Nat → Prop) (w : World), NodesS w S A ns → (∀ b, S b → b < w.heap.size) → (∀ x ∈ flats ns d, x.1 ≤ 1000000) → d ≤ 1000001 → (flats ns d).length ≤ 100000000 → ns.length ≤ 100000000 → (∀ x ∈ ns, Few2 x) →
  Calls Tryz.prog 6 #[.slice A ns.length c, .int .i64 (d : Int)] w fun e w' => ∃ A1 c1 A2 c2, e = .returned (.tuple #[.slice A1 (flats ns d).length c1, .slice A2 (flats ns d).length c2]) ∧ Rows2 w' w.heap.size S (.slice A1 (flats ns d).length c1) (.slice A2 (flats ns d).length c2) (flats ns d) ∧ Below w.heap.size w w'
theorem own_slice1 {w : World} {base e n : Nat} {v : Value} {xs : List Value} (h : w.ownsRow base e 1 v n xs) : ∃ A c, v = .slice A n c := by
  rcases h.2 with ⟨rfl, h2⟩ | ⟨g, cap, cur, h1, _⟩
  · exact ⟨none, 0, by rw [h2]⟩
  · exact ⟨_, _, h1⟩
theorem own_belowW {w w' : World} {base e size n : Nat} {v : Value} {xs : List Value} (h : w.ownsRow base e size v n xs) (hb : Below w.heap.size w w') : w'.ownsRow base e size v n xs := by
  refine ⟨h.1, ?_⟩
  rcases h.2 with h2 | ⟨g, cap, cur, rfl, h3, h4, h5⟩
  · exact .inl h2
  · exact .inr ⟨g, cap, cur, rfl, h3, (hb.block g (Array.getElem?_eq_some_iff.1 h4).1).trans h4, h5⟩
/-- a row is kept where another row grows -/
theorem own_apart {w w' : World} {base e size n : Nat} {v : Value} {xs : List Value} {row : Option Nat} (h : w.ownsRow base e size v n xs) (hg : w.grownBy w' row) (hne : ∀ g, v.ownBlock = some g → row ≠ some g) : w'.ownsRow base e size v n xs := by
  refine h.kept hg ?_
  rcases h.2 with ⟨rfl, _⟩ | ⟨g, cap, cur, rfl, _⟩
  · exact .inl rfl
  · exact .inr fun e => hne g rfl e.symm
theorem own_types {w : World} {b1 e1 s1 n1 b2 e2 s2 n2 : Nat} {v1 v2 : Value} {x1 x2 : List Value} (h1 : w.ownsRow b1 e1 s1 v1 n1 x1) (h2 : w.ownsRow b2 e2 s2 v2 n2 x2) (hne : e1 ≠ e2) : ∀ g, v1.ownBlock = some g → v2.ownBlock ≠ some g := by
  intro g hg hg2
  rcases h1.2 with ⟨rfl, _⟩ | ⟨g1, cap, cur, rfl, _, q1, _⟩
  · cases hg
  · rcases h2.2 with ⟨rfl, _⟩ | ⟨g2, cap2, cur2, rfl, _, q2, _⟩
    · cases hg2
    · cases hg
      cases hg2
      rw [q1] at q2
      cases q2
      exact hne rfl
theorem own_liesW {w : World} {base e size n c : Nat} {A : Option Addr} {xs : List Value} (h : w.ownsRow base e size (.slice A n c) n xs) (hz : n = 0 → xs = []) : Lies w w.heap.size A xs := fun hne => by
  rcases h.2 with ⟨h1, h2⟩ | ⟨g, cap, cur, h1, h2, h3, _⟩
  · exact absurd (hz h2) hne
  · simp only [Value.slice.injEq] at h1
    obtain ⟨rfl, _, _⟩ := h1
    exact ⟨_, rfl, (Array.getElem?_eq_some_iff.1 h3).1, h.cells (g := g) rfl⟩
theorem iinfo : (Tryz.prog.info? 3).map (fun i => (i.zero, i.size, i.bytes)) = some (some (.int .i64 0), 1, 8) := by kernel_rfl
set_option maxRecDepth 100000 in
set_option maxHeartbeats 2000000 in
theorem list_step (ns : List Nd) (ih : ∀ x ∈ ns, ListOK x.ks) : ListOK ns := by
  intro d A c S w h hS hd hd1 hfl hl hf
  have HI := Lib.hid ih
  have HD := Lib.hid hd
  have HF := Lib.hid hf
  clear ih hd hf
  go_enter Tryz.func6, Tryz.ntmps6
  go_wp2_with fail
  go_loopw [6, 7, 8] (fun u v i wr => ∃ (k : Nat), k ≤ ns.length ∧ i = .int .i64 k ∧ Hid (Rows2 wr w.heap.size S u v (flats (ns.take k) d)) ∧ Below w.heap.size w wr) (fun _ _ i _ => ns.length - (intOf i).toNat)
  case atStart => exact ⟨0, Nat.zero_le _, rfl, ⟨by simpa [flats, dvals] using World.ownsRow_nil _ _ _ _, ⟨[], by simpa [flats] using World.ownsRow_nil _ _ _ _, by simp, fun _ => none, fun _ => 0, by simpa [flats] using Elems.nil _ _⟩⟩, Below.refl _ _⟩
  case round =>
    obtain ⟨k, hk, rfl, hrow, hbel⟩ := hrel
    by_cases hlt : k < ns.length
    · obtain ⟨ad, A', c', K', k', x, rfl, hb, hx, hc0, hc1, hc2, hN⟩ := (h.turn (fun p hp => hbel.cell (hS _ hp)) (fun _ h => h)).at_ hlt
      have hmem := List.mem_of_getElem? hx.out
      have hflx := flats_at hx.out d
      have hd2 : d ≤ 1000000 := HD.out (d, x) (by rw [hflx]; exact List.mem_append_right _ (List.mem_cons_self ..))
      have hln : (flats ns d).length = (flats (ns.take k) d).length + ((flats x.ks (d + 1)).length + (flats (ns.drop (k + 1)) d).length + 1) := by rw [hflx]; simp
      have hC := HI.out x hmem (d + 1) K' k' S wr hN.kids (fun b hb => Nat.lt_of_lt_of_le (hS b hb) hbel.size) (fun z hz => HD.out z (by rw [hflx]; exact List.mem_append_right _ (List.mem_cons_of_mem _ (List.mem_append_left _ hz)))) (by omega) (by omega) (HF.out x hmem).kl.1 (HF.out x hmem).kid
      have HT := Lib.hid (flats_take hx.out d)
      have HN := Lib.hid hN
      clear hflx hN
      generalize flats (ns.take k) d = L1 at *
      generalize flats x.ks (d + 1) = L2 at *
      go_wp2_with fail
      refine hC.mono ?_
      rintro e w2 ⟨A1, c1, A2, c2, rfl, hR2, b2⟩
      have hw2 := b2.size
      have hw0 := hbel.size
      -- the rows that stand, at the world behind the call
      have hu2 := own_belowW hrow.out.ds b2
      obtain ⟨us1, hv1, ho1, Ks1, cs1, hE1⟩ := hrow.out.ns
      obtain ⟨us2, hv2, ho2, Ks2, cs2, hE2⟩ := hR2.ns
      have hv1' := own_belowW hv1 b2
      have hs2 := hR2.ds
      have hl1 : L1.length ≤ 100000000 := by omega
      have hl2 : L1.length + 1 + L2.length ≤ 100000000 := by omega
      have W3 := hu2.alloc (.cells #[.int .i64 (d : Int)] 3)
      obtain ⟨Au, cu, rfl⟩ := own_slice1 hu2
      obtain ⟨Av, cv, rfl⟩ := own_slice3 hv1
      have HU := Lib.hid W3
      have hnew1 : Lies (w2.alloc (.cells #[.int .i64 (d : Int)] 3)) (w2.heap.size + 1) (some ⟨w2.heap.size, 0, none⟩) [.int .i64 (d : Int)] := Lies.newN w2 [.int .i64 (d : Int)] 3
      have hu0 : ∀ g, (Value.slice Au L1.length cu).ownBlock = some g → w.heap.size ≤ g ∧ g < wr.heap.size := fun g hg => hrow.out.ds.lt g hg
      have hv0 : ∀ g, (Value.slice Av L1.length cv).ownBlock = some g → w.heap.size ≤ g ∧ g < wr.heap.size := fun g hg => hv1.lt g hg
      have hsg : ∀ g, (Value.slice A1 L2.length c1).ownBlock = some g → (Value.slice Au L1.length cu).ownBlock ≠ some g := fun g hg hg2 => by have := (hs2.lt g hg).1; have := (hu0 g hg2).2; omega
      have hvg : ∀ g, (Value.slice A2 L2.length c2).ownBlock = some g → (Value.slice Av L1.length cv).ownBlock ≠ some g := fun g hg hg2 => by have := (hv2.lt g hg).1; have := (hv0 g hg2).2; omega
      have hn1 := own_types hv1' hu2 (by decide)
      have hn2 := own_types hv2 hu2 (by decide)
      have HS3 := Lib.hid (hs2.alloc (.cells #[.int .i64 (d : Int)] 3))
      have HV3 := Lib.hid (hv1'.alloc (.cells #[.int .i64 (d : Int)] 3))
      have HW3 := Lib.hid (hv2.alloc (.cells #[.int .i64 (d : Int)] 3))
      have b03 : Below w.heap.size w (w2.alloc (.cells #[.int .i64 (d : Int)] 3)) := (hbel.trans (b2.mono hw0)).alloc (by omega) _
      have hlu := hv2.1
      clear hv1 hv1' hv2 hs2 hu2 W3
      go_wp2_with (first
        | (at_builtin; refine wpList_append_wide _ rfl (.tmp 28) (.tmp 30) 25 rfl w.heap.size 3 _ 1 8 Tryz.underlying25 iinfo rfl (by omega) _ _ _ rfl HU.out _ _ 1 1 [.int .i64 (d : Int)] rfl rfl hnew1 (by intro u hu; simp at hu; subst hu; rfl) (by omega) (by unfold maxLen; omega) (by simp; omega) ?_; intro v4 w4 own4 g4; have g4' : (w2.alloc (.cells #[.int .i64 (d : Int)] 3)).grownBy w4 (Value.slice Au L1.length cu).ownBlock := g4; have HS4 := Lib.hid (own_apart HS3.out g4' hsg); have HV4 := Lib.hid (own_apart HV3.out g4' hn1); have HW4 := Lib.hid (own_apart HW3.out g4' hn2); have HO4 := Lib.hid own4; have b04 := b03.grown g4' b03.size (fun k e => (hu0 k e).1); clear own4 g4 g4'; obtain ⟨A4, c4, rfl⟩ := own_slice1 HO4.out)
        | (at_builtin; refine wpList_append_wide _ rfl (.tmp 31) (.tmp 32) 25 rfl w.heap.size 3 _ 1 8 Tryz.underlying25 iinfo rfl (by omega) _ _ _ rfl HO4.out _ _ L2.length c1 (dvals L2) rfl (by simp [dvals]) (own_liesW HS4.out (fun e => by simp [dvals, List.eq_nil_of_length_eq_zero e])) (by intro u hu; simp [dvals] at hu; obtain ⟨_, _, _, rfl⟩ := hu; rfl) (by omega) (by unfold maxLen; omega) b04.size ?_; intro v5 w5 own5 g5; have g5' : w4.grownBy w5 (Value.slice A4 (L1.length + 1) c4).ownBlock := g5; have HV5 := Lib.hid ((own_apart HV4.out g5' (own_types HV4.out HO4.out (by decide))).alloc (.cells #[hv x.t, .slice A' x.v.length c', .slice K' x.ks.length k'] 34)); have HW5 := Lib.hid ((own_apart HW4.out g5' (own_types HW4.out HO4.out (by decide))).alloc (.cells #[hv x.t, .slice A' x.v.length c', .slice K' x.ks.length k'] 34)); have HO5 := Lib.hid (own5.alloc (.cells #[hv x.t, .slice A' x.v.length c', .slice K' x.ks.length k'] 34)); have b05 := b04.grown g5' b04.size (fun k e => (HO4.out.lt k e).1); have q0 := (b05.cell (p := ad.add (k * 3)) (by rw [blk_add]; exact hS _ hb)).trans ((hbel.cell (p := ad.add (k * 3)) (by rw [blk_add]; exact hS _ hb)).symm.trans hc0); have q1 := (b05.cell (p := ⟨(ad.add (k * 3)).block, (ad.add (k * 3)).off + 1, none⟩) (by show (ad.add (k * 3)).block < _; rw [blk_add]; exact hS _ hb)).trans ((hbel.cell (p := ⟨(ad.add (k * 3)).block, (ad.add (k * 3)).off + 1, none⟩) (by show (ad.add (k * 3)).block < _; rw [blk_add]; exact hS _ hb)).symm.trans hc1); have q2 := (b05.cell (p := ⟨(ad.add (k * 3)).block, (ad.add (k * 3)).off + 2, none⟩) (by show (ad.add (k * 3)).block < _; rw [blk_add]; exact hS _ hb)).trans ((hbel.cell (p := ⟨(ad.add (k * 3)).block, (ad.add (k * 3)).off + 2, none⟩) (by show (ad.add (k * 3)).block < _; rw [blk_add]; exact hS _ hb)).symm.trans hc2); have hnew5 : Lies (w5.alloc (.cells #[hv x.t, .slice A' x.v.length c', .slice K' x.ks.length k'] 34)) (w5.heap.size + 1) (some ⟨w5.heap.size, 0, none⟩) [hv x.t, .slice A' x.v.length c', .slice K' x.ks.length k'] := Lies.newN w5 [hv x.t, .slice A' x.v.length c', .slice K' x.ks.length k'] 34; have b06 := b05.alloc b05.size (.cells #[hv x.t, .slice A' x.v.length c', .slice K' x.ks.length k'] 34); clear own5 g5 g5'; obtain ⟨A5, c5, rfl⟩ := own_slice1 HO5.out)
        | (at_builtin; refine wpList_append_wide _ rfl (.tmp 34) (.tmp 39) 22 rfl w.heap.size 34 _ 3 56 Tryz.underlying22 ndinfo rfl (by omega) _ _ _ rfl HV5.out _ _ 1 1 [hv x.t, .slice A' x.v.length c', .slice K' x.ks.length k'] rfl rfl hnew5 (by intro u hu; simp at hu; rcases hu with rfl | rfl | rfl <;> rfl) (by omega) (by unfold maxLen; omega) b06.size ?_; intro v6 w6 own6 g6; have g6' : (w5.alloc (.cells #[hv x.t, .slice A' x.v.length c', .slice K' x.ks.length k'] 34)).grownBy w6 (Value.slice Av L1.length cv).ownBlock := g6; have HW6 := Lib.hid (own_apart HW5.out g6' hvg); have HD6 := Lib.hid (own_apart HO5.out g6' (own_types HO5.out HV5.out (by decide))); have HO6 := Lib.hid own6; have b07 := b06.grown g6' b06.size (fun k e => (hv0 k e).1); clear own6 g6 g6'; obtain ⟨A6, c6, rfl⟩ := own_slice3 HO6.out)
        | (at_builtin; refine wpList_append_wide _ rfl (.tmp 40) (.tmp 41) 22 rfl w.heap.size 34 _ 3 56 Tryz.underlying22 ndinfo rfl (by omega) _ _ _ rfl HO6.out _ _ L2.length c2 us2 rfl hlu (own_liesW HW6.out (fun e => List.eq_nil_of_length_eq_zero (by rw [hlu, e]))) ho2 (by omega) (by unfold maxLen; omega) b07.size ?_; intro v8 w8 own8 g8; have g8' : w6.grownBy w8 (Value.slice A6 (L1.length + 1) c6).ownBlock := g8; have HD8 := Lib.hid (own_apart HD6.out g8' (own_types HD6.out HO6.out (by decide))); have b08 := b07.grown g8' b07.size (fun k e => (HO6.out.lt k e).1); have HO8 := Lib.hid own8; clear own8 g8 g8'))
      have t1 : ∀ p : Addr, S p.block → w8.cell? p = wr.cell? p := fun p hp => (b08.cell (hS _ hp)).trans (hbel.cell (hS _ hp)).symm
      have t2 : ∀ p : Addr, S p.block → w8.cell? p = w2.cell? p := fun p hp => (b08.cell (hS _ hp)).trans ((hbel.trans (b2.mono hw0)).cell (hS _ hp)).symm
      obtain ⟨Ka, ca, hEa⟩ := (hE1.turn t1 (fun _ h => h)).snoc (HN.out.turn t1 (fun _ h => h))
      obtain ⟨Kb, cb, hEb⟩ := hEa.append (hE2.turn t2 (fun _ h => h))
      have hlen3 : (L1 ++ (d, x) :: L2).length = L1.length + 1 + L2.length := by simp; omega
      have hR : Rows2 w8 w.heap.size S (.slice A5 (L1.length + 1 + L2.length) c5) v8 (flats (ns.take (k + 1)) d) := by
        rw [HT.out]
        refine ⟨by rw [hlen3, show dvals (L1 ++ (d, x) :: L2) = dvals L1 ++ [.int .i64 (d : Int)] ++ dvals L2 by simp [dvals]]; exact HD8.out, ⟨_, by rw [hlen3]; exact HO8.out, fun u hu => ?_, Kb, cb, by rw [show (L1 ++ (d, x) :: L2).map Prod.snd = L1.map Prod.snd ++ [x] ++ L2.map Prod.snd by simp]; exact hEb⟩⟩
        simp only [List.mem_append, List.mem_cons, List.not_mem_nil, or_false] at hu
        rcases hu with (hu | rfl | rfl | rfl) | hu
        · exact ho1 u hu
        · rfl
        · rfl
        · rfl
        · exact ho2 u hu
      exact ⟨⟨k + 1, by omega, rfl, hR, b08⟩, by simp [intOf]; omega⟩
    · obtain rfl : k = ns.length := by omega
      rw [List.take_length] at hrow
      obtain ⟨A1, c1, rfl⟩ := own_slice1 hrow.out.ds
      obtain ⟨us1, hv1, _⟩ := hrow.out.ns
      obtain ⟨A2, c2, rfl⟩ := own_slice3 hv1
      have HR := Lib.hid hrow.out
      clear hrow hv1
      go_wp2_with fail
      go_ret2
      exact ⟨A1, c1, A2, c2, rfl, HR.out, hbel⟩
/-- the order of whatever list -/
theorem list_any (ns : List Nd) : ListOK ns := Nds.ind (P := ListOK) list_step ns
end Go.Proofs.YtdnilbebdgohnaaGreatDoor

