/- NodeWA + NodeWB + NodeWC + NodeWD -/
import Derived.Test.YtemeeeiglifpaaaDoorNodeHJ
import Derived.Test.YtemeeeiglifpaaaDoorRange
import Derived.Test.YtemeeeiglifpaaaDoorNodeNO
import Derived.Test.YtemeeeiglifpaaaDoorNodePQ
import Derived.Test.YtemeeeiglifpaaaDoorNodeAD
import Derived.Test.YtemeeeiglifpaaaDoorWireA
import Derived.Test.YtemeeeiglifpaaaDoorErrA
import Derived.Test.YtemeeeiglifpaaaDoorTlvE
import Derived.Test.YtemeeeiglifpaaaDoorTlvF
import Derived.Test.YtemeeeiglifpaaaDoorEachLv





namespace Go.Proofs.YtemeeeiglifpaaaDoor
open Go.RowKit Go.Shelf

attribute [local go_sem] Oper.semAt_some

/-- one element that comes: a depth and a node that lies in memory -/
structure Yn where
  d : Nat
  n : Nd
  A : Option Addr
  c : Nat
  K : Option Addr
  k : Nat
def Yn.key (y : Yn) : Nat × Nd := (y.d, y.n)
def encN (y : Yn) : Array Value := #[.int .i64 (y.d : Int), ndV y.n y.A y.c y.K y.k]
mutual
def Nd.flat : Nd → Nat → List (Nat × Nd)
  | .mk t v ks, d => (d, .mk t v ks) :: flats ks (d + 1)
def flats : List Nd → Nat → List (Nat × Nd)
  | [], _ => []
  | n :: ns, d => n.flat d ++ flats ns d
end
theorem Nd.flat_eq (n : Nd) (d : Nat) : n.flat d = (d, n) :: flats n.ks (d + 1) := by cases n; rw [Nd.flat]; rfl
theorem flats_cons (n : Nd) (ns : List Nd) (d : Nat) : flats (n :: ns) d = (d, n) :: (flats n.ks (d + 1) ++ flats ns d) := by rw [flats, Nd.flat_eq]; rfl
theorem flats_append (xs ys : List Nd) (d : Nat) : flats (xs ++ ys) d = flats xs d ++ flats ys d := by
  induction xs with
  | nil => rw [List.nil_append, flats, List.nil_append]
  | cons x xs ih => rw [List.cons_append, flats, ih, flats, List.append_assoc]
theorem flats_at {ns : List Nd} {k : Nat} {n : Nd} (h : ns[k]? = some n) (d : Nat) : flats ns d = flats (ns.take k) d ++ (d, n) :: (flats n.ks (d + 1) ++ flats (ns.drop (k + 1)) d) := by
  have hk := (List.getElem?_eq_some_iff.1 h).1
  have h1 : ns = ns.take k ++ n :: ns.drop (k + 1) := by
    have h2 : ns[k] = n := (List.getElem?_eq_some_iff.1 h).2
    rw [← h2, ← List.drop_eq_getElem_cons hk, List.take_append_drop]
  conv => lhs; rw [h1]
  rw [flats_append, flats_cons]
theorem flats_take {ns : List Nd} {k : Nat} {n : Nd} (h : ns[k]? = some n) (d : Nat) : flats (ns.take (k + 1)) d = flats (ns.take k) d ++ (d, n) :: flats n.ks (d + 1) := by
  rw [take_some h, flats_append, flats_cons, flats, List.append_nil]

section
variable {G : World → Nat → Prop} {n₀ : Nat} {A B : World}
theorem KpG.cell (k : KpG G n₀ A B) {p : Addr} {u : Value} (hg : ¬ G A p.block) (h : A.cell? p = some u) : B.cell? p = some u := by
  have h' := h
  unfold World.cell? at h'
  cases ho : A.heap[p.block]? with
  | none => rw [ho] at h'; simp at h'
  | some o =>
    rw [ho] at h'
    cases o <;> first | (simp at h'; done) | exact (World.cell?_of_block ((k.same _ _ _ _ hg ho).trans ho.symm)).trans h
/-- blocks that the rounds may not write -/
def Held (G : World → Nat → Prop) (W : World) (S : Nat → Prop) : Prop := ∀ b, S b → b < W.heap.size ∧ ¬ G W b
theorem Held.kp {S : Nat → Prop} (h : Held G A S) (k : KpG G n₀ A B) : Held G B S := fun b hb => ⟨Nat.lt_of_lt_of_le (h b hb).1 k.low.size, fun hg => (h b hb).2 (k.own b (h b hb).1 hg)⟩
theorem NodesS.kp {S : Nat → Prop} {a : Option Addr} {ns : List Nd} (h : NodesS A S a ns) (hS : Held G A S) (k : KpG G n₀ A B) : NodesS B S a ns :=
  h.turn2 (fun p _ hp hu => k.cell (hS p.block hp).2 hu) (fun _ hb => hb)
def RowN (G : World → Nat → Prop) (W : World) (y : Yn) : Prop := ∃ S, Held G W S ∧ NodeS W S y.A y.c y.K y.k y.n ∧ Few2 y.n
/-- an element of a list that lies in certain blocks -/
theorem NodesS.at_ {w : World} {S : Nat → Prop} {a : Option Addr} {ns : List Nd} (h : NodesS w S a ns) {k : Nat} (hk : k < ns.length) :
    ∃ ad A' c' K' k' n, a = some ad ∧ S ad.block ∧ Hid (ns[k]? = some n) ∧ w.cell? (ad.add (k * 3)) = some (hv n.t) ∧ w.cell? ⟨(ad.add (k * 3)).block, (ad.add (k * 3)).off + 1, none⟩ = some (.slice A' n.v.length c') ∧
      w.cell? ⟨(ad.add (k * 3)).block, (ad.add (k * 3)).off + 2, none⟩ = some (.slice K' n.ks.length k') ∧ NodeS w S A' c' K' k' n := by
  cases h with
  | mk vs K c lies len each kids =>
    obtain ⟨h1, ⟨d, h2, A2, c2, rfl, h4, h5, h6⟩, h7, h8, h9⟩ := each k _ (List.getElem?_eq_getElem hk)
    obtain ⟨ad, ha, hb, hc⟩ := lies (fun e => by rw [e] at len; simp at len; omega)
    exact ⟨ad, A2, c2, K k, c k, ns[k], ha, hb, List.getElem?_eq_getElem hk, hc _ _ h1, by have h10 := hc _ _ h2; rw [← add_add'] at h10; exact h10,
      by have h10 := hc _ _ h7; rw [← add_add'] at h10; exact h10, ⟨h4, h5, h6, kids k _ (List.getElem?_eq_getElem hk), h8, h9⟩⟩
end
/-- the closure's two variables: the yield, and itself -/
structure VisitV (G : World → Nat → Prop) (l By Bv : Nat) (W : World) : Prop where
  y : Boxed W By 88 (.func (.yield l) #[] #[])
  ny : ¬ G W By
  v : Boxed W Bv 103 (.func (.func 66) #[] #[.pointer (some ⟨By, 0, none⟩), .pointer (some ⟨Bv, 0, none⟩)])
  nv : ¬ G W Bv
theorem VisitV.kp {G : World → Nat → Prop} {n₀ l By Bv : Nat} {A B : World} (h : VisitV G l By Bv A) (k : KpG G n₀ A B) : VisitV G l By Bv B :=
  ⟨k.same _ _ _ _ h.ny h.y, fun hg => h.ny (k.own _ (boxed_lt h.y) hg), k.same _ _ _ _ h.nv h.v, fun hg => h.nv (k.own _ (boxed_lt h.v) hg)⟩
/-- x is the next one of T -/
def Nxt (T : List (Nat × Nd)) (pre : List Yn) (x : Yn) : Prop := ∃ post, T = pre.map Yn.key ++ x.key :: post
def VisitOK (T : List (Nat × Nd)) (n l By Bv n₀ X N : Nat) (G : World → Nat → Prop) (J : List Yn → World → Prop) (Jx : List Yn × Yn → World → Prop) (ns : List Nd) : Prop :=
  ∀ (d : Nat) (A : Option Addr) (c : Nat) (S : Nat → Prop) (pre : List Yn) (W : World), J pre W → NodesS W S A ns → Held G W S → VisitV G l By Bv W → X ≤ W.heap.size → n₀ ≤ W.heap.size → ns.length ≤ c → c ≤ maxLen →
    (∀ x ∈ flats ns d, x.1 ≤ 1000000) → d ≤ 1000001 → (∀ x ∈ ns, Few2 x) → ns.length ≤ 100000000 → pre.length + (flats ns d).length ≤ N → (∃ post, T = pre.map Yn.key ++ (flats ns d ++ post)) →
    CallsIn Fence.wide n Tryd.prog 66 #[.slice A ns.length c, .int .i64 (d : Int), .pointer (some ⟨By, 0, none⟩), .pointer (some ⟨Bv, 0, none⟩)] W fun e W' =>
      (e = .returned (.bool true) ∧ ∃ ys, ys.map Yn.key = flats ns d ∧ J (pre ++ ys) W' ∧ KpG G n₀ W W') ∨
      (e = .returned (.bool false) ∧ ∃ ys y post, flats ns d = ys.map Yn.key ++ y.key :: post ∧ Jx (pre ++ ys, y) W')

set_option maxRecDepth 100000 in
set_option maxHeartbeats 4000000 in
theorem visit_step (T : List (Nat × Nd)) (n : Nat) (hn : 1 ≤ n) (l By Bv n₀ X N : Nat) (G : World → Nat → Prop) (hGo : GOwn X G) (J : List Yn → World → Prop) (Jx : List Yn × Yn → World → Prop) (hJg : ∀ s A B, J s A → A.grownBy B none → J s B) (hJG : ∀ s A, J s A → ∀ i, G A i → i < A.heap.size)
    (hY : ∀ pre x W1, J pre W1 → pre.length < N → RowN G W1 x → Nxt T pre x → YieldAt Fence.wide (n - 1) Tryd.prog l (encN x) W1 fun e W' => (e = .returned (.bool true) ∧ J (pre ++ [x]) W' ∧ KpG G n₀ W1 W') ∨ (e = .returned (.bool false) ∧ Jx (pre, x) W'))
    (ns : List Nd) (ih : ∀ x ∈ ns, VisitOK T n l By Bv n₀ X N G J Jx x.ks) : VisitOK T n l By Bv n₀ X N G J Jx ns := by
  intro d A c S pre W h0 hN hS hV hX hn₀ hc hm hd hd1 hf hl hNn hT
  have IH := Lib.hid ih
  have HD := Lib.hid hd
  have HF := Lib.hid hf
  have HT := Lib.hid hT
  clear ih hd hf hT
  refine callsIn_of_wp Tryd.func66 rfl trivial ?_ rfl
  simp only [Tryd.ntmps66, List.size_toArray, List.length_cons, List.length_nil, Nat.reduceAdd, Nat.reduceSub, Array.replicate_succ, Array.replicate_zero, List.push_toArray, List.append_toArray, List.nil_append, List.cons_append]
  gi_wp2
  gi_loopw [11] (fun at_ wr => ∃ (k : Nat) (ys : List Yn), k ≤ ns.length ∧ at_ = .int .i64 k ∧ J (pre ++ ys) wr ∧ KpG G n₀ W wr ∧ Hid (ys.map Yn.key = flats (ns.take k) d))
    (fun at_ _ => ns.length - (intOf at_).toNat)
  case atStart => exact ⟨0, [], Nat.zero_le _, rfl, by rw [List.append_nil]; exact h0, KpG.refl _ _ _, by simp [Hid, flats]⟩
  case round =>
    obtain ⟨k, ys, hk, rfl, hj, hkp, hrel⟩ := hrel
    have hgl := hJG _ _ hj
    have hXw : X ≤ wr.heap.size := Nat.le_trans hX hkp.low.size
    -- what grows keeps all
    have hgr : ∀ B, Below wr.heap.size wr B → KpG G n₀ wr B ∧ J (pre ++ ys) B := fun B hB =>
      ⟨⟨hB.mono (Nat.le_trans hn₀ hkp.low.size), fun i _ _ _ _ hi => (hB.block i (Array.getElem?_eq_some_iff.1 hi).1).trans hi, fun i _ hi => hGo _ _ none hXw (grown_of_below hB) (fun r e => by cases e) i hi⟩, hJg _ _ _ hj (grown_of_below hB)⟩
    by_cases hlt : k < ns.length
    · obtain ⟨ad, A', c', K', k', x, rfl, hb, hx, hc0, hc1, hc2, hN1⟩ := (hN.kp hS hkp).at_ hlt
      have hmem := List.mem_of_getElem? hx.out
      have hfl := flats_at hx.out d
      obtain ⟨k1, hj1⟩ := hgr _ ((Below.refl wr.heap.size wr).alloc (Nat.le_refl _) (.cells #[hv x.t, .slice A' x.v.length c', .slice K' x.ks.length k'] 27))
      have hkA := hkp.trans k1
      have hVA := hV.kp hkA
      have hSA := hS.kp hkA
      have hNA : NodeS (wr.alloc (.cells #[hv x.t, .slice A' x.v.length c', .slice K' x.ks.length k'] 27)) S A' c' K' k' x :=
        hN1.turn (fun p hp => World.cell?_alloc_lt wr _ p (by have := (hS.kp hkp p.block hp).1; exact this)) (fun _ h => h)
      have hbox := Whole.new wr 27 #[hv x.t, .slice A' x.v.length c', .slice K' x.ks.length k']
      have hgb : ¬ G (wr.alloc (.cells #[hv x.t, .slice A' x.v.length c', .slice K' x.ks.length k'] 27)) wr.heap.size := fun hg => by
        have h1 := hGo _ _ none hXw (grown_of_below ((Below.refl wr.heap.size wr).alloc (Nat.le_refl _) (.cells #[hv x.t, .slice A' x.v.length c', .slice K' x.ks.length k'] 27))) (fun r e => by cases e) _ hg
        exact Nat.lt_irrefl _ (hgl _ h1)
      have hsz1 : (wr.alloc (.cells #[hv x.t, .slice A' x.v.length c', .slice K' x.ks.length k'] 27)).heap.size = wr.heap.size + 1 := by simp
      have hlys : ys.length = (flats (ns.take k) d).length := by rw [← hrel.out, List.length_map]
      have hfln : (flats ns d).length = ys.length + ((flats x.ks (d + 1)).length + (flats (ns.drop (k + 1)) d).length + 1) := by rw [hfl, hlys]; simp
      obtain ⟨fn, tmps, assign, body, hy, hR⟩ := hY (pre ++ ys) ⟨d, x, A', c', K', k'⟩ _ hj1 (by rw [List.length_append]; omega) ⟨S, hSA, hNA, HF.out x hmem⟩
        (by obtain ⟨post, hp⟩ := HT.out; exact ⟨flats x.ks (d + 1) ++ (flats (ns.drop (k + 1)) d ++ post), by rw [hp, hfl, List.map_append, hrel.out]; simp [Yn.key]⟩)
      simp only [encN, ndV] at hy
      have y0 := hVA.y.cell
      have v0 := hVA.v.cell
      have HX := Lib.hid hfl
      have HN := Lib.hid hN1
      clear hfl hN1
      gi_wp2_with fail
      refine hR.mono ?_
      rintro e w3 (⟨rfl, hj3, hk3⟩ | ⟨rfl, hx3⟩)
      · have hW3 : Whole w3 wr.heap.size 27 #[hv x.t, .slice A' x.v.length c', .slice K' x.ks.length k'] := hk3.same _ _ _ _ hgb hbox
        have hV3 := hVA.kp hk3
        have hk03 := hkA.trans hk3
        have hN3 := ((HN.out.kids.kp (hS.kp hkp) k1).kp hSA hk3)
        have w2c : w3.cell? ⟨wr.heap.size, 2, none⟩ = some (.slice K' x.ks.length k') := by rw [hW3.cell]; rfl
        have v3 := hV3.v.cell
        have hsz3 := hk3.low.size
        have hd2 : d ≤ 1000000 := HD.out (d, x) (by rw [HX.out]; exact List.mem_append_right _ (List.mem_cons_self ..))
        have hln : (pre ++ ys ++ [(⟨d, x, A', c', K', k'⟩ : Yn)]).length + (flats x.ks (d + 1)).length ≤ N := by
          rw [List.length_append, List.length_append, List.length_singleton]; omega
        have HC := Lib.hid (callsIn_wide.1 (IH.out x hmem (d + 1) K' k' S (pre ++ ys ++ [⟨d, x, A', c', K', k'⟩]) w3 hj3 hN3 (hSA.kp hk3) hV3 (Nat.le_trans hX hk03.low.size) (Nat.le_trans hn₀ hk03.low.size) HN.out.kc HN.out.km
          (fun z hz => HD.out z (by rw [HX.out]; exact List.mem_append_right _ (List.mem_cons_of_mem _ (List.mem_append_left _ hz))))
          (by omega) (HF.out x hmem).kid (HF.out x hmem).kl.1 hln
          (by obtain ⟨post, hp⟩ := HT.out; exact ⟨flats (ns.drop (k + 1)) d ++ post, by rw [hp, HX.out, List.map_append, List.map_append, hrel.out]; simp [Yn.key]⟩)))
        clear hfln hlys
        gi_wp2_with fail
        refine ⟨trivial, (callsIn_wide.2 HC.out).mono ?_⟩
        rintro e w4 (⟨rfl, zs, hz, hj4, hk4⟩ | ⟨rfl, zs, z, post, hz, hx4⟩)
        · have hk04 := hk03.trans hk4
          have HE := Lib.hid (show (ys ++ (⟨d, x, A', c', K', k'⟩ : Yn) :: zs).map Yn.key = flats (ns.take (k + 1)) d by
            rw [flats_take hx.out, List.map_append, List.map_cons, hrel.out, hz]; rfl)
          have HJ4 : J (pre ++ (ys ++ (⟨d, x, A', c', K', k'⟩ : Yn) :: zs)) w4 := by simpa using hj4
          gi_wp2_with fail
          go_roundw
          case rel => exact ⟨k + 1, ys ++ (⟨d, x, A', c', K', k'⟩ : Yn) :: zs, by omega, rfl, HJ4, hk04, HE⟩
          case measure => simp [intOf]; omega
        · have HP := Lib.hid (show flats ns d = (ys ++ (⟨d, x, A', c', K', k'⟩ : Yn) :: zs).map Yn.key ++ z.key :: (post ++ flats (ns.drop (k + 1)) d) by
            rw [HX.out, hz, List.map_append, List.map_cons, hrel.out]; simp [Yn.key])
          have HJ4 : Jx (pre ++ (ys ++ (⟨d, x, A', c', K', k'⟩ : Yn) :: zs), z) w4 := by simpa using hx4
          gi_wp2_with fail
          go_ret
          exact .inr ⟨rfl, _, z, _, HP.out, HJ4⟩
      · have HP := Lib.hid (show flats ns d = ys.map Yn.key ++ (⟨d, x, A', c', K', k'⟩ : Yn).key :: (flats x.ks (d + 1) ++ flats (ns.drop (k + 1)) d) by rw [HX.out, hrel.out]; rfl)
        gi_wp2_with fail
        refine ⟨fun f e => (by cases e), ?_⟩
        gi_wp2_with fail
        go_ret
        exact .inr ⟨rfl, _, _, _, HP.out, hx3⟩
    · obtain rfl : k = ns.length := by omega
      have HE := Lib.hid (show ys.map Yn.key = flats ns d by rw [hrel.out, List.take_length])
      have ht : ¬ ((ns.length : Int) < (ns.length : Int)) := by omega
      clear hrel
      gi_wp2_with fail
      go_ret
      exact .inl ⟨rfl, ys, HE.out, hj, hkp⟩
/-- the closure at whatever list -/
theorem visit_any (T : List (Nat × Nd)) (n : Nat) (hn : 1 ≤ n) (l By Bv n₀ X N : Nat) (G : World → Nat → Prop) (hGo : GOwn X G) (J : List Yn → World → Prop) (Jx : List Yn × Yn → World → Prop) (hJg : ∀ s A B, J s A → A.grownBy B none → J s B) (hJG : ∀ s A, J s A → ∀ i, G A i → i < A.heap.size)
    (hY : ∀ pre x W1, J pre W1 → pre.length < N → RowN G W1 x → Nxt T pre x → YieldAt Fence.wide (n - 1) Tryd.prog l (encN x) W1 fun e W' => (e = .returned (.bool true) ∧ J (pre ++ [x]) W' ∧ KpG G n₀ W1 W') ∨ (e = .returned (.bool false) ∧ Jx (pre, x) W')) (ns : List Nd) :
    VisitOK T n l By Bv n₀ X N G J Jx ns :=
  Nds.ind (P := VisitOK T n l By Bv n₀ X N G J Jx) (fun ns ih => visit_step T n hn l By Bv n₀ X N G hGo J Jx hJg hJG hY ns ih) ns
end Go.Proofs.YtemeeeiglifpaaaDoor


namespace Go.Proofs.YtemeeeiglifpaaaDoor
open Go.RowKit Go.Shelf

attribute [local go_sem] Oper.semAt_some

theorem run_store_fn {P : Program} {w : World} {a : Addr} {m : Mode} (fn : Fn) (first captured : Array Value) : (store a (.func fn first captured) m).run P w = stored P w a (.func fn first captured) m := run_store P w a _ m rfl
attribute [local go_sem] run_store_fn
/-- what has come at the end; how far it had come when it was stopped -/
def FinW (ns : List Nd) (ys : List Yn) : Prop := ys.map Yn.key = flats ns 1
def FinWX (ns : List Nd) (p : List Yn × Yn) : Prop := ∃ post, flats ns 1 = p.1.map Yn.key ++ p.2.key :: post
set_option maxRecDepth 100000 in
set_option maxHeartbeats 2000000 in
theorem walk1_in (n : Nat) (hn : 1 ≤ n) (l Bl n₀ X N : Nat) (A : Option Addr) (c : Nat) (ns : List Nd) (S : Nat → Prop) (G : World → Nat → Prop) (hGo : GOwn X G)
    (J : List Yn → World → Prop) (Jx : List Yn × Yn → World → Prop) (hJg : ∀ s A B, J s A → A.grownBy B none → J s B) (hJG : ∀ s A, J s A → ∀ i, G A i → i < A.heap.size)
    (hY : ∀ pre x W1, J pre W1 → pre.length < N → RowN G W1 x → Nxt (flats ns 1) pre x → YieldAt Fence.wide (n - 1) Tryd.prog l (encN x) W1 fun e W' => (e = .returned (.bool true) ∧ J (pre ++ [x]) W' ∧ KpG G n₀ W1 W') ∨ (e = .returned (.bool false) ∧ Jx (pre, x) W'))
    (W : World) (hX : X ≤ W.heap.size) (hn₀ : n₀ ≤ W.heap.size) (hBl : Whole W Bl 25 #[.slice A ns.length c]) (hS : Held G W S) (hN : NodesS W S A ns) (hc : ns.length ≤ c) (hm : c ≤ maxLen)
    (hd : ∀ x ∈ flats ns 1, x.1 ≤ 1000000) (hf : ∀ x ∈ ns, Few2 x) (hl : ns.length ≤ 100000000) (hNn : (flats ns 1).length ≤ N) (h0 : J [] W) :
    CallsIn Fence.wide n Tryd.prog 65 #[.func (.yield l) #[] #[], .pointer (some ⟨Bl, 0, none⟩)] W fun e W' => (∃ v, e = .returned v) ∧ ((∃ xs, FinW ns xs ∧ J xs W') ∨ (∃ p, FinWX ns p ∧ Jx p W')) := by
  have HV := Lib.hid (visit_any (flats ns 1) n hn l W.heap.size (W.heap.size + 1) n₀ X N G hGo J Jx hJg hJG hY ns)
  have HD := Lib.hid hd
  have HF := Lib.hid hf
  clear hd hf hY
  have hgl := hJG _ _ h0
  refine callsIn_of_wp Tryd.func65 rfl trivial ?_ rfl
  simp only [Tryd.ntmps65, List.size_toArray, List.length_cons, List.length_nil, Nat.reduceAdd, Nat.reduceSub, Array.replicate_succ, Array.replicate_zero, List.push_toArray, List.append_toArray, List.nil_append, List.cons_append]
  have e1 := Boxed.new (W.alloc (.cells #[.func (.yield l) #[] #[]] 88)) 103 .nilFunc
  have e2 := Boxed.new (W.alloc (.cells #[.func (.yield l) #[] #[]] 88)) 103 (.func (.func 66) #[] #[.pointer (some ⟨W.heap.size, 0, none⟩), .pointer (some ⟨W.heap.size + 1, 0, none⟩)])
  simp only [World.size_alloc] at e1 e2
  have e3 := (Boxed.new W 88 (.func (.yield l) #[] #[])).alloc (.cells #[.func (.func 66) #[] #[.pointer (some ⟨W.heap.size, 0, none⟩), .pointer (some ⟨W.heap.size + 1, 0, none⟩)]] 103)
  have v0 := e1.frozen
  have v1 := e1.cell
  have v2 := e2.cell
  have hB2 : Below W.heap.size W ((W.alloc (.cells #[.func (.yield l) #[] #[]] 88)).alloc (.cells #[.func (.func 66) #[] #[.pointer (some ⟨W.heap.size, 0, none⟩), .pointer (some ⟨W.heap.size + 1, 0, none⟩)]] 103)) := ((Below.refl _ W).alloc (Nat.le_refl _) _).alloc (by simp) _
  have hW2 := hBl.below hB2 hBl.lt
  have b0 : ((W.alloc (.cells #[.func (.yield l) #[] #[]] 88)).alloc (.cells #[.func (.func 66) #[] #[.pointer (some ⟨W.heap.size, 0, none⟩), .pointer (some ⟨W.heap.size + 1, 0, none⟩)]] 103)).cell? ⟨Bl, 0, none⟩ = some (.slice A ns.length c) := by rw [hW2.cell]; rfl
  have hk2 : KpG G n₀ W ((W.alloc (.cells #[.func (.yield l) #[] #[]] 88)).alloc (.cells #[.func (.func 66) #[] #[.pointer (some ⟨W.heap.size, 0, none⟩), .pointer (some ⟨W.heap.size + 1, 0, none⟩)]] 103)) := ⟨hB2.mono hn₀, fun i _ _ _ _ hi => (hB2.block i (Array.getElem?_eq_some_iff.1 hi).1).trans hi, fun i _ hi => hGo _ _ none hX (grown_of_below hB2) (fun r e => by cases e) i hi⟩
  have hg2 : ∀ i, G ((W.alloc (.cells #[.func (.yield l) #[] #[]] 88)).alloc (.cells #[.func (.func 66) #[] #[.pointer (some ⟨W.heap.size, 0, none⟩), .pointer (some ⟨W.heap.size + 1, 0, none⟩)]] 103)) i → i < W.heap.size := fun i hi => hgl i (hGo _ _ none hX (grown_of_below hB2) (fun r e => by cases e) i hi)
  have hj2 := hJg _ _ _ h0 (grown_of_below hB2)
  have HC := Lib.hid (callsIn_wide.1 (HV.out 1 A c S [] ((W.alloc (.cells #[.func (.yield l) #[] #[]] 88)).alloc (.cells #[.func (.func 66) #[] #[.pointer (some ⟨W.heap.size, 0, none⟩), .pointer (some ⟨W.heap.size + 1, 0, none⟩)]] 103)) hj2 (hN.kp hS hk2) (hS.kp hk2) ⟨e3, fun h => Nat.lt_irrefl _ (hg2 _ h), e2, fun h => by have := hg2 _ h; omega⟩ (Nat.le_trans hX hB2.size) (Nat.le_trans hn₀ hB2.size) hc hm HD.out (by omega) HF.out hl (by simpa using hNn) ⟨[], by simp⟩))
  gi_wp2_with fail
  refine ⟨trivial, (callsIn_wide.2 HC.out).mono ?_⟩
  rintro e w3 (⟨rfl, zs, hz, hj3, _⟩ | ⟨rfl, zs, z, post, hz, hx3⟩)
  · gi_wp2_with fail
    go_end0
    exact ⟨⟨_, rfl⟩, .inl ⟨zs, hz, by simpa using hj3⟩⟩
  · gi_wp2_with fail
    go_end0
    exact ⟨⟨_, rfl⟩, .inr ⟨(zs, z), ⟨post, hz⟩, by simpa using hx3⟩⟩
end Go.Proofs.YtemeeeiglifpaaaDoor




namespace Go.Proofs.YtemeeeiglifpaaaDoor
open Go.RowKit Go.Shelf

attribute [local go_sem] Oper.semAt_some
set_option linter.unusedSimpArgs false

def ops4W : Array Oper :=
  #[{ dst := some 9, op := Op.load 88 (Operand.tmp 2), type := 88, pos := "node.go:76", after := #[], guard := none },
    { dst := some 10, op := Op.move (Operand.tmp 3), type := 3, pos := "node.go:76", after := #[], guard := none },
    { dst := some 11, op := Op.load 27 (Operand.tmp 4), type := 27, pos := "node.go:76", after := #[], guard := none },
    { dst := some 12, op := Op.call { callee := Callee.value (Operand.func 54), args := #[Operand.tmp 11], argTypes := #[27] }, type := 27, pos := "node.go:76", after := #[{ on := 2, ground := Ground.data }], guard := none },
    { dst := some 13, op := Op.call { callee := Callee.value (Operand.tmp 9), args := #[Operand.tmp 10, Operand.tmp 12], argTypes := #[3, 27] }, type := 4, pos := "node.go:76", after := #[{ on := 0, ground := Ground.data }, { on := 1, ground := Ground.data }, { on := 3, ground := Ground.data }, { on := 3, ground := Ground.chain }], guard := none },
    { dst := some 14, op := Op.unOp UnOp.not 4 (Operand.tmp 13), type := 4, pos := "node.go:76", after := #[{ on := 4, ground := Ground.data }], guard := none }]
set_option maxRecDepth 100000 in
set_option maxHeartbeats 4000000 in
theorem region4W {l l' m : Nat} {Q : Exit → Act → World → Prop} (t0 t1 t5 t6 t7 t8 t9 t10 t11 t12 t13 t14 : Value) (By gb : Nat) (y : Yn) (w : World)
    (hl : Boxed w By 88 (.func (.yield l) #[] #[])) (hn : Whole w gb 27 #[hv y.n.t, .slice y.A y.n.v.length y.c, .slice y.K y.n.ks.length y.k])
    (hC : Calls Tryd.prog 54 #[ndV y.n y.A y.c y.K y.k] w.drew fun e w' => ∃ A' c' K' k', e = .returned (ndV y.n A' c' K' k') ∧ NodeS w' (NewS w w') A' c' K' k' y.n ∧ Below w.heap.size w.drew w')
    (h0123 : ∀ (A2 : Option Addr) (c2 : Nat) (K2 : Option Addr) (k2 : Nat) (w2 : World), NodeS w2 (NewS w w2) A2 c2 K2 k2 y.n → Below w.heap.size w.drew w2 → wpAnyIn (Fence.wide.inRound l') m Tryd.prog .any ops4W Q 2 #[true, true, true, true, false, false] { tmps := #[t0, t1, .pointer (some ⟨By, 0, none⟩), .int .i64 (y.d : Int), .pointer (some ⟨gb, 0, none⟩), t5, t6, t7, t8, .func (.yield l) #[] #[], .int .i64 (y.d : Int), ndV y.n y.A y.c y.K y.k, ndV y.n A2 c2 K2 k2, t13, t14], defers := [] } w2) :
    (Code.region 4 ops4W true).wpIn (Fence.wide.inRound l') m Tryd.prog Q { tmps := #[t0, t1, .pointer (some ⟨By, 0, none⟩), .int .i64 (y.d : Int), .pointer (some ⟨gb, 0, none⟩), t5, t6, t7, t8, t9, t10, t11, t12, t13, t14], defers := [] } w := by
  have e0 : w.drew.cell? ⟨By, 0, none⟩ = some (.func (.yield l) #[] #[]) := hl.cell
  have n0 : w.drew.cell? ⟨gb, 0, none⟩ = some (hv y.n.t) := by rw [hn.drew.cell]; rfl
  have n1 : w.drew.cell? ⟨gb, 1, none⟩ = some (.slice y.A y.n.v.length y.c) := by rw [hn.drew.cell]; rfl
  have n2 : w.drew.cell? ⟨gb, 2, none⟩ = some (.slice y.K y.n.ks.length y.k) := by rw [hn.drew.cell]; rfl
  have hBlt := boxed_lt hl
  have h023 : ∀ (A2 : Option Addr) (c2 : Nat) (K2 : Option Addr) (k2 : Nat) (w2 : World), NodeS w2 (NewS w w2) A2 c2 K2 k2 y.n → Below w.heap.size w.drew w2 → wpAnyIn (Fence.wide.inRound l') m Tryd.prog .any ops4W Q 3 #[true, false, true, true, false, false] { tmps := #[t0, t1, .pointer (some ⟨By, 0, none⟩), .int .i64 (y.d : Int), .pointer (some ⟨gb, 0, none⟩), t5, t6, t7, t8, .func (.yield l) #[] #[], t10, ndV y.n y.A y.c y.K y.k, ndV y.n A2 c2 K2 k2, t13, t14], defers := [] } w2 := by
    intro A2 c2 K2 k2 w2 hN2 b2
    have e2 : w2.cell? ⟨By, 0, none⟩ = some (.func (.yield l) #[] #[]) := (b2.cell hBlt).trans e0
    refine any_node (fuel := 2) [1] (by kernel_rfl) (by simp) ?_
    intro i hi
    simp only [List.mem_cons, List.not_mem_nil, or_false] at hi
    subst hi
    · refine op_of_list ({ dst := some 10, op := Op.move (Operand.tmp 3), type := 3, pos := "node.go:76", after := #[], guard := none } : Oper) rfl rfl ?_
      gi_wp2_with fail
      (try simp only [List.setIfInBounds_toArray, List.set_cons_succ, List.set_cons_zero])
      exact h0123 A2 c2 K2 k2 w2 hN2 b2
  have h123 : ∀ (A2 : Option Addr) (c2 : Nat) (K2 : Option Addr) (k2 : Nat) (w2 : World), NodeS w2 (NewS w w2) A2 c2 K2 k2 y.n → Below w.heap.size w.drew w2 → wpAnyIn (Fence.wide.inRound l') m Tryd.prog .any ops4W Q 3 #[false, true, true, true, false, false] { tmps := #[t0, t1, .pointer (some ⟨By, 0, none⟩), .int .i64 (y.d : Int), .pointer (some ⟨gb, 0, none⟩), t5, t6, t7, t8, t9, .int .i64 (y.d : Int), ndV y.n y.A y.c y.K y.k, ndV y.n A2 c2 K2 k2, t13, t14], defers := [] } w2 := by
    intro A2 c2 K2 k2 w2 hN2 b2
    have e2 : w2.cell? ⟨By, 0, none⟩ = some (.func (.yield l) #[] #[]) := (b2.cell hBlt).trans e0
    refine any_node (fuel := 2) [0] (by kernel_rfl) (by simp) ?_
    intro i hi
    simp only [List.mem_cons, List.not_mem_nil, or_false] at hi
    subst hi
    · refine op_of_list ({ dst := some 9, op := Op.load 88 (Operand.tmp 2), type := 88, pos := "node.go:76", after := #[], guard := none } : Oper) rfl rfl ?_
      gi_wp2_with fail
      (try simp only [List.setIfInBounds_toArray, List.set_cons_succ, List.set_cons_zero])
      exact h0123 A2 c2 K2 k2 w2 hN2 b2
  have h23 : ∀ (A2 : Option Addr) (c2 : Nat) (K2 : Option Addr) (k2 : Nat) (w2 : World), NodeS w2 (NewS w w2) A2 c2 K2 k2 y.n → Below w.heap.size w.drew w2 → wpAnyIn (Fence.wide.inRound l') m Tryd.prog .any ops4W Q 4 #[false, false, true, true, false, false] { tmps := #[t0, t1, .pointer (some ⟨By, 0, none⟩), .int .i64 (y.d : Int), .pointer (some ⟨gb, 0, none⟩), t5, t6, t7, t8, t9, t10, ndV y.n y.A y.c y.K y.k, ndV y.n A2 c2 K2 k2, t13, t14], defers := [] } w2 := by
    intro A2 c2 K2 k2 w2 hN2 b2
    have e2 : w2.cell? ⟨By, 0, none⟩ = some (.func (.yield l) #[] #[]) := (b2.cell hBlt).trans e0
    refine any_node (fuel := 3) [0, 1] (by kernel_rfl) (by simp) ?_
    intro i hi
    simp only [List.mem_cons, List.not_mem_nil, or_false] at hi
    rcases hi with rfl | rfl
    · refine op_of_list ({ dst := some 9, op := Op.load 88 (Operand.tmp 2), type := 88, pos := "node.go:76", after := #[], guard := none } : Oper) rfl rfl ?_
      gi_wp2_with fail
      (try simp only [List.setIfInBounds_toArray, List.set_cons_succ, List.set_cons_zero])
      exact h023 A2 c2 K2 k2 w2 hN2 b2
    · refine op_of_list ({ dst := some 10, op := Op.move (Operand.tmp 3), type := 3, pos := "node.go:76", after := #[], guard := none } : Oper) rfl rfl ?_
      gi_wp2_with fail
      (try simp only [List.setIfInBounds_toArray, List.set_cons_succ, List.set_cons_zero])
      exact h123 A2 c2 K2 k2 w2 hN2 b2
  have h012 : wpAnyIn (Fence.wide.inRound l') m Tryd.prog .any ops4W Q 3 #[true, true, true, false, false, false] { tmps := #[t0, t1, .pointer (some ⟨By, 0, none⟩), .int .i64 (y.d : Int), .pointer (some ⟨gb, 0, none⟩), t5, t6, t7, t8, .func (.yield l) #[] #[], .int .i64 (y.d : Int), ndV y.n y.A y.c y.K y.k, t12, t13, t14], defers := [] } w.drew := by
    refine any_node (fuel := 2) [3] (by kernel_rfl) (by simp) ?_
    intro i hi
    simp only [List.mem_cons, List.not_mem_nil, or_false] at hi
    subst hi
    · refine op_of_list ({ dst := some 12, op := Op.call { callee := Callee.value (Operand.func 54), args := #[Operand.tmp 11], argTypes := #[27] }, type := 27, pos := "node.go:76", after := #[{ on := 2, ground := Ground.data }], guard := none } : Oper) rfl rfl ?_
      gi_wp2_with fail
      refine ⟨trivial, (fun h => by cases h), (callsIn_round hC).mono ?_⟩
      rintro e w2 ⟨A2, c2, K2, k2, rfl, hN2, b2⟩
      gi_wp2_with fail
      (try simp only [List.setIfInBounds_toArray, List.set_cons_succ, List.set_cons_zero])
      exact h0123 A2 c2 K2 k2 w2 hN2 b2
  have h02 : wpAnyIn (Fence.wide.inRound l') m Tryd.prog .any ops4W Q 4 #[true, false, true, false, false, false] { tmps := #[t0, t1, .pointer (some ⟨By, 0, none⟩), .int .i64 (y.d : Int), .pointer (some ⟨gb, 0, none⟩), t5, t6, t7, t8, .func (.yield l) #[] #[], t10, ndV y.n y.A y.c y.K y.k, t12, t13, t14], defers := [] } w.drew := by
    refine any_node (fuel := 3) [1, 3] (by kernel_rfl) (by simp) ?_
    intro i hi
    simp only [List.mem_cons, List.not_mem_nil, or_false] at hi
    rcases hi with rfl | rfl
    · refine op_of_list ({ dst := some 10, op := Op.move (Operand.tmp 3), type := 3, pos := "node.go:76", after := #[], guard := none } : Oper) rfl rfl ?_
      gi_wp2_with fail
      (try simp only [List.setIfInBounds_toArray, List.set_cons_succ, List.set_cons_zero])
      exact h012
    · refine op_of_list ({ dst := some 12, op := Op.call { callee := Callee.value (Operand.func 54), args := #[Operand.tmp 11], argTypes := #[27] }, type := 27, pos := "node.go:76", after := #[{ on := 2, ground := Ground.data }], guard := none } : Oper) rfl rfl ?_
      gi_wp2_with fail
      refine ⟨trivial, (fun h => by cases h), (callsIn_round hC).mono ?_⟩
      rintro e w2 ⟨A2, c2, K2, k2, rfl, hN2, b2⟩
      gi_wp2_with fail
      (try simp only [List.setIfInBounds_toArray, List.set_cons_succ, List.set_cons_zero])
      exact h023 A2 c2 K2 k2 w2 hN2 b2
  have h12 : wpAnyIn (Fence.wide.inRound l') m Tryd.prog .any ops4W Q 4 #[false, true, true, false, false, false] { tmps := #[t0, t1, .pointer (some ⟨By, 0, none⟩), .int .i64 (y.d : Int), .pointer (some ⟨gb, 0, none⟩), t5, t6, t7, t8, t9, .int .i64 (y.d : Int), ndV y.n y.A y.c y.K y.k, t12, t13, t14], defers := [] } w.drew := by
    refine any_node (fuel := 3) [0, 3] (by kernel_rfl) (by simp) ?_
    intro i hi
    simp only [List.mem_cons, List.not_mem_nil, or_false] at hi
    rcases hi with rfl | rfl
    · refine op_of_list ({ dst := some 9, op := Op.load 88 (Operand.tmp 2), type := 88, pos := "node.go:76", after := #[], guard := none } : Oper) rfl rfl ?_
      gi_wp2_with fail
      (try simp only [List.setIfInBounds_toArray, List.set_cons_succ, List.set_cons_zero])
      exact h012
    · refine op_of_list ({ dst := some 12, op := Op.call { callee := Callee.value (Operand.func 54), args := #[Operand.tmp 11], argTypes := #[27] }, type := 27, pos := "node.go:76", after := #[{ on := 2, ground := Ground.data }], guard := none } : Oper) rfl rfl ?_
      gi_wp2_with fail
      refine ⟨trivial, (fun h => by cases h), (callsIn_round hC).mono ?_⟩
      rintro e w2 ⟨A2, c2, K2, k2, rfl, hN2, b2⟩
      gi_wp2_with fail
      (try simp only [List.setIfInBounds_toArray, List.set_cons_succ, List.set_cons_zero])
      exact h123 A2 c2 K2 k2 w2 hN2 b2
  have h2 : wpAnyIn (Fence.wide.inRound l') m Tryd.prog .any ops4W Q 5 #[false, false, true, false, false, false] { tmps := #[t0, t1, .pointer (some ⟨By, 0, none⟩), .int .i64 (y.d : Int), .pointer (some ⟨gb, 0, none⟩), t5, t6, t7, t8, t9, t10, ndV y.n y.A y.c y.K y.k, t12, t13, t14], defers := [] } w.drew := by
    refine any_node (fuel := 4) [0, 1, 3] (by kernel_rfl) (by simp) ?_
    intro i hi
    simp only [List.mem_cons, List.not_mem_nil, or_false] at hi
    rcases hi with rfl | rfl | rfl
    · refine op_of_list ({ dst := some 9, op := Op.load 88 (Operand.tmp 2), type := 88, pos := "node.go:76", after := #[], guard := none } : Oper) rfl rfl ?_
      gi_wp2_with fail
      (try simp only [List.setIfInBounds_toArray, List.set_cons_succ, List.set_cons_zero])
      exact h02
    · refine op_of_list ({ dst := some 10, op := Op.move (Operand.tmp 3), type := 3, pos := "node.go:76", after := #[], guard := none } : Oper) rfl rfl ?_
      gi_wp2_with fail
      (try simp only [List.setIfInBounds_toArray, List.set_cons_succ, List.set_cons_zero])
      exact h12
    · refine op_of_list ({ dst := some 12, op := Op.call { callee := Callee.value (Operand.func 54), args := #[Operand.tmp 11], argTypes := #[27] }, type := 27, pos := "node.go:76", after := #[{ on := 2, ground := Ground.data }], guard := none } : Oper) rfl rfl ?_
      gi_wp2_with fail
      refine ⟨trivial, (fun h => by cases h), (callsIn_round hC).mono ?_⟩
      rintro e w2 ⟨A2, c2, K2, k2, rfl, hN2, b2⟩
      gi_wp2_with fail
      (try simp only [List.setIfInBounds_toArray, List.set_cons_succ, List.set_cons_zero])
      exact h23 A2 c2 K2 k2 w2 hN2 b2
  have h01 : wpAnyIn (Fence.wide.inRound l') m Tryd.prog .any ops4W Q 4 #[true, true, false, false, false, false] { tmps := #[t0, t1, .pointer (some ⟨By, 0, none⟩), .int .i64 (y.d : Int), .pointer (some ⟨gb, 0, none⟩), t5, t6, t7, t8, .func (.yield l) #[] #[], .int .i64 (y.d : Int), t11, t12, t13, t14], defers := [] } w.drew := by
    refine any_node (fuel := 3) [2] (by kernel_rfl) (by simp) ?_
    intro i hi
    simp only [List.mem_cons, List.not_mem_nil, or_false] at hi
    subst hi
    · refine op_of_list ({ dst := some 11, op := Op.load 27 (Operand.tmp 4), type := 27, pos := "node.go:76", after := #[], guard := none } : Oper) rfl rfl ?_
      gi_wp2_with fail
      (try simp only [List.setIfInBounds_toArray, List.set_cons_succ, List.set_cons_zero])
      exact h012
  have h0 : wpAnyIn (Fence.wide.inRound l') m Tryd.prog .any ops4W Q 5 #[true, false, false, false, false, false] { tmps := #[t0, t1, .pointer (some ⟨By, 0, none⟩), .int .i64 (y.d : Int), .pointer (some ⟨gb, 0, none⟩), t5, t6, t7, t8, .func (.yield l) #[] #[], t10, t11, t12, t13, t14], defers := [] } w.drew := by
    refine any_node (fuel := 4) [1, 2] (by kernel_rfl) (by simp) ?_
    intro i hi
    simp only [List.mem_cons, List.not_mem_nil, or_false] at hi
    rcases hi with rfl | rfl
    · refine op_of_list ({ dst := some 10, op := Op.move (Operand.tmp 3), type := 3, pos := "node.go:76", after := #[], guard := none } : Oper) rfl rfl ?_
      gi_wp2_with fail
      (try simp only [List.setIfInBounds_toArray, List.set_cons_succ, List.set_cons_zero])
      exact h01
    · refine op_of_list ({ dst := some 11, op := Op.load 27 (Operand.tmp 4), type := 27, pos := "node.go:76", after := #[], guard := none } : Oper) rfl rfl ?_
      gi_wp2_with fail
      (try simp only [List.setIfInBounds_toArray, List.set_cons_succ, List.set_cons_zero])
      exact h02
  have h1 : wpAnyIn (Fence.wide.inRound l') m Tryd.prog .any ops4W Q 5 #[false, true, false, false, false, false] { tmps := #[t0, t1, .pointer (some ⟨By, 0, none⟩), .int .i64 (y.d : Int), .pointer (some ⟨gb, 0, none⟩), t5, t6, t7, t8, t9, .int .i64 (y.d : Int), t11, t12, t13, t14], defers := [] } w.drew := by
    refine any_node (fuel := 4) [0, 2] (by kernel_rfl) (by simp) ?_
    intro i hi
    simp only [List.mem_cons, List.not_mem_nil, or_false] at hi
    rcases hi with rfl | rfl
    · refine op_of_list ({ dst := some 9, op := Op.load 88 (Operand.tmp 2), type := 88, pos := "node.go:76", after := #[], guard := none } : Oper) rfl rfl ?_
      gi_wp2_with fail
      (try simp only [List.setIfInBounds_toArray, List.set_cons_succ, List.set_cons_zero])
      exact h01
    · refine op_of_list ({ dst := some 11, op := Op.load 27 (Operand.tmp 4), type := 27, pos := "node.go:76", after := #[], guard := none } : Oper) rfl rfl ?_
      gi_wp2_with fail
      (try simp only [List.setIfInBounds_toArray, List.set_cons_succ, List.set_cons_zero])
      exact h12
  refine wpIn_region_any (by kernel_rfl) ?_
  change wpAnyIn (Fence.wide.inRound l') m Tryd.prog .any ops4W Q 6 #[false, false, false, false, false, false] { tmps := #[t0, t1, .pointer (some ⟨By, 0, none⟩), .int .i64 (y.d : Int), .pointer (some ⟨gb, 0, none⟩), t5, t6, t7, t8, t9, t10, t11, t12, t13, t14], defers := [] } w.drew
  refine any_node (fuel := 5) [0, 1, 2] (by kernel_rfl) (by simp) ?_
  intro i hi
  simp only [List.mem_cons, List.not_mem_nil, or_false] at hi
  rcases hi with rfl | rfl | rfl
  · refine op_of_list ({ dst := some 9, op := Op.load 88 (Operand.tmp 2), type := 88, pos := "node.go:76", after := #[], guard := none } : Oper) rfl rfl ?_
    gi_wp2_with fail
    (try simp only [List.setIfInBounds_toArray, List.set_cons_succ, List.set_cons_zero])
    exact h0
  · refine op_of_list ({ dst := some 10, op := Op.move (Operand.tmp 3), type := 3, pos := "node.go:76", after := #[], guard := none } : Oper) rfl rfl ?_
    gi_wp2_with fail
    (try simp only [List.setIfInBounds_toArray, List.set_cons_succ, List.set_cons_zero])
    exact h1
  · refine op_of_list ({ dst := some 11, op := Op.load 27 (Operand.tmp 4), type := 27, pos := "node.go:76", after := #[], guard := none } : Oper) rfl rfl ?_
    gi_wp2_with fail
    (try simp only [List.setIfInBounds_toArray, List.set_cons_succ, List.set_cons_zero])
    exact h2
end Go.Proofs.YtemeeeiglifpaaaDoor



namespace Go.Proofs.YtemeeeiglifpaaaDoor
open Go.RowKit Go.Shelf

attribute [local go_sem] Oper.semAt_some
set_option linter.unusedSimpArgs false

theorem walk_in (n : Nat) (A : Option Addr) (m c : Nat) (w : World) :
    CallsIn Fence.wide n Tryd.prog 53 #[.slice A m c] w fun e w' => e = .returned (.func (.func 65) #[] #[.pointer (some ⟨w.heap.size, 0, none⟩)]) ∧
      w' = w.alloc (.cells #[.slice A m c] 25) := by
  refine callsIn_of_wp Tryd.func53 rfl trivial ?_ rfl
  simp only [Tryd.ntmps53, List.size_toArray, List.length_cons, List.length_nil, Nat.reduceAdd, Nat.reduceSub, Array.replicate_succ, Array.replicate_zero, List.push_toArray, List.append_toArray, List.nil_append, List.cons_append]
  gi_wp2
  go_ret
  exact ⟨rfl, rfl⟩

section
variable {G : World → Nat → Prop} {X : Nat} {A B : World}
theorem rowN_own (hGo : GOwn X G) {row : Option Nat} {x : Yn} (h0 : X ≤ A.heap.size) (hg : A.grownBy B row) (hr : ∀ r, row = some r → X ≤ r ∧ ∃ o : Obj, A.heap[r]? = some o ∧ o.isCells = false) (h : RowN G A x) : RowN G B x := by
  obtain ⟨S, h1, h2, h3⟩ := h
  have hcell : ∀ (p : Addr) (u : Value), S p.block → A.cell? p = some u → B.cell? p = some u := fun p u h4 h5 => (World.cell?_of_block (hg.block p.block (h1 _ h4).1 fun e => by
    obtain ⟨_, o, ho, hoc⟩ := hr p.block e.symm
    unfold World.cell? at h5
    rw [ho] at h5
    cases o <;> first | (simp [Obj.isCells] at hoc; done) | (simp at h5; done))).trans h5
  exact ⟨S, fun b hb => ⟨Nat.lt_of_lt_of_le (h1 b hb).1 hg.size, fun hgb => (h1 b hb).2 (hGo _ _ _ h0 hg (fun r e => (hr r e).1) _ hgb)⟩, ⟨h2.data.turn2 hcell (fun _ h => h), h2.dc, h2.dm, h2.kids.turn2 hcell (fun _ h => h), h2.kc, h2.km⟩, h3⟩
/-- what Walk's loop holds: the caller's, for clones of what has come; and the variable with the yield -/
structure WkI (G : World → Nat → Prop) (J : List Yn → World → Prop) (l By X : Nat) (ys : List Yn) (W : World) : Prop where
  j : ∃ zs, zs.map Yn.key = ys.map Yn.key ∧ J zs W
  y : Boxed W By 88 (.func (.yield l) #[] #[])
  ny : ¬ G W By
  sz : X ≤ W.heap.size
def WkX (Jx : List Yn × Yn → World → Prop) (p : List Yn × Yn) (W : World) : Prop := ∃ q : List Yn × Yn, q.1.map Yn.key = p.1.map Yn.key ∧ q.2.key = p.2.key ∧ Jx q W
theorem wkI_own {J : List Yn → World → Prop} {l By : Nat} (hGo : GOwn X G) (hJo : OwnFrom X J) : OwnFrom X (WkI G J l By X) := by
  rintro ys A B row ⟨⟨zs, h1, h1'⟩, h2, h3, h0⟩ hg hr
  have hne : ∀ (i : Nat) (cs : Array Value) (t : TypeId) (z : Nat × Nat), A.heap[i]? = some (.cells cs t z) → some i ≠ row := by
    intro i cs t z hi e
    obtain ⟨_, o, ho, hoc⟩ := hr i e.symm
    rw [hi] at ho
    cases ho
    cases hoc
  exact ⟨⟨zs, h1, hJo _ _ _ _ h1' hg hr⟩, h2.kept hg (hne _ _ _ _ h2), fun h => h3 (hGo _ _ _ h0 hg (fun r e => (hr r e).1) _ h), Nat.le_trans h0 hg.size⟩
theorem wkX_own {Jx : List Yn × Yn → World → Prop} (hJo : OwnFrom X Jx) : OwnFrom X (WkX Jx) := by
  rintro p A B row ⟨q, h1, h2, h3⟩ hg hr
  exact ⟨q, h1, h2, hJo _ _ _ _ h3 hg hr⟩
end

set_option maxRecDepth 100000 in
set_option maxHeartbeats 4000000 in
theorem walkit_in (l Bl n₀ N : Nat) (A : Option Addr) (c : Nat) (ns : List Nd) (S : Nat → Prop) (G : World → Nat → Prop) (W : World) (hGo : GOwn W.heap.size G)
    (J : List Yn → World → Prop) (Jx : List Yn × Yn → World → Prop) (hJo : OwnFrom W.heap.size J) (hJxo : OwnFrom W.heap.size Jx) (hJG : ∀ s A, J s A → ∀ i, G A i → i < A.heap.size)
    (hY : ∀ pre x W1, J pre W1 → pre.length < N → RowN G W1 x → Nxt (flats ns 1) pre x → YieldAt Fence.wide 4 Tryd.prog l (encN x) W1 fun e W' => ((e = .returned (.bool true) ∧ J (pre ++ [x]) W' ∧ KpG G n₀ W1 W') ∨ (e = .returned (.bool false) ∧ Jx (pre, x) W')) ∧ KeepsFrom W.heap.size W1 W')
    (hBl : Whole W Bl 25 #[.slice A ns.length c]) (hS : Held G W S) (hN : NodesS W S A ns) (hc : ns.length ≤ c) (hm : c ≤ maxLen)
    (hd : ∀ x ∈ flats ns 1, x.1 ≤ 1000000) (hf : ∀ x ∈ ns, Few2 x) (hl : ns.length ≤ 100000000) (hNn : (flats ns 1).length ≤ N) (hn₀ : n₀ ≤ W.heap.size) (h0 : J [] W) :
    CallsIn Fence.wide 5 Tryd.prog 52 #[.func (.yield l) #[] #[], .pointer (some ⟨Bl, 0, none⟩)] W fun e W' => (∃ v, e = .returned v) ∧ ((∃ xs, FinW ns xs ∧ J xs W') ∨ (∃ p, FinWX ns p ∧ Jx p W')) := by
  refine callsIn_of_wp_marks Tryd.func52 rfl trivial ?_ rfl
  simp only [Tryd.ntmps52, List.size_toArray, List.length_cons, List.length_nil, Nat.reduceAdd, Nat.reduceSub, Array.replicate_succ, Array.replicate_zero, List.push_toArray, List.append_toArray, List.nil_append, List.cons_append]
  have hcell : W.cell? ⟨Bl, 0, none⟩ = some (.slice A ns.length c) := by rw [Whole.cell hBl]; rfl
  have hBlt := hBl.lt
  have HD := Lib.hid hd
  have HF := Lib.hid hf
  clear hd hf
  gi_wp2_with (refine ⟨trivial, ?_⟩; gi_at_call 53; refine (walk_in _ _ _ _ _).mono ?_; rintro e w' ⟨rfl, rfl⟩)
  have hB0 : Below W.heap.size W ((W.alloc (.cells #[.func (.yield l) #[] #[]] 88)).alloc (.cells #[.slice A ns.length c] 25)) :=
    ((Below.refl _ W).alloc (Nat.le_refl _) _).alloc (by simp) _
  have x0 := (Boxed.new W 88 (.func (.yield l) #[] #[])).alloc (.cells #[.slice A ns.length c] 25)
  have x1 := Boxed.new (W.alloc (.cells #[.func (.yield l) #[] #[]] 88)) 25 (.slice A ns.length c)
  simp only [World.size_alloc] at x1
  have hsz : ((W.alloc (.cells #[.func (.yield l) #[] #[]] 88)).alloc (.cells #[.slice A ns.length c] 25)).heap.size = W.heap.size + 1 + 1 := by simp
  have hj0 : J [] ((W.alloc (.cells #[.func (.yield l) #[] #[]] 88)).alloc (.cells #[.slice A ns.length c] 25)) := hJo.alloc _ (hJo.alloc _ h0)
  have hk0 := kpg_of hGo (Nat.le_refl _) hn₀ hB0
  have hg0 : ∀ i, G ((W.alloc (.cells #[.func (.yield l) #[] #[]] 88)).alloc (.cells #[.slice A ns.length c] 25)) i → i < W.heap.size := fun i hi =>
    hJG _ _ h0 i (hGo _ _ none (Nat.le_refl _) (grown_of_below hB0) (fun r e => by cases e) i hi)
  have hS0 := hS.kp hk0
  have hN0 := hN.kp hS hk0
  generalize (W.alloc (.cells #[.func (.yield l) #[] #[]] 88)).alloc (.cells #[.slice A ns.length c] 25) = W0 at *
  have hi0 : WkI G J l W.heap.size W0.heap.size [] W0 := ⟨⟨[], rfl, hj0⟩, x0, fun h => Nat.lt_irrefl _ (hg0 _ h), Nat.le_refl _⟩
  have hGo0 : GOwn W0.heap.size G := fun A B row hA hg hr => hGo A B row (by omega) hg fun r e => by have := hr r e; omega
  have hIo : OwnFrom W0.heap.size (WkI G J l W.heap.size W0.heap.size) := wkI_own hGo0 (ownFrom_wider hJo (by omega))
  have hIxo : OwnFrom W0.heap.size (WkX Jx) := wkX_own (ownFrom_wider hJxo (by omega))
  refine each_leave .ret (F := Fence.wide) (n := 5) (P := Tryd.prog) rfl (by omega) (gf := 65) (lb := #[.pointer (some ⟨W.heap.size + 1, 0, none⟩)]) rfl trivial (enters_of Tryd.func65 (by kernel_rfl) rfl)
    (encs := encN) (Kp := KpG G n₀) (G := G) (Row := fun pre W x => RowN G W x ∧ Nxt (flats ns 1) pre x) (Fin := FinW ns) (FinX := FinWX ns) (N := N) ?hseq (fun _ => rfl)
    KpG.trans ?hKb (WkI G J l W.heap.size W0.heap.size) hIo (WkX Jx) hIxo hi0 (fun _ _ h => by obtain ⟨zs, _, hz⟩ := h.j; exact hJG _ _ hz)
    (fun pre x a' V => ∃ g, a' = { tmps := #[.func (.yield l) #[] #[], .pointer (some ⟨Bl, 0, none⟩), .pointer (some ⟨W.heap.size, 0, none⟩), .int .i64 (x.d : Int), .pointer (some ⟨g, 0, none⟩), .slice A ns.length c, .func (.func 65) #[] #[.pointer (some ⟨W.heap.size + 1, 0, none⟩)], .int .i64 (x.d : Int), ndV x.n x.A x.c x.K x.k, undef, undef, undef, undef, undef, undef], defers := [] } ∧
      Whole V g 27 #[hv x.n.t, .slice x.A x.n.v.length x.c, .slice x.K x.n.ks.length x.k] ∧ WkI G J l W.heap.size W0.heap.size pre V ∧ RowN G V x ∧ Nxt (flats ns 1) pre x) ?hAx
    ?assign ?body ?done ?stop
  case hseq =>
    intro l' J' Jx' V hV hJo' hJxo' hJG' hY' hj'
    have hkV := kpg_of (n₀ := n₀) hGo (by omega) (by omega) hV
    exact walk1_in 4 (by omega) l' (W.heap.size + 1) n₀ W0.heap.size N A c ns S G hGo0 J' Jx' (fun s A B h hg => hJo' s A B none h hg (fun r e => by cases e)) hJG'
      (fun pre x W1 h1 h2 h3 h4 => by
        obtain ⟨fn, tmps, assign, body, hy, hR⟩ := hY' pre x W1 h1 h2 ⟨h3, h4⟩
        exact ⟨fn, tmps, assign, body, hy, hR.mono fun e w' h => h.1⟩) V hV.size (by have := hV.size; omega) (Whole.below x1 hV (by omega)) (hS0.kp hkV) (hN0.kp hS0 hkV) hc hm HD.out HF.out hl hNn hj'
  case hKb =>
    intro V l' o o' hl ho hoc
    have hlt := (Array.getElem?_eq_some_iff.1 ho).1
    refine ⟨(Below.refl _ V).grown (grownBy_putObj' V l' o') (by omega) (fun k e => by cases e; omega), fun i cs t z _ hi => ?_, fun i _ hi => hGo _ _ (some l') (by omega) (grownBy_putObj' V l' o') (fun r e => by cases e; omega) i hi⟩
    rw [World.putObj_heap_other (fun e => ?_)]
    · exact hi
    · subst e
      rw [hi] at ho
      cases ho
      cases hoc
  case hAx =>
    rintro pre x a' s X Y row ⟨g, ha, hw, hi, hr1, hr2⟩ hg hr
    refine ⟨g, ha, (hg.block g hw.lt (fun e => ?_)).trans hw, hIo _ _ _ _ hi hg hr, rowN_own hGo0 hi.sz hg hr hr1, hr2⟩
    obtain ⟨_, o, ho, hoc⟩ := hr g e.symm
    unfold Whole at hw
    rw [hw] at ho
    cases ho
    cases hoc
  case assign =>
    intro l' pre x V K hi ⟨hrx, hnx⟩ hK
    have hk : ∀ o, KeepsFrom W0.heap.size V (V.alloc o) := fun o => (KeepsOthers.alloc V o).from _
    simp only [encN, ndV]
    gi_wp2
    have hb := (Below.refl V.heap.size V).alloc (Nat.le_refl _) (.cells #[hv x.n.t, .slice x.A x.n.v.length x.c, .slice x.K x.n.ks.length x.k] 27)
    have hgr := grown_of_below hb
    have hsz0 := hi.sz
    refine hK _ _ (hk _) ⟨hb.mono (by omega), fun i _ _ _ _ h2 => (hb.block i (Array.getElem?_eq_some_iff.1 h2).1).trans h2, fun i _ h2 => hGo0 _ _ none hsz0 hgr (fun r e => by cases e) i h2⟩
      ⟨V.heap.size, rfl, Whole.new _ _ _, hIo _ _ _ none hi hgr (fun _ e => by cases e), rowN_own hGo0 hsz0 hgr (fun _ e => by cases e) hrx, hnx⟩
  case body =>
    rintro l' pre x a' V ⟨g, rfl, hw, hi, ⟨S1, hH1, hN1, hF1⟩, hnx⟩ hlen
    have HNX := Lib.hid hnx
    clear hnx
    obtain ⟨zs, hz, hjz⟩ := hi.j
    have hzl : zs.length = pre.length := by have := congrArg List.length hz; simpa using this
    have hVsz := hi.sz
    have hCl := nclone_any x.n hF1 x.A x.c x.K x.k V.drew ((hN1.node (fun b hb => (hH1 b hb).1)).keep (fun _ _ => rfl))
    gi_wp2_with fail
    refine region4W _ _ _ _ _ _ _ _ _ _ _ _ W.heap.size g x V hi.y hw hCl ?_
    intro A2 c2 K2 k2 w2 hN2 b2'
    have b2 := below_undrew b2'
    have hkV := kpg_of (n₀ := n₀) hGo (by omega) (by omega) b2
    have hj2 := hJo _ _ _ none hjz (grown_of_below b2) (fun r e => by cases e)
    have hy2 : Boxed w2 W.heap.size 88 (.func (.yield l) #[] #[]) := Whole.below hi.y b2 (boxed_lt hi.y)
    have hny2 : ¬ G w2 W.heap.size := fun h => hi.ny (hkV.own _ (boxed_lt hi.y) h)
    have hkf2 : KeepsFrom W0.heap.size V w2 := ⟨b2.size, fun k o _ hk ho => (b2.block k (Array.getElem?_eq_some_iff.1 hk).1).trans hk⟩
    have hsz2 := b2.size
    obtain ⟨fn, tmps, assign, body, hy, hR⟩ := hY zs ⟨x.d, x.n, A2, c2, K2, k2⟩ w2 hj2 (by omega) ⟨NewS V w2, fun b hb => ⟨hb.2, fun hg => absurd (hJG _ _ hjz b (hGo _ _ none (by omega) (grown_of_below b2) (fun r e => by cases e) b hg)) (Nat.not_lt.2 hb.1)⟩, hN2, hF1⟩ (by obtain ⟨post, hp⟩ := HNX.out; exact ⟨post, by rw [hz]; exact hp⟩)
    simp only [encN, ndV] at hy
    refine any_node (fuel := 1) [4] (by kernel_rfl) (by simp) ?_
    intro i hi9
    simp only [List.mem_cons, List.not_mem_nil, or_false] at hi9
    subst hi9
    refine op_of_list ({ dst := some 13, op := Op.call { callee := Callee.value (Operand.tmp 9), args := #[Operand.tmp 10, Operand.tmp 12], argTypes := #[3, 27] }, type := 4, pos := "node.go:76", after := #[{ on := 0, ground := Ground.data }, { on := 1, ground := Ground.data }, { on := 3, ground := Ground.data }, { on := 3, ground := Ground.chain }], guard := none } : Oper) rfl rfl ?_
    gi_wp2_with fail
    refine (roundIn_wide hR).mono ?_
    rintro e w3 ⟨⟨rfl, hj3, hk3⟩ | ⟨rfl, hx3⟩, hkf⟩
    · have hfin : WkI G J l W.heap.size W0.heap.size (pre ++ [x]) w3 := ⟨⟨_, by rw [List.map_append, List.map_append, hz]; rfl, hj3⟩, hk3.same _ _ _ _ hny2 hy2, fun h => hny2 (hk3.own _ (boxed_lt hy2) h), by have := hkf.size; omega⟩
      gi_wp2_with fail
      (try simp only [List.setIfInBounds_toArray, List.set_cons_succ, List.set_cons_zero])
      refine any_node (fuel := 0) [5] (by kernel_rfl) (by simp) ?_
      intro i hi9
      simp only [List.mem_cons, List.not_mem_nil, or_false] at hi9
      subst hi9
      refine op_of_list ({ dst := some 14, op := Op.unOp UnOp.not 4 (Operand.tmp 13), type := 4, pos := "node.go:76", after := #[{ on := 4, ground := Ground.data }], guard := none } : Oper) rfl rfl ?_
      gi_wp2_with fail
      (try simp only [List.setIfInBounds_toArray, List.set_cons_succ, List.set_cons_zero])
      refine any_end (by kernel_rfl) ?_
      gi_wp2_with fail
      exact ⟨hkf2.trans ⟨hkf.size, fun k o hk ho => hkf.same k o (by omega) ho⟩, hkV.trans hk3, hfin⟩
    · have hfin : WkX Jx (pre, x) w3 := ⟨(zs, ⟨x.d, x.n, A2, c2, K2, k2⟩), hz, rfl, hx3⟩
      gi_wp2_with fail
      (try simp only [List.setIfInBounds_toArray, List.set_cons_succ, List.set_cons_zero])
      refine any_node (fuel := 0) [5] (by kernel_rfl) (by simp) ?_
      intro i hi9
      simp only [List.mem_cons, List.not_mem_nil, or_false] at hi9
      subst hi9
      refine op_of_list ({ dst := some 14, op := Op.unOp UnOp.not 4 (Operand.tmp 13), type := 4, pos := "node.go:76", after := #[{ on := 4, ground := Ground.data }], guard := none } : Oper) rfl rfl ?_
      gi_wp2_with fail
      (try simp only [List.setIfInBounds_toArray, List.set_cons_succ, List.set_cons_zero])
      refine any_end (by kernel_rfl) ?_
      gi_wp2_with fail
      exact ⟨rfl, hkf2.trans ⟨hkf.size, fun k o hk ho => hkf.same k o (by omega) ho⟩, hfin⟩
  case done =>
    rintro D xs V hD hF hi hKD
    obtain ⟨zs, hz, hjz⟩ := hi.j
    gi_wp2_with fail
    refine ⟨by simp, .inl ⟨_, _, rfl, run_takeDeferred hKD, ?_⟩⟩
    refine ⟨_, results_none rfl _ _ _, ?_⟩
    exact ⟨⟨_, rfl⟩, .inl ⟨zs, hz.trans hF, hJo.putObj _ hjz (by omega) hKD rfl⟩⟩
  case stop =>
    rintro D p V hD hF ⟨q, h1, h2, hi⟩ hKD
    obtain ⟨post, hp⟩ := hF
    gi_wp2_with fail
    refine ⟨by simp, .inl ⟨_, _, rfl, run_takeDeferred hKD, ?_⟩⟩
    refine ⟨_, results_none rfl _ _ _, ?_⟩
    exact ⟨⟨_, rfl⟩, .inr ⟨q, ⟨post, by rw [h1, h2]; exact hp⟩, hJxo.putObj _ hi (by omega) hKD rfl⟩⟩
end Go.Proofs.YtemeeeiglifpaaaDoor

