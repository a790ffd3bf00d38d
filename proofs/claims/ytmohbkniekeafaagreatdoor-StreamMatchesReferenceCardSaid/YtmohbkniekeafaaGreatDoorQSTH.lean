/- Layer 17, the reference: Is, Seq, Streams, Equal (written by tools/gen_str_h.py). They write nothing that was there. -/
/- Layer 17: the reference's Build; same, made (written by tools/gen_str_i.py). They write nothing that was there. -/
import Derived.Test.YtmohbkniekeafaaGreatDoorQSTD
import Derived.Test.YtmohbkniekeafaaGreatDoorQNodeRAC
import Derived.Test.YtmohbkniekeafaaGreatDoorQRefNS
import Derived.BigGuard
import Derived.Deep.RegionHeld3
import Derived.Test.YtmohbkniekeafaaGreatDoorQWireF
import Derived.Test.YtmohbkniekeafaaGreatDoorQNF





namespace Go.Proofs.YtmohbkniekeafaaGreatDoor
open Go.RowKit

set_option linter.unusedSimpArgs false
set_option maxRecDepth 100000 in
set_option maxHeartbeats 4000000 in
theorem ris17_any (n : Nd) (hf : Fine n) (A : Option Addr) (c : Nat) (K : Option Addr) (k : Nat) (w : World) (h : Node w w.heap.size A c K k n) :
    Calls Tryz.prog 55 #[ndV n A c K k] w fun e w' => e = .returned (.bool (seqB n)) ∧ Below w.heap.size w w' := by
  have b0 : Below w.heap.size w (w.alloc (.cells #[hv n.t, .slice A n.v.length c, .slice K n.ks.length k] 76)) := (Below.refl _ w).alloc (Nat.le_refl _) _
  have x0 := Whole.new w 76 #[hv n.t, .slice A n.v.length c, .slice K n.ks.length k]
  have hC := rcheck1_any 1 (.inl rfl) n A c K k _ (h.on b0) hf
  have hs0 : (w.alloc (.cells #[hv n.t, .slice A n.v.length c, .slice K n.ks.length k] 76)).heap.size = w.heap.size + 1 := by simp
  have HR : Hid (seqB n = ((decide (13 ≤ (n.t.toNat : Int)) && decide ((n.t.toNat : Int) ≤ 18)) && decide (chk 4 1 n = 0))) := by
    unfold Hid seqB isT
    rw [Bool.eq_iff_iff]
    simp only [Bool.and_eq_true, decide_eq_true_eq]
    omega
  unfold ndV at hC ⊢
  clear h hf
  generalize seqB n = r at *
  generalize chk 4 1 n = cc at *
  generalize n.v.length = lv at *
  generalize n.ks.length = lk at *
  generalize n.t = t at *
  by_cases h1 : 13 ≤ (t.toNat : Int)
  · by_cases h2 : (t.toNat : Int) ≤ 18
    · by_cases h3 : cc = 0
      · subst h3
        obtain rfl : r = true := by rw [HR.out, decide_eq_true h1, decide_eq_true h2]; rfl
        go_enter Tryz.func55, Tryz.ntmps55
        go_upto_region 1 with fail
        generalize w.alloc (.cells #[hv t, .slice A lv c, .slice K lk k] 76) = wa at *
        obtain ⟨q0, q1, q2⟩ := wh317 x0
        go_wp2_with fail
        refine hC.mono ?_
        rintro e w1 ⟨rfl, b1⟩
        have B1 := Lib.hid (b0.trans (b1.mono (by omega)))
        go_wp2_with fail
        go_ret
        exact ⟨rfl, B1.out⟩
      · obtain rfl : r = false := by rw [HR.out, decide_eq_false h3, Bool.and_false]
        have e3 : ((cc : Int) == 0) = false := by rw [beq_eq_false_iff_ne]; omega
        go_enter Tryz.func55, Tryz.ntmps55
        go_upto_region 1 with fail
        generalize w.alloc (.cells #[hv t, .slice A lv c, .slice K lk k] 76) = wa at *
        obtain ⟨q0, q1, q2⟩ := wh317 x0
        go_wp2_with fail
        refine hC.mono ?_
        rintro e w1 ⟨rfl, b1⟩
        have B1 := Lib.hid (b0.trans (b1.mono (by omega)))
        clear h3
        go_wp2_with fail
        go_ret
        exact ⟨rfl, B1.out⟩
    · obtain rfl : r = false := by rw [HR.out, decide_eq_false h2, Bool.and_false, Bool.false_and]
      go_enter Tryz.func55, Tryz.ntmps55
      go_upto_region 1 with fail
      generalize w.alloc (.cells #[hv t, .slice A lv c, .slice K lk k] 76) = wa at *
      obtain ⟨q0, q1, q2⟩ := wh317 x0
      go_wp2_with fail
      go_ret
      exact ⟨rfl, b0⟩
  · obtain rfl : r = false := by rw [HR.out, decide_eq_false h1, Bool.false_and, Bool.false_and]
    go_enter Tryz.func55, Tryz.ntmps55
    go_upto_region 1 with fail
    generalize w.alloc (.cells #[hv t, .slice A lv c, .slice K lk k] 76) = wa at *
    obtain ⟨q0, q1, q2⟩ := wh317 x0
    go_wp2_with fail
    go_ret
    exact ⟨rfl, b0⟩
set_option maxRecDepth 100000 in
set_option maxHeartbeats 4000000 in
theorem rseq17_any (n : Nd) (hf : Fine n) (A : Option Addr) (c : Nat) (K : Option Addr) (k : Nat) (w : World) (h : Node w w.heap.size A c K k n) :
    Calls Tryz.prog 50 #[ndV n A c K k] w fun e w' => e = .returned (.tuple #[uv (seqV n), .bool (seqB n)]) ∧ Below w.heap.size w w' := by
  have b0 : Below w.heap.size w (w.alloc (.cells #[hv n.t, .slice A n.v.length c, .slice K n.ks.length k] 76)) := (Below.refl _ w).alloc (Nat.le_refl _) _
  have x0 := Whole.new w 76 #[hv n.t, .slice A n.v.length c, .slice K n.ks.length k]
  have hI := ris17_any n hf A c K k _ (h.on b0)
  have hNd := (h.on b0).data
  have hs0 : (w.alloc (.cells #[hv n.t, .slice A n.v.length c, .slice K n.ks.length k] 76)).heap.size = w.heap.size + 1 := by simp
  have HV : Hid (seqV n = if seqB n = true then seqN n else 0) := Lib.hid rfl
  have HN : Hid (seqB n = true → 4 ≤ n.v.length ∧ n.v.length ≤ 65531) := Lib.hid (fun h => ⟨(seqB_len h).1, (seqB_len h).2.1⟩)
  have HQ : Hid (seqN n = nrd n.v 0 4) := Lib.hid rfl
  unfold ndV at hI ⊢
  clear h hf
  generalize seqV n = sv at *
  generalize seqB n = r at *
  generalize seqN n = sn at *
  obtain ⟨t, v, ks⟩ := n
  simp only [Nd.t, Nd.v, Nd.ks] at *
  cases r with
  | false =>
    obtain rfl : sv = 0 := by rw [HV.out]; rfl
    clear hNd
    go_enter Tryz.func50, Tryz.ntmps50
    go_upto_region 1 with fail
    generalize w.alloc (.cells #[hv t, .slice A v.length c, .slice K ks.length k] 76) = wa at *
    obtain ⟨q0, q1, q2⟩ := wh317 x0
    go_wp2_with fail
    refine hI.mono ?_
    rintro e w1 ⟨rfl, b1⟩
    have B1 := Lib.hid (b0.trans (b1.mono (by omega)))
    go_wp2_with fail
    go_ret2
    exact ⟨rfl, B1.out⟩
  | true =>
    obtain rfl : sv = sn := by rw [HV.out, if_pos rfl]
    have hl := HN.out rfl
    go_enter Tryz.func50, Tryz.ntmps50
    go_upto_region 1 with fail
    generalize w.alloc (.cells #[hv t, .slice A v.length c, .slice K ks.length k] 76) = wa at *
    obtain ⟨q0, q1, q2⟩ := wh317 x0
    go_wp2_with fail
    refine hI.mono ?_
    rintro e w1 ⟨rfl, b1⟩
    have B1 := Lib.hid (b0.trans (b1.mono (by omega)))
    have x1 := x0.below b1 (by omega)
    have L1 := (hNd.below b1).more b1.size
    have hN : Calls Tryz.prog 110 #[.slice A v.length c, .int .i64 0, .int .i64 4] w1 fun e w' => e = .returned (.tuple #[uv sv, .bool true]) ∧ w1 = w' := by
      have h9 := rnumber_yes A c w1.heap.size v 0 4 w1 L1 (by omega) rfl (by omega)
      rw [← nrd_toNat, ← HQ.out] at h9
      exact h9
    clear hI q0 q1 q2 x0 b0 hNd b1 L1
    obtain ⟨q0, q1, q2⟩ := wh317 x1
    go_wp2_with fail
    refine hN.mono ?_
    rintro e w2 ⟨rfl, rfl⟩
    go_wp2_with fail
    go_ret2
    exact ⟨rfl, B1.out⟩
theorem val1617 (p q : UInt8) : IntKind.u16.wrap (IntKind.u16.wrap (IntKind.u16.wrap (p.toNat : Int) * 256) + IntKind.u16.wrap (q.toNat : Int)) = ((UInt16.ofNat (p.toNat * 256 + q.toNat)).toNat : Int) := by
  have hp := p.toNat_lt
  have hq := q.toNat_lt
  simp only [IntKind.wrap_u16]
  rw [UInt16.toNat_ofNat']
  omega
theorem strs_at (b : List UInt8) {k : Nat} {x y : UInt8} (hx : b[2 * k]? = some x) (hy : b[2 * k + 1]? = some y) : (strs b)[k]? = some (UInt16.ofNat (x.toNat * 256 + y.toNat)) := by
  have h1 := (List.getElem?_eq_some_iff.1 hy).1
  have hk : k < b.length / 2 := by omega
  unfold strs nums
  rw [List.getElem?_map, List.getElem?_map, List.getElem?_range hk]
  simp only [Option.map_some, numAt_toNat]
  have h2 : (b.drop (k * 2)).take 2 = [x, y] := by
    apply List.ext_getElem?
    intro i
    rw [List.getElem?_take, List.getElem?_drop]
    match i with
    | 0 => rw [if_pos (by omega), show k * 2 + 0 = 2 * k by omega, hx]; rfl
    | 1 => rw [if_pos (by omega), show k * 2 + 1 = 2 * k + 1 by omega, hy]; rfl
    | i + 2 => rw [if_neg (by omega)]; simp
  rw [h2, numOf_pair]
theorem step_append17 {P : Program} {w : World} {ops : Array Oper} {o : Oper} {a : Act} {K : Act → World → Prop} {Q : Exit → Act → World → Prop} {E : Prop} (hgd : o.guard = none) (s x : Operand) (t : TypeId)
    (ho : o.op = .call { callee := .builtin .append, args := #[s, x], argTypes := #[t, t] })
    (base : Nat) (e : TypeId) (z : Value) (bytes : Nat) (ht : P.underlying t = some (.slice e)) (hi : (P.info? e).map (fun i => (i.zero, i.size, i.bytes)) = some (some z, 1, bytes))
    (hzs : z.cells.size = 1) (v : Value) (n : Nat) (xs : List Value) (hs : a.eval s = v) (hown : w.ownsRow base e 1 v n xs)
    (B : Nat) (A : Option Addr) (m c : Nat) (news : List Value) (hx : a.eval x = .slice A m c) (hm : news.length = m) (hl : Lies w B A news) (h1 : ∀ u ∈ news, u.oneCell' = true)
    (L : Nat) (hL : n + m = L) (hbytes : L * bytes ≤ 140737488355328) (h63 : L ≤ maxLen) (hbase : base ≤ w.heap.size)
    (h : ∀ A' c' w', w'.ownsRow base e 1 (.slice A' L c') L (xs ++ news) → w.grownBy w' v.ownBlock → K (a.put o.dst (.slice A' L c')) w') :
    if Region.wanted o (yielded ops a.tmps) = true then Oper.wp P o a w K Q else E := by
  have hw : Region.wanted o (yielded ops a.tmps) = true := by simp [Region.wanted, hgd]
  rw [if_pos hw]
  subst hL
  exact wp_append_lies w s x t ho base e z bytes ht hi hzs v n xs hs hown B A m c news hx hm hl h1 hbytes h63 hbase fun A' c' w' h2 h3 _ => h A' c' w' h2 h3
set_option maxRecDepth 100000 in
set_option maxHeartbeats 8000000 in
theorem rstr17_13 (v : List UInt8) (ks : List Nd) (hf : Fine (.mk 13 v ks)) (hsb : seqB (.mk 13 v ks) = true) (A : Option Addr) (c : Nat) (K : Option Addr) (kk : Nat) (w : World) (h : Node w w.heap.size A c K kk (.mk 13 v ks)) :
    Calls Tryz.prog 53 #[.agg #[.int .u16 13, .slice A v.length c, .slice K ks.length kk]] w fun e w' => ∃ A' c', e = .returned (.slice A' (strs (v.drop 12)).length c') ∧ Lies w' w'.heap.size A' ((strs (v.drop 12)).map hv) ∧ Below w.heap.size w w' := by
  obtain ⟨hl1, hl2⟩ := seqB_13 hsb rfl
  have hl3 := (seqB_len hsb).2.1
  have b0 : Below w.heap.size w (w.alloc (.cells #[.int .u16 13, .slice A v.length c, .slice K ks.length kk] 76)) := (Below.refl _ w).alloc (Nat.le_refl _) _
  have x0 := Whole.new w 76 #[.int .u16 13, .slice A v.length c, .slice K ks.length kk]
  have hI : Calls Tryz.prog 55 #[.agg #[.int .u16 13, .slice A v.length c, .slice K ks.length kk]] (w.alloc (.cells #[.int .u16 13, .slice A v.length c, .slice K ks.length kk] 76)) fun e w' => e = .returned (.bool true) ∧ Below (w.alloc (.cells #[.int .u16 13, .slice A v.length c, .slice K ks.length kk] 76)).heap.size (w.alloc (.cells #[.int .u16 13, .slice A v.length c, .slice K ks.length kk] 76)) w' := by
    have h9 := ris17_any _ hf A c K kk _ (h.on b0)
    rw [hsb] at h9
    exact h9
  have hNd : Lies _ _ A (v.map bv) := (h.on b0).data
  have hs0 : (w.alloc (.cells #[.int .u16 13, .slice A v.length c, .slice K ks.length kk] 76)).heap.size = w.heap.size + 1 := by simp
  simp only [Nd.v] at hl1 hl2 hl3
  obtain ⟨m, hm⟩ : ∃ m, v.length = 12 + 2 * m := ⟨(v.length - 12) / 2, by omega⟩
  have HM := Lib.hid hm
  have HPL : Hid ((strs (v.drop 12)).length = m) := by unfold Hid; rw [strs_len, List.length_drop]; omega
  have HPA : Hid (∀ (k : Nat) (x y : UInt8), v[12 + 2 * k]? = some x → v[12 + 2 * k + 1]? = some y → (strs (v.drop 12))[k]? = some (UInt16.ofNat (x.toNat * 256 + y.toNat))) := Lib.hid (fun k x y hx hy =>
    strs_at (v.drop 12) (by rw [List.getElem?_drop]; exact hx) (by rw [List.getElem?_drop]; exact hy))
  have hmb : m ≤ 40000 := by omega
  have hvm : v.length ≤ 65531 := hl3
  clear hm hl1 hl2 hl3 hsb hf h
  generalize strs (v.drop 12) = Z at *
  go_enter Tryz.func53, Tryz.ntmps53
  go_upto_region 2 with fail
  generalize w.alloc (.cells #[.int .u16 13, .slice A v.length c, .slice K ks.length kk] 76) = w0 at *
  obtain ⟨q0, q1, q2⟩ := wh317 x0
  go_wp2_with fail
  refine hI.mono ?_
  rintro e w1 ⟨rfl, b1⟩
  have x1 := x0.below b1 (by omega)
  have HD : Hid (∀ V, Below w1.heap.size w1 V → Lies V w1.heap.size A (v.map bv)) := Lib.hid (fun V hV => ((hNd.below b1).more b1.size).below hV)
  have hx1 := x1.lt
  have KS : Hid (∀ V, Below w1.heap.size w1 V → V.cell? ⟨w.heap.size, 0, none⟩ = some (.int .u16 13) ∧ V.cell? ⟨w.heap.size, 1, none⟩ = some (.slice A v.length c) ∧ V.cell? ⟨w.heap.size, 2, none⟩ = some (.slice K ks.length kk)) := Lib.hid (fun V hV => wh317 (x1.below hV hx1))
  have HB1 := Lib.hid (b0.trans (b1.mono (by omega)))
  obtain ⟨t0, t1, t2⟩ := KS.out w1 (Below.refl _ _)
  clear q0 q1 q2 hI b1 x0 x1 hNd
  go_wp2_with fail
  go_loopw [3, 4] (fun u i wr => ∃ (k j : Nat) (A' : Option Addr) (c' : Nat), k ≤ m ∧ i = .int .i64 (j : Int) ∧ Hid (j = 12 + 2 * k) ∧ u = .slice A' k c' ∧ Hid (wr.ownsRow w1.heap.size 37 1 (.slice A' k c') k ((Z.take k).map hv)) ∧ Below w1.heap.size w1 wr) (fun _ i _ => v.length - (intOf i).toNat)
  case atStart => exact ⟨0, 12, none, 0, Nat.zero_le _, rfl, rfl, rfl, World.ownsRow_nil _ _ _ _, Below.refl _ _⟩
  case round =>
    obtain ⟨k, j, A2, c2, hk, rfl, hj, rfl, hown, hbel⟩ := hrel
    have hsz := hbel.size
    obtain ⟨r0, r1, r2⟩ := KS.out wr hbel
    by_cases hlt : k < m
    · have hji : j + 1 < v.length := by have h1 := HM.out; have h2 := hj.out; omega
      obtain ⟨ad, p, hA, hb, hp, hc0⟩ := (HD.out wr hbel).byte (k := j) (by omega)
      obtain ⟨ad', q, hA', _, hq, hc1⟩ := (HD.out wr hbel).byte (k := j + 1) hji
      subst hA
      cases hA'
      obtain ⟨j1, hj1⟩ : ∃ j1, j + 1 = j1 := ⟨_, rfl⟩
      rw [hj1] at hc1
      have hwj : IntKind.i64.wrap ((j : Int) + 1) = (j1 : Int) := by rw [IntKind.wrap_i64]; omega
      have hi1 : (j : Int) < (v.length : Int) := by omega
      have hi2 : (j1 : Int) < (v.length : Int) := by omega
      have hi3 : (j : Int) ≤ 70000 := by omega
      have KC : Hid (∀ V, Below w1.heap.size w1 V → V.cell? ⟨w.heap.size, 1, none⟩ = some (.slice (some ad) v.length c) ∧ V.cell? (ad.add j) = some (.int .u8 (p.toNat : Int)) ∧ V.cell? (ad.add j1) = some (.int .u8 (q.toNat : Int))) := fun V hV => by
        refine ⟨(KS.out V hV).2.1, ?_, ?_⟩
        · obtain ⟨_, p', e1, _, e2, e3⟩ := (HD.out V hV).byte (k := j) (by omega)
          cases e1
          have := e2.out
          rw [hp.out] at this
          cases this
          exact e3
        · obtain ⟨_, q', e1, _, e2, e3⟩ := (HD.out V hV).byte (k := j + 1) hji
          cases e1
          have := e2.out
          rw [hq.out] at this
          cases this
          rw [← hj1]
          exact e3
      have HZ : Hid (Z.take (k + 1) = Z.take k ++ [UInt16.ofNat (p.toNat * 256 + q.toNat)]) := by
        apply take_some
        have h1 := hp.out
        have h2 := hq.out
        rw [hj.out] at h1 h2
        exact HPA.out k p q h1 h2
      have HH : Hid (Lies (wr.alloc (.cells #[.int .u16 (IntKind.u16.wrap (IntKind.u16.wrap (IntKind.u16.wrap (p.toNat : Int) * 256) + IntKind.u16.wrap (q.toNat : Int)))] 37)) (wr.heap.size + 1) (some ⟨wr.heap.size, 0, none⟩) [hv (UInt16.ofNat (p.toNat * 256 + q.toNat))]) := by
        unfold Hid
        rw [val1617]
        exact Lies.new1 wr _ _
      generalize UInt16.ofNat (p.toNat * 256 + q.toNat) = y at *
      obtain ⟨k1, hk1⟩ : ∃ k1, k + 1 = k1 := ⟨_, rfl⟩
      have HK1 := Lib.hid hk1
      have hk1b : k1 ≤ 100000 := by omega
      have HOW := Lib.hid (hown.out.alloc (.cells #[.int .u16 (IntKind.u16.wrap (IntKind.u16.wrap (IntKind.u16.wrap (p.toNat : Int) * 256) + IntKind.u16.wrap (q.toNat : Int)))] 37))
      clear hk1 hj1 t0 t1 t2
      go_wp2_with fail
      go_region_held3 (fun W => W.cell? ⟨w.heap.size, 1, none⟩ = some (.slice (some ad) v.length c) ∧ W.cell? (ad.add j) = some (.int .u8 (p.toNat : Int)) ∧ W.cell? (ad.add j1) = some (.int .u8 (q.toNat : Int)))
        (first | exact KC.out _ (below_drew hbel) | exact KC.out _ (below_drew (hbel.alloc hsz _)) | exact KC.out _ b8 | fail)
        (first
        | (refine step_append17 rfl (.tmp 27) (.tmp 43) 36 rfl w1.heap.size 37 (.int .u16 0) 2 Tryz.underlying36 u16info rfl _ k _ (by rfl) (World.ownsRow.drew HOW.out) _ (some ⟨wr.heap.size, 0, none⟩) 1 1 [hv y] (by rfl) (by rfl) HH.out (by intro u hu; rw [List.mem_singleton.1 hu]; rfl) k1 HK1.out (by omega) (by unfold maxLen; omega) (by simp; omega) ?_; intro A8 c8 w8 own8 grow8; have b8 : Below w1.heap.size w1 w8 := (below_drew (hbel.alloc hsz _)).grown grow8 (by simp; omega) (fun q e => (hown.out.lt q e).1))
        | fail)
      have H8 : Hid (w8.ownsRow w1.heap.size 37 1 (.slice A8 k1 c8) k1 ((Z.take k1).map hv)) := by
        unfold Hid
        rw [← HK1.out, HZ.out, List.map_append, HK1.out]
        exact own8
      have hj2 : Hid (j + 2 = 12 + 2 * k1) := by have h1 := hj.out; have h2 := HK1.out; unfold Hid; omega
      clear own8 grow8
      go_wp2_with fail
      go_roundw
      case rel => exact ⟨k1, j + 2, A8, c8, by have := HK1.out; omega, by go_num, hj2, rfl, H8, b8⟩
      case measure => simp [intOf]; omega
    · obtain rfl : k = m := by omega
      have hi1 : ¬ (j : Int) < (v.length : Int) := by have h1 := HM.out; have h2 := hj.out; omega
      have HE : Hid (Lies wr wr.heap.size A2 (Z.map hv)) := by
        have h1 := hown.out
        rw [List.take_of_length_le (by have := HPL.out; omega)] at h1
        exact Lies.own h1
      clear hown
      go_wp2_with fail
      go_ret
      exact ⟨A2, ⟨c2, by rw [HPL.out]; rfl⟩, HE.out, HB1.out.trans (hbel.mono HB1.out.size)⟩
set_option maxRecDepth 100000 in
set_option maxHeartbeats 8000000 in
theorem rstr17_14 (v : List UInt8) (ks : List Nd) (hf : Fine (.mk 14 v ks)) (hsb : seqB (.mk 14 v ks) = true) (A : Option Addr) (c : Nat) (K : Option Addr) (kk : Nat) (w : World) (h : Node w w.heap.size A c K kk (.mk 14 v ks)) :
    Calls Tryz.prog 53 #[.agg #[.int .u16 14, .slice A v.length c, .slice K ks.length kk]] w fun e w' => ∃ A' c', e = .returned (.slice A' (strs (v.drop 4)).length c') ∧ Lies w' w'.heap.size A' ((strs (v.drop 4)).map hv) ∧ Below w.heap.size w w' := by
  obtain ⟨hl1, hl2⟩ := seqB_14 hsb rfl
  have hl3 := (seqB_len hsb).2.1
  have b0 : Below w.heap.size w (w.alloc (.cells #[.int .u16 14, .slice A v.length c, .slice K ks.length kk] 76)) := (Below.refl _ w).alloc (Nat.le_refl _) _
  have x0 := Whole.new w 76 #[.int .u16 14, .slice A v.length c, .slice K ks.length kk]
  have hI : Calls Tryz.prog 55 #[.agg #[.int .u16 14, .slice A v.length c, .slice K ks.length kk]] (w.alloc (.cells #[.int .u16 14, .slice A v.length c, .slice K ks.length kk] 76)) fun e w' => e = .returned (.bool true) ∧ Below (w.alloc (.cells #[.int .u16 14, .slice A v.length c, .slice K ks.length kk] 76)).heap.size (w.alloc (.cells #[.int .u16 14, .slice A v.length c, .slice K ks.length kk] 76)) w' := by
    have h9 := ris17_any _ hf A c K kk _ (h.on b0)
    rw [hsb] at h9
    exact h9
  have hNd : Lies _ _ A (v.map bv) := (h.on b0).data
  have hs0 : (w.alloc (.cells #[.int .u16 14, .slice A v.length c, .slice K ks.length kk] 76)).heap.size = w.heap.size + 1 := by simp
  simp only [Nd.v] at hl1 hl2 hl3
  obtain ⟨m, hm⟩ : ∃ m, v.length = 4 + 2 * m := ⟨(v.length - 4) / 2, by omega⟩
  have HM := Lib.hid hm
  have HPL : Hid ((strs (v.drop 4)).length = m) := by unfold Hid; rw [strs_len, List.length_drop]; omega
  have HPA : Hid (∀ (k : Nat) (x y : UInt8), v[4 + 2 * k]? = some x → v[4 + 2 * k + 1]? = some y → (strs (v.drop 4))[k]? = some (UInt16.ofNat (x.toNat * 256 + y.toNat))) := Lib.hid (fun k x y hx hy =>
    strs_at (v.drop 4) (by rw [List.getElem?_drop]; exact hx) (by rw [List.getElem?_drop]; exact hy))
  have hmb : m ≤ 40000 := by omega
  have hvm : v.length ≤ 65531 := hl3
  clear hm hl1 hl2 hl3 hsb hf h
  generalize strs (v.drop 4) = Z at *
  go_enter Tryz.func53, Tryz.ntmps53
  go_upto_region 2 with fail
  generalize w.alloc (.cells #[.int .u16 14, .slice A v.length c, .slice K ks.length kk] 76) = w0 at *
  obtain ⟨q0, q1, q2⟩ := wh317 x0
  go_wp2_with fail
  refine hI.mono ?_
  rintro e w1 ⟨rfl, b1⟩
  have x1 := x0.below b1 (by omega)
  have HD : Hid (∀ V, Below w1.heap.size w1 V → Lies V w1.heap.size A (v.map bv)) := Lib.hid (fun V hV => ((hNd.below b1).more b1.size).below hV)
  have hx1 := x1.lt
  have KS : Hid (∀ V, Below w1.heap.size w1 V → V.cell? ⟨w.heap.size, 0, none⟩ = some (.int .u16 14) ∧ V.cell? ⟨w.heap.size, 1, none⟩ = some (.slice A v.length c) ∧ V.cell? ⟨w.heap.size, 2, none⟩ = some (.slice K ks.length kk)) := Lib.hid (fun V hV => wh317 (x1.below hV hx1))
  have HB1 := Lib.hid (b0.trans (b1.mono (by omega)))
  obtain ⟨t0, t1, t2⟩ := KS.out w1 (Below.refl _ _)
  clear q0 q1 q2 hI b1 x0 x1 hNd
  go_wp2_with fail
  go_loopw [3, 4] (fun u i wr => ∃ (k j : Nat) (A' : Option Addr) (c' : Nat), k ≤ m ∧ i = .int .i64 (j : Int) ∧ Hid (j = 4 + 2 * k) ∧ u = .slice A' k c' ∧ Hid (wr.ownsRow w1.heap.size 37 1 (.slice A' k c') k ((Z.take k).map hv)) ∧ Below w1.heap.size w1 wr) (fun _ i _ => v.length - (intOf i).toNat)
  case atStart => exact ⟨0, 4, none, 0, Nat.zero_le _, rfl, rfl, rfl, World.ownsRow_nil _ _ _ _, Below.refl _ _⟩
  case round =>
    obtain ⟨k, j, A2, c2, hk, rfl, hj, rfl, hown, hbel⟩ := hrel
    have hsz := hbel.size
    obtain ⟨r0, r1, r2⟩ := KS.out wr hbel
    by_cases hlt : k < m
    · have hji : j + 1 < v.length := by have h1 := HM.out; have h2 := hj.out; omega
      obtain ⟨ad, p, hA, hb, hp, hc0⟩ := (HD.out wr hbel).byte (k := j) (by omega)
      obtain ⟨ad', q, hA', _, hq, hc1⟩ := (HD.out wr hbel).byte (k := j + 1) hji
      subst hA
      cases hA'
      obtain ⟨j1, hj1⟩ : ∃ j1, j + 1 = j1 := ⟨_, rfl⟩
      rw [hj1] at hc1
      have hwj : IntKind.i64.wrap ((j : Int) + 1) = (j1 : Int) := by rw [IntKind.wrap_i64]; omega
      have hi1 : (j : Int) < (v.length : Int) := by omega
      have hi2 : (j1 : Int) < (v.length : Int) := by omega
      have hi3 : (j : Int) ≤ 70000 := by omega
      have KC : Hid (∀ V, Below w1.heap.size w1 V → V.cell? ⟨w.heap.size, 1, none⟩ = some (.slice (some ad) v.length c) ∧ V.cell? (ad.add j) = some (.int .u8 (p.toNat : Int)) ∧ V.cell? (ad.add j1) = some (.int .u8 (q.toNat : Int))) := fun V hV => by
        refine ⟨(KS.out V hV).2.1, ?_, ?_⟩
        · obtain ⟨_, p', e1, _, e2, e3⟩ := (HD.out V hV).byte (k := j) (by omega)
          cases e1
          have := e2.out
          rw [hp.out] at this
          cases this
          exact e3
        · obtain ⟨_, q', e1, _, e2, e3⟩ := (HD.out V hV).byte (k := j + 1) hji
          cases e1
          have := e2.out
          rw [hq.out] at this
          cases this
          rw [← hj1]
          exact e3
      have HZ : Hid (Z.take (k + 1) = Z.take k ++ [UInt16.ofNat (p.toNat * 256 + q.toNat)]) := by
        apply take_some
        have h1 := hp.out
        have h2 := hq.out
        rw [hj.out] at h1 h2
        exact HPA.out k p q h1 h2
      have HH : Hid (Lies (wr.alloc (.cells #[.int .u16 (IntKind.u16.wrap (IntKind.u16.wrap (IntKind.u16.wrap (p.toNat : Int) * 256) + IntKind.u16.wrap (q.toNat : Int)))] 37)) (wr.heap.size + 1) (some ⟨wr.heap.size, 0, none⟩) [hv (UInt16.ofNat (p.toNat * 256 + q.toNat))]) := by
        unfold Hid
        rw [val1617]
        exact Lies.new1 wr _ _
      generalize UInt16.ofNat (p.toNat * 256 + q.toNat) = y at *
      obtain ⟨k1, hk1⟩ : ∃ k1, k + 1 = k1 := ⟨_, rfl⟩
      have HK1 := Lib.hid hk1
      have hk1b : k1 ≤ 100000 := by omega
      have HOW := Lib.hid (hown.out.alloc (.cells #[.int .u16 (IntKind.u16.wrap (IntKind.u16.wrap (IntKind.u16.wrap (p.toNat : Int) * 256) + IntKind.u16.wrap (q.toNat : Int)))] 37))
      clear hk1 hj1 t0 t1 t2
      go_wp2_with fail
      go_region_held3 (fun W => W.cell? ⟨w.heap.size, 1, none⟩ = some (.slice (some ad) v.length c) ∧ W.cell? (ad.add j) = some (.int .u8 (p.toNat : Int)) ∧ W.cell? (ad.add j1) = some (.int .u8 (q.toNat : Int)))
        (first | exact KC.out _ (below_drew hbel) | exact KC.out _ (below_drew (hbel.alloc hsz _)) | exact KC.out _ b8 | fail)
        (first
        | (refine step_append17 rfl (.tmp 27) (.tmp 43) 36 rfl w1.heap.size 37 (.int .u16 0) 2 Tryz.underlying36 u16info rfl _ k _ (by rfl) (World.ownsRow.drew HOW.out) _ (some ⟨wr.heap.size, 0, none⟩) 1 1 [hv y] (by rfl) (by rfl) HH.out (by intro u hu; rw [List.mem_singleton.1 hu]; rfl) k1 HK1.out (by omega) (by unfold maxLen; omega) (by simp; omega) ?_; intro A8 c8 w8 own8 grow8; have b8 : Below w1.heap.size w1 w8 := (below_drew (hbel.alloc hsz _)).grown grow8 (by simp; omega) (fun q e => (hown.out.lt q e).1))
        | fail)
      have H8 : Hid (w8.ownsRow w1.heap.size 37 1 (.slice A8 k1 c8) k1 ((Z.take k1).map hv)) := by
        unfold Hid
        rw [← HK1.out, HZ.out, List.map_append, HK1.out]
        exact own8
      have hj2 : Hid (j + 2 = 4 + 2 * k1) := by have h1 := hj.out; have h2 := HK1.out; unfold Hid; omega
      clear own8 grow8
      go_wp2_with fail
      go_roundw
      case rel => exact ⟨k1, j + 2, A8, c8, by have := HK1.out; omega, by go_num, hj2, rfl, H8, b8⟩
      case measure => simp [intOf]; omega
    · obtain rfl : k = m := by omega
      have hi1 : ¬ (j : Int) < (v.length : Int) := by have h1 := HM.out; have h2 := hj.out; omega
      have HE : Hid (Lies wr wr.heap.size A2 (Z.map hv)) := by
        have h1 := hown.out
        rw [List.take_of_length_le (by have := HPL.out; omega)] at h1
        exact Lies.own h1
      clear hown
      go_wp2_with fail
      go_ret
      exact ⟨A2, ⟨c2, by rw [HPL.out]; rfl⟩, HE.out, HB1.out.trans (hbel.mono HB1.out.size)⟩
set_option maxRecDepth 100000 in
set_option maxHeartbeats 8000000 in
theorem rstreams17_any (n : Nd) (hf : Fine n) (A : Option Addr) (c : Nat) (K : Option Addr) (k : Nat) (w : World) (h : Node w w.heap.size A c K k n) :
    Calls Tryz.prog 53 #[ndV n A c K k] w fun e w' => ∃ A' c', e = .returned (.slice A' (strOf n).length c') ∧ Lies w' w'.heap.size A' ((strOf n).map hv) ∧ Below w.heap.size w w' := by
  by_cases hsb : seqB n = true
  · by_cases h13 : n.t = 13
    · rw [strOf_13 hsb h13]
      obtain ⟨t, v, ks⟩ := n
      have h13' : t = 13 := h13
      subst h13'
      exact rstr17_13 v ks hf hsb A c K k w h
    · by_cases h14 : n.t = 14
      · rw [strOf_14 hsb h14]
        obtain ⟨t, v, ks⟩ := n
        have h14' : t = 14 := h14
        subst h14'
        exact rstr17_14 v ks hf hsb A c K k w h
      · have ht : (14 : Int) < (n.t.toNat : Int) := by
          rcases isT_or (seqB_parts hsb).1 with e | e | e | e | e | e
          · exact absurd e h13
          · exact absurd e h14
          all_goals
            rw [e]
            decide
        rw [strOf_else h13 h14]
        have b0 : Below w.heap.size w (w.alloc (.cells #[hv n.t, .slice A n.v.length c, .slice K n.ks.length k] 76)) := (Below.refl _ w).alloc (Nat.le_refl _) _
        have x0 := Whole.new w 76 #[hv n.t, .slice A n.v.length c, .slice K n.ks.length k]
        have hI := ris17_any n hf A c K k _ (h.on b0)
        have hs0 : (w.alloc (.cells #[hv n.t, .slice A n.v.length c, .slice K n.ks.length k] 76)).heap.size = w.heap.size + 1 := by simp
        rw [hsb] at hI
        unfold ndV at hI ⊢
        clear h hf hsb h13 h14
        generalize n.v.length = lv at *
        generalize n.ks.length = lk at *
        generalize n.t = t at *
        go_enter Tryz.func53, Tryz.ntmps53
        go_upto_region 2 with fail
        generalize w.alloc (.cells #[hv t, .slice A lv c, .slice K lk k] 76) = wa at *
        obtain ⟨q0, q1, q2⟩ := wh317 x0
        go_wp2_with fail
        refine hI.mono ?_
        rintro e w1 ⟨rfl, b1⟩
        have B1 := Lib.hid (b0.trans (b1.mono (by omega)))
        have x1 := x0.below b1 (by omega)
        clear hI q0 q1 q2 x0 b0 b1
        obtain ⟨q0, q1, q2⟩ := wh317 x1
        go_wp2_with fail
        go_ret
        exact ⟨none, 0, rfl, Lies.nil, B1.out⟩
  · have hsf : seqB n = false := by simpa using hsb
    rw [strOf_no hsf]
    have b0 : Below w.heap.size w (w.alloc (.cells #[hv n.t, .slice A n.v.length c, .slice K n.ks.length k] 76)) := (Below.refl _ w).alloc (Nat.le_refl _) _
    have x0 := Whole.new w 76 #[hv n.t, .slice A n.v.length c, .slice K n.ks.length k]
    have hI := ris17_any n hf A c K k _ (h.on b0)
    have hs0 : (w.alloc (.cells #[hv n.t, .slice A n.v.length c, .slice K n.ks.length k] 76)).heap.size = w.heap.size + 1 := by simp
    rw [hsf] at hI
    unfold ndV at hI ⊢
    clear h hf hsb hsf
    generalize n.v.length = lv at *
    generalize n.ks.length = lk at *
    generalize n.t = t at *
    go_enter Tryz.func53, Tryz.ntmps53
    go_upto_region 2 with fail
    generalize w.alloc (.cells #[hv t, .slice A lv c, .slice K lk k] 76) = wa at *
    obtain ⟨q0, q1, q2⟩ := wh317 x0
    go_wp2_with fail
    refine hI.mono ?_
    rintro e w1 ⟨rfl, b1⟩
    have B1 := Lib.hid (b0.trans (b1.mono (by omega)))
    clear hI q0 q1 q2 x0 b0 b1
    go_wp2_with fail
    go_ret
    exact ⟨none, 0, rfl, Lies.nil, B1.out⟩
set_option maxRecDepth 100000 in
set_option maxHeartbeats 4000000 in
theorem requal17_self (l : List UInt16) (A A' : Option Addr) (c c' : Nat) (w : World) (h : Lies w w.heap.size A (l.map hv)) (h' : Lies w w.heap.size A' (l.map hv)) (hl : l.length ≤ 1000000) :
    Calls Tryz.prog 51 #[.slice A l.length c, .slice A' l.length c'] w fun e w' => e = .returned (.bool true) ∧ Below w.heap.size w w' := by
  have hne : ((l.length : Int) != (l.length : Int)) = false := by simp
  go_enter Tryz.func51, Tryz.ntmps51
  go_upto_region 4 with fail
  clear hne
  go_loopw [5] (fun i wr => ∃ k : Nat, k ≤ l.length ∧ i = .int .i64 (k : Int) ∧ Below w.heap.size w wr) (fun i _ => l.length - (intOf i).toNat)
  case atStart => exact ⟨0, Nat.zero_le _, rfl, Below.refl _ _⟩
  case round =>
    obtain ⟨k, hk, rfl, hbel⟩ := hrel
    by_cases hlt : k < l.length
    · obtain ⟨ad, x, rfl, hb, hx, hc0⟩ := (h.below hbel).of_map (f := hv) hlt
      obtain ⟨ad', y, rfl, hb', hy, hc1⟩ := (h'.below hbel).of_map (f := hv) hlt
      obtain rfl : x = y := by have h1 := hx.out; rw [hy.out] at h1; cases h1; rfl
      have hi1 : (k : Int) < (l.length : Int) := by omega
      have hne : ((x.toNat : Int) != (x.toNat : Int)) = false := by simp
      have hbd := below_drew hbel
      clear hx hy
      go_upto_region 6 with fail
      go_region_held3 (fun W => W.cell? (ad.add k) = some (hv x) ∧ W.cell? (ad'.add k) = some (hv x))
        (exact ⟨hc0, hc1⟩) (fail)
      go_wp2_with fail
      go_roundw
      case rel => exact ⟨k + 1, by omega, by go_num, hbd⟩
      case measure => simp [intOf]; omega
    · obtain rfl : k = l.length := by omega
      have hi1 : ¬ (l.length : Int) < (l.length : Int) := by omega
      go_wp2_with fail
      go_ret
      exact ⟨rfl, hbel⟩
end Go.Proofs.YtmohbkniekeafaaGreatDoor







namespace Go.Proofs.YtmohbkniekeafaaGreatDoor
open Go.RowKit

set_option linter.unusedSimpArgs false
theorem wid_take {s : List UInt16} {k : Nat} {x : UInt16} (h : s[k]? = some x) : wid (s.take (k + 1)) = wid (s.take k) ++ [u32of x.toNat] := by
  unfold wid
  rw [take_some h, List.map_append]
  rfl
theorem puts_app17 (k : Nat) (l m : List UInt32) : puts k (l ++ m) = puts k l ++ puts k m := by simp [puts]
theorem u8wrap17 (n : Nat) : IntKind.u8.wrap (n : Int) = ((UInt8.ofNat n).toNat : Int) := by
  rw [UInt8.toNat_ofNat']
  unfold IntKind.wrap IntKind.bits
  simp [IntKind.signed]
theorem two17 (x : UInt16) : puts 2 [u32of x.toNat] = [UInt8.ofNat (x.toNat / 256), UInt8.ofNat x.toNat] := by
  have hx := x.toNat_lt
  have h := u32of_toNat (n := x.toNat) (by omega)
  have : List.range 2 = [0, 1] := rfl
  unfold puts be beByte
  rw [this]
  have e : (u32of x.toNat).toUInt8 = x.toUInt8 := UInt8.toNat_inj.1 (by simp [h])
  simp [h, e]
theorem two17v (x : UInt16) : [Value.int .u8 (IntKind.u8.wrap ((x.toNat : Int) / 256)), Value.int .u8 (IntKind.u8.wrap (x.toNat : Int))] = (puts 2 [u32of x.toNat]).map bv := by
  rw [two17, show ((x.toNat : Int) / 256) = ((x.toNat / 256 : Nat) : Int) by omega, u8wrap17, u8wrap17]
  rfl
set_option maxRecDepth 100000 in
set_option maxHeartbeats 8000000 in
theorem rbuild17_any (t : UInt16) (l : List UInt32) (s : List UInt16) (Al : Option Addr) (cl : Nat) (As : Option Addr) (cs : Nat) (w : World) (hl : Lies w w.heap.size Al (l.map uv)) (hs : Lies w w.heap.size As (s.map hv)) (hll : l.length ≤ 10000) (hsl : s.length ≤ 10000) :
    Calls Tryz.prog 45 #[hv t, .slice Al l.length cl, .slice As s.length cs] w fun e w' => Below w.heap.size w w' ∧ ∃ A' c', e = .returned (.agg #[hv t, .slice A' (l.length * 4 + s.length * 2) c', .slice none 0 0]) ∧
      w'.ownsRow w.heap.size 5 1 (.slice A' (l.length * 4 + s.length * 2) c') (l.length * 4 + s.length * 2) ((puts 4 l ++ puts 2 (wid s)).map bv) := by
  have b0 : Below w.heap.size w (w.alloc (.cells #[.int .u16 0, .slice none 0 0, .slice none 0 0] 76)) := (Below.refl _ w).alloc (Nat.le_refl _) _
  have r0 := Whole.new w 76 #[.int .u16 0, .slice none 0 0, .slice none 0 0]
  have hs0 : w.heap.size + 1 = (w.alloc (.cells #[.int .u16 0, .slice none 0 0, .slice none 0 0] 76)).heap.size := by simp
  have hP : Calls Tryz.prog 77 #[.int .i64 4, .slice Al l.length cl] (w.alloc (.cells #[.int .u16 0, .slice none 0 0, .slice none 0 0] 76)) fun e w' => ∃ A' c', e = .returned (.slice A' (l.length * 4) c') ∧ w'.ownsRow (w.alloc (.cells #[.int .u16 0, .slice none 0 0, .slice none 0 0] 76)).heap.size 5 1 (.slice A' (l.length * 4) c') (l.length * 4) ((puts 4 l).map bv) ∧ Below (w.alloc (.cells #[.int .u16 0, .slice none 0 0, .slice none 0 0] 76)).heap.size (w.alloc (.cells #[.int .u16 0, .slice none 0 0, .slice none 0 0] 76)) w' :=
    rput_any 4 (.inr (.inr rfl)) Al cl l _ ((hl.below b0).more b0.size) (by omega)
  have HSL := Lib.hid hs
  have hlp := puts_len 4 l
  clear hl hs
  generalize hP0 : puts 4 l = P0 at *
  clear hP0
  generalize hn0 : l.length * 4 = n0 at *
  have hnb : n0 ≤ 40000 := by omega
  clear hn0 hlp
  go_enter Tryz.func45, Tryz.ntmps45
  go_upto_region 1 with fail
  generalize w.alloc (.cells #[.int .u16 0, .slice none 0 0, .slice none 0 0] 76) = wa at *
  go_wp2_with fail
  refine hP.mono ?_
  rintro e w1 ⟨A1, c1, rfl, o1, b1⟩
  have B1 := b0.trans (b1.mono (by omega))
  have r1 := r0.below b1 (by omega)
  have O1 := own_base o1 (show w.heap.size ≤ wa.heap.size by omega)
  have hz1 := r1.lt
  clear hP o1 r0 b0 b1 hs0
  go_upto_region 2 with fail
  have b2 := B1.alloc B1.size (.cells #[hv t, .slice A1 n0 c1, .slice none 0 0] 76)
  have x2 := Whole.new w1 76 #[hv t, .slice A1 n0 c1, .slice none 0 0]
  have r2 := r1.alloc (.cells #[hv t, .slice A1 n0 c1, .slice none 0 0] 76)
  have O2 := Lib.hid (O1.alloc (.cells #[hv t, .slice A1 n0 c1, .slice none 0 0] 76))
  generalize w1.alloc (.cells #[hv t, .slice A1 n0 c1, .slice none 0 0] 76) = w2 at *
  generalize w1.heap.size = g at *
  clear B1 r1 O1
  go_upto_region 3 with fail
  go_loopw [8] (fun i wr => ∃ (k : Nat) (A' : Option Addr) (c' : Nat), k ≤ s.length ∧ i = .int .i64 (k : Int) ∧ Hid (Whole wr g 76 #[hv t, .slice A' (n0 + k * 2) c', .slice none 0 0]) ∧ Hid (wr.ownsRow w.heap.size 5 1 (.slice A' (n0 + k * 2) c') (n0 + k * 2) ((P0 ++ puts 2 (wid (s.take k))).map bv)) ∧ Hid (Whole wr w.heap.size 76 #[.int .u16 0, .slice none 0 0, .slice none 0 0]) ∧ Below w.heap.size w wr) (fun i _ => s.length - (intOf i).toNat)
  case atStart => exact ⟨0, A1, c1, Nat.zero_le _, rfl, x2, by
    have e : P0 ++ puts 2 (wid (s.take 0)) = P0 := by simp [wid, puts]
    rw [e]
    exact O2.out, r2, b2⟩
  case round =>
    obtain ⟨k, A2, c2, hk, rfl, hX, hO, hY, hbel⟩ := hrel
    have hsz := hbel.size
    clear x2 r2 O2
    by_cases hlt : k < s.length
    · obtain ⟨ad, x, rfl, hb, hx, hc0⟩ := (HSL.out.below hbel).of_map (f := hv) hlt
      have hi1 : (k : Int) < (s.length : Int) := by omega
      have HT : Hid (P0 ++ puts 2 (wid (s.take (k + 1))) = (P0 ++ puts 2 (wid (s.take k))) ++ puts 2 [u32of x.toNat]) := Lib.hid (by rw [wid_take hx.out, puts_app17, List.append_assoc])
      have KC : Hid (∀ V, Below w.heap.size wr V → V.cell? (ad.add k) = some (hv x)) := Lib.hid (fun V hV => (hV.cell (p := ad.add k) (by rw [blk_add]; exact hb)).trans hc0)
      have l0 := (wh317 hX.out).2.1
      have l0d : wr.drew.cell? ⟨g, 1, none⟩ = some (.slice A2 (n0 + k * 2) c2) := l0
      have hgw : g < wr.heap.size := hX.out.lt
      have bA : Below w.heap.size wr (wr.alloc (.cells #[.int .u8 (IntKind.u8.wrap ((x.toNat : Int) / 256)), .int .u8 (IntKind.u8.wrap (x.toNat : Int))] 5)) := (Below.refl _ wr).alloc hsz _
      have l0a : (wr.alloc (.cells #[.int .u8 (IntKind.u8.wrap ((x.toNat : Int) / 256)), .int .u8 (IntKind.u8.wrap (x.toNat : Int))] 5)).cell? ⟨g, 1, none⟩ = some (.slice A2 (n0 + k * 2) c2) := (wh317 (hX.out.alloc _)).2.1
      have xA := Lib.hid (hX.out.alloc (.cells #[.int .u8 (IntKind.u8.wrap ((x.toNat : Int) / 256)), .int .u8 (IntKind.u8.wrap (x.toNat : Int))] 5))
      have yA := Lib.hid (hY.out.alloc (.cells #[.int .u8 (IntKind.u8.wrap ((x.toNat : Int) / 256)), .int .u8 (IntKind.u8.wrap (x.toNat : Int))] 5))
      have oA := Lib.hid (hO.out.alloc (.cells #[.int .u8 (IntKind.u8.wrap ((x.toNat : Int) / 256)), .int .u8 (IntKind.u8.wrap (x.toNat : Int))] 5))
      have HL : Hid (Lies (wr.alloc (.cells #[.int .u8 (IntKind.u8.wrap ((x.toNat : Int) / 256)), .int .u8 (IntKind.u8.wrap (x.toNat : Int))] 5)) (wr.heap.size + 1) (some ⟨wr.heap.size, 0, none⟩) ((puts 2 [u32of x.toNat]).map bv)) := Lib.hid (by
        rw [← two17v]
        exact Lies.newN wr [.int .u8 (IntKind.u8.wrap ((x.toNat : Int) / 256)), .int .u8 (IntKind.u8.wrap (x.toNat : Int))] 5)
      have HPN : Hid (((puts 2 [u32of x.toNat]).map bv).length = 2) := Lib.hid (by rw [List.length_map, puts_len]; rfl)
      have HON : Hid (∀ u ∈ (puts 2 [u32of x.toNat]).map bv, u.oneCell' = true) := Lib.hid (by intro u hu; obtain ⟨_, _, rfl⟩ := List.mem_map.1 hu; rfl)
      generalize puts 2 [u32of x.toNat] = PX at *
      clear hx hc0
      go_upto_region 5 with fail
      have c0d : wr.drew.cell? (ad.add k) = some (hv x) := KC.out _ (below_drew (Below.refl _ _))
      have l0b : (wr.drew.alloc (.cells #[.int .u8 (IntKind.u8.wrap ((x.toNat : Int) / 256)), .int .u8 (IntKind.u8.wrap (x.toNat : Int))] 5)).cell? ⟨g, 1, none⟩ = some (.slice A2 (n0 + k * 2) c2) := l0a
      go_region_law
        (first
        | (refine step_append17 rfl (.tmp 20) (.tmp 32) 41 rfl w.heap.size 5 (.int .u8 0) 1 Tryz.underlying41 u8info rfl _ (n0 + k * 2) _ (by rfl) (World.ownsRow.drew oA.out) _ (some ⟨wr.heap.size, 0, none⟩) 2 2 (PX.map bv) (by rfl) HPN.out HL.out HON.out (n0 + k * 2 + 2) rfl (by omega) (by unfold maxLen; omega) (by simp; omega) ?_; intro A8 c8 w8 own8 grow8; have b8 : Below w.heap.size wr w8 := (below_drew bA).grown grow8 (by simp; omega) (fun q e => (oA.out.lt q e).1); have x8 : Whole w8 g 76 #[hv t, .slice A2 (n0 + k * 2) c2, .slice none 0 0] := (Whole.drew xA.out).grown grow8 (fun e => whole_row_ne13 xA.out (by decide) oA.out e.symm); have y8 : Whole w8 w.heap.size 76 #[.int .u16 0, .slice none 0 0, .slice none 0 0] := (Whole.drew yA.out).grown grow8 (fun e => whole_row_ne13 yA.out (by decide) oA.out e.symm); have f8 := x8.frozen 1; have l8 := (wh317 x8).2.1; have hg8 : w.heap.size ≤ g := by omega)
        | fail)
      all_goals
        have x9 := x8.set_ 1 (.slice A8 (n0 + k * 2 + 2) c8)
        have y9 := y8.far (p := ⟨g, 1, none⟩) (by show w.heap.size ≠ g; omega) (.slice A8 (n0 + k * 2 + 2) c8)
        have o9 := own_set13 (i := 1) (u := .slice A8 (n0 + k * 2 + 2) c8) own8 x8 (by decide)
        have b9 := (hbel.trans b8).setCell (p := ⟨g, 1, none⟩) hg8 (.slice A8 (n0 + k * 2 + 2) c8)
        have X9 : Hid (Whole _ g 76 #[hv t, .slice A8 (n0 + (k + 1) * 2) c8, .slice none 0 0]) := Lib.hid (by rw [show n0 + (k + 1) * 2 = n0 + k * 2 + 2 by omega]; exact x9)
        have O9 : Hid (World.ownsRow _ w.heap.size 5 1 (.slice A8 (n0 + (k + 1) * 2) c8) (n0 + (k + 1) * 2) ((P0 ++ puts 2 (wid (s.take (k + 1)))).map bv)) := Lib.hid (by rw [HT.out, List.map_append, show n0 + (k + 1) * 2 = n0 + k * 2 + 2 by omega]; exact o9)
        clear x9 o9 own8 grow8 x8 y8 l0 l0d l0a f8 l8
        go_wp2_with fail
        go_roundw
        case rel => exact ⟨k + 1, A8, c8, by omega, by go_num, X9, O9, y9, b9⟩
        case measure => simp [intOf]; omega
    · obtain rfl : k = s.length := by omega
      have hi1 : ¬ (s.length : Int) < (s.length : Int) := by omega
      rw [List.take_length, List.map_append] at hO
      have hy := hY.out
      obtain ⟨q0, q1, q2⟩ := wh317 hX.out
      obtain ⟨u0, u1, u2⟩ := wh317 hy
      have f0 := hy.frozen 0
      have f1 := hy.frozen 1
      have f2 := hy.frozen 2
      clear hX
      go_wp2_with fail
      refine bodyPost_ret (results_row13 rfl _ _ w.heap.size 76 _ _ rfl (((hy.set_ 0 _).set_ 1 _).set_ 2 _) Tryz.underlying76 rfl (by kernel_rfl)) rfl ?_
      refine ⟨((hbel.setCell (p := ⟨w.heap.size, 0, none⟩) (Nat.le_refl _) _).setCell (p := ⟨w.heap.size, 1, none⟩) (Nat.le_refl _) _).setCell (p := ⟨w.heap.size, 2, none⟩) (Nat.le_refl _) _, A2, c2, rfl, ?_⟩
      exact own_set13 (own_set13 (own_set13 hO.out hy (by decide)) (hy.set_ 0 _) (by decide)) ((hy.set_ 0 _).set_ 1 _) (by decide)
theorem node_one17 {w : World} {g : Nat} {n : Nd} {A : Option Addr} {c : Nat} {K : Option Addr} {k : Nat} (hx : Whole w g 76 #[hv n.t, .slice A n.v.length c, .slice K n.ks.length k]) (h : Node w w.heap.size A c K k n) : Nodes w w.heap.size (some ⟨g, 0, none⟩) [n] := by
  refine .mk [hv n.t, .slice A n.v.length c, .slice K n.ks.length k] (fun _ => K) (fun _ => k) (fun _ => ⟨_, rfl, hx.lt, fun j x hj => ?_⟩) rfl (fun i m hm => ?_) (fun i m hm => ?_)
  · rw [add_row, hx.cell, List.getElem?_toArray]
    exact hj
  · match i, hm with
    | 0, hm =>
      simp only [List.getElem?_cons_zero, Option.some.injEq] at hm
      subst hm
      exact ⟨rfl, ⟨_, rfl, A, c, rfl, h.data, h.dc, h.dm⟩, rfl, h.kc, h.km⟩
    | i + 1, hm => simp at hm
  · match i, hm with
    | 0, hm =>
      simp only [List.getElem?_cons_zero, Option.some.injEq] at hm
      subst hm
      exact h.kids
    | i + 1, hm => simp at hm
set_option maxRecDepth 100000 in
set_option maxHeartbeats 4000000 in
theorem same17_any (a b : Nd) (A : Option Addr) (c : Nat) (K : Option Addr) (k : Nat) (A' : Option Addr) (c' : Nat) (K' : Option Addr) (k' : Nat) (w : World) (ha : Node w w.heap.size A c K k a) (hb : Node w w.heap.size A' c' K' k' b) :
    Calls Tryz.prog 46 #[ndV a A c K k, ndV b A' c' K' k'] w fun e w' => e = .returned (.bool (beqL [a] [b])) ∧ Below w.heap.size w w' := by
  have b0 : Below w.heap.size w ((w.alloc (.cells #[hv a.t, .slice A a.v.length c, .slice K a.ks.length k] 76)).alloc (.cells #[hv b.t, .slice A' b.v.length c', .slice K' b.ks.length k'] 76)) := ((Below.refl _ w).alloc (Nat.le_refl _) _).alloc (by simp) _
  have x0 := (Whole.new w 76 #[hv a.t, .slice A a.v.length c, .slice K a.ks.length k]).alloc (.cells #[hv b.t, .slice A' b.v.length c', .slice K' b.ks.length k'] 76)
  have y0 := Whole.new (w.alloc (.cells #[hv a.t, .slice A a.v.length c, .slice K a.ks.length k] 76)) 76 #[hv b.t, .slice A' b.v.length c', .slice K' b.ks.length k']
  rw [World.size_alloc] at y0
  have HAn := Lib.hid (fun (V : World) (hV : Below w.heap.size w V) => ha.on hV)
  have HBn := Lib.hid (fun (V : World) (hV : Below w.heap.size w V) => hb.on hV)
  have HW1 := Lib.hid (fun (V : World) (g : Nat) (hx : Whole V g 76 #[hv a.t, .slice A a.v.length c, .slice K a.ks.length k]) (hN : Node V V.heap.size A c K k a) => node_one17 hx hN)
  have HW2 := Lib.hid (fun (V : World) (g : Nat) (hx : Whole V g 76 #[hv b.t, .slice A' b.v.length c', .slice K' b.ks.length k']) (hN : Node V V.heap.size A' c' K' k' b) => node_one17 hx hN)
  have HSM := Lib.hid (fun (V : World) (g g' : Nat) (h1 : Nodes V V.heap.size (some ⟨g, 0, none⟩) [a]) (h2 : Nodes V V.heap.size (some ⟨g', 0, none⟩) [b]) => rsame_any [a] [b] (some ⟨g, 0, none⟩) (some ⟨g', 0, none⟩) 1 1 V h1 h2 (by simp) (by simp))
  unfold ndV
  generalize beqL [a] [b] = r at *
  clear ha hb
  generalize a.v.length = la at *
  generalize b.v.length = lb at *
  generalize a.ks.length = ka at *
  generalize b.ks.length = kb at *
  generalize a.t = ta at *
  generalize b.t = tb at *
  obtain ⟨q0, q1, q2⟩ := wh317 x0
  obtain ⟨u0, u1, u2⟩ := wh317 y0
  have hs0 : w.heap.size + 2 = ((w.alloc (.cells #[hv ta, .slice A la c, .slice K ka k] 76)).alloc (.cells #[hv tb, .slice A' lb c', .slice K' kb k'] 76)).heap.size := by simp
  have HS0 := Lib.hid hs0
  clear hs0
  go_enter Tryz.func46, Tryz.ntmps46
  go_upto_region 1 with fail
  generalize (w.alloc (.cells #[hv ta, .slice A la c, .slice K ka k] 76)).alloc (.cells #[hv tb, .slice A' lb c', .slice K' kb k'] 76) = wa at *
  have b2 : Below wa.heap.size wa ((wa.alloc (.cells #[hv ta, .slice A la c, .slice K ka k] 76)).alloc (.cells #[hv tb, .slice A' lb c', .slice K' kb k'] 76)) := ((Below.refl _ wa).alloc (Nat.le_refl _) _).alloc (by simp) _
  have x2 := (Whole.new wa 76 #[hv ta, .slice A la c, .slice K ka k]).alloc (.cells #[hv tb, .slice A' lb c', .slice K' kb k'] 76)
  have y2 := Whole.new (wa.alloc (.cells #[hv ta, .slice A la c, .slice K ka k] 76)) 76 #[hv tb, .slice A' lb c', .slice K' kb k']
  rw [World.size_alloc] at y2
  have x1 := (Whole.new wa 76 #[hv ta, .slice A la c, .slice K ka k])
  have y1a := y0.alloc (.cells #[hv ta, .slice A la c, .slice K ka k] 76)
  obtain ⟨v0, v1, v2⟩ := wh317 y1a
  have hsz := HS0.out
  have hB2 := b0.trans (b2.mono (by omega))
  have hS := HSM.out _ _ _ (HW1.out _ _ x2 (HAn.out _ hB2)) (HW2.out _ _ y2 (HBn.out _ hB2))
  have HS := Lib.hid hS
  have HB2 := Lib.hid hB2
  clear hS hB2 b2 x2 y2 x1 y1a x0 y0 b0 hsz HS0 HSM HW1 HW2 HAn HBn
  go_wp2_with fail
  refine HS.out.mono ?_
  rintro e w3 ⟨rfl, b3⟩
  go_wp2_with fail
  go_ret
  exact ⟨rfl, HB2.out.trans (b3.mono HB2.out.size)⟩
end Go.Proofs.YtmohbkniekeafaaGreatDoor


