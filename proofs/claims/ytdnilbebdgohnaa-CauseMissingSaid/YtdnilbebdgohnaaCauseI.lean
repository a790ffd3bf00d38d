/- Layer 10, the reference: Missing, Types. They write nothing that was there. -/
import Derived.Test.YtdnilbebdgohnaaCauseEF
import Derived.Test.YtdnilbebdgohnaaNodeRB
import Derived.Test.YtdnilbebdgohnaaNodeUO
import Derived.Deep.RegionHeld3




namespace Go.Proofs.Ytdnilbebdgohnaa
open Go.RowKit

theorem two_bytes (x : UInt16) : be 2 (wideT x) = [UInt8.ofNat (x.toNat / 256), UInt8.ofNat x.toNat] := by
  rw [be2]
  unfold wideT
  rw [u32_nat (by have := x.toNat_lt; omega)]
theorem dM_take {l : List UInt16} {k : Nat} {x : UInt16} (hx : l[k]? = some x) : puts 2 ((l.take (k + 1)).map wideT) = puts 2 ((l.take k).map wideT) ++ [UInt8.ofNat (x.toNat / 256), UInt8.ofNat x.toNat] := by
  rw [take_some hx, List.map_append]
  unfold puts
  rw [List.flatMap_append]
  show _ ++ (be 2 (wideT x) ++ []) = _
  rw [two_bytes, List.append_nil]
theorem head4 {n : Nat} (h : n < 65536) : be 4 (UInt32.ofNat n) = [0, 0, UInt8.ofNat (n / 256), UInt8.ofNat (n % 256)] := by
  rw [be4, u32_nat (by omega), show n / 16777216 = 0 by omega, show n / 65536 = 0 by omega, u8_mod]
  rfl
/-- append at a step of a region that draws, the new length under a name -/
theorem step_append_c {P : Program} {w : World} {ops : Array Oper} {o : Oper} {a : Act} {K : Act → World → Prop} {Q : Exit → Act → World → Prop} {E : Prop} (hgd : o.guard = none) (s x : Operand) (t : TypeId)
    (ho : o.op = .call { callee := .builtin .append, args := #[s, x], argTypes := #[t, t] })
    (base : Nat) (e : TypeId) (z : Value) (bytes : Nat) (ht : P.underlying t = some (.slice e)) (hi : (P.info? e).map (fun i => (i.zero, i.size, i.bytes)) = some (some z, 1, bytes))
    (hzs : z.cells.size = 1) (v : Value) (n : Nat) (xs : List Value) (hs : a.eval s = v) (hown : w.ownsRow base e 1 v n xs)
    (B : Nat) (A : Option Addr) (m c : Nat) (news : List Value) (hx : a.eval x = .slice A m c) (hm : news.length = m) (hl : Lies w B A news) (h1 : ∀ u ∈ news, u.oneCell' = true)
    (L : Nat) (hL : n + m = L) (hbytes : L * bytes ≤ 140737488355328) (h63 : L ≤ maxLen) (hbase : base ≤ w.heap.size)
    (h : ∀ A' c' w', w'.ownsRow base e 1 (.slice A' L c') L (xs ++ news) → w.grownBy w' v.ownBlock → K (a.put o.dst (.slice A' L c')) w') :
    if Region.wanted o (yielded ops a.tmps) = true then Oper.wp P o a w K Q else E := by
  have hw : Region.wanted o (yielded ops a.tmps) = true := by simp [Region.wanted, hgd]
  rw [if_pos hw]
  subst hL
  exact wp_append_lies w s x t ho base e z bytes ht hi hzs v n xs hs hown B A m c news hx hm hl h1 hbytes h63 hbase fun A' c' w' h2 h3 _ => h A' c' w' h2 h3
theorem whole_own_c {w : World} {base e g n : Nat} {xs : List Value} (h : Whole w g e xs.toArray) (hb : base ≤ g) (hn : xs.length = n) (hm : n ≤ maxLen) : w.ownsRow base e 1 (.slice (some ⟨g, 0, none⟩) n n) n xs :=
  ⟨by omega, .inr ⟨g, n, xs.toArray, rfl, hb, h, Nat.le_refl _, hm, by simp; omega, by rw [List.take_of_length_le (by simp; omega)]⟩⟩
theorem liesS_own {w : World} {base e n c : Nat} {A : Option Addr} {xs : List Value} (h : w.ownsRow base e 1 (.slice A n c) n xs) : LiesS w (fun b => base ≤ b ∧ b < w.heap.size) A xs := fun hne => by
  rcases h.2 with ⟨h1, h2⟩ | ⟨g, cap, cur, h1, h2, h3, _⟩
  · refine absurd (List.eq_nil_of_length_eq_zero ?_) hne
    rw [h.1, h2]
  · simp only [Value.slice.injEq] at h1
    obtain ⟨rfl, _, _⟩ := h1
    exact ⟨_, rfl, ⟨h2, (Array.getElem?_eq_some_iff.1 h3).1⟩, h.cells (g := g) rfl⟩
set_option maxRecDepth 100000 in
set_option maxHeartbeats 2000000 in
theorem rmissing10_any (A : Option Addr) (c : Nat) (l : List UInt16) (w : World) (h : Lies w w.heap.size A (l.map hv)) (hl : l.length ≤ 100000) :
    Calls Try.prog 20 #[.slice A l.length c] w (RetN w (missN l)) := by
  have hF0 := fin_new w
  have h0 := (h.below hF0.low).more hF0.low.size
  by_cases hbad : l.length = 0 ∨ 32763 < l.length
  · have HR : Hid (missN l = none) := by unfold Hid missN; rw [if_pos hbad]
    have hB := hF0.low
    have hbx := hF0.box
    have hbad' : (((l.length : Int) == 0) = true) ∨ (((l.length : Int) == 0) = false ∧ (32763 : Int) < (l.length : Int)) := by
      by_cases h1 : l.length = 0
      · exact .inl (by rw [h1]; rfl)
      · exact .inr ⟨by rw [beq_eq_false_iff_ne]; omega, by omega⟩
    clear hbad
    rcases hbad' with g1 | ⟨g1, g2⟩
    all_goals
      go_enter Try.func20, Try.ntmps20
      go_wp2_with fail
      (try simp only [Exit.then])
      refine bodyPost_ret (results_row_tmp rfl _ _ w.heap.size 28 _ _ rfl hbx Try.underlying28 rfl (by kernel_rfl)) rfl ?_
      rw [HR.out]
      exact RetN.zero hB
  · have g1 : ((l.length : Int) == 0) = false := by rw [beq_eq_false_iff_ne]; omega
    have g2 : ¬ (32763 : Int) < (l.length : Int) := by omega
    have hl2 : l.length ≤ 32763 := by omega
    have HR : Hid (missN l = some (.mk 2 (dM l) [])) := by unfold Hid missN; rw [if_neg hbad]
    obtain ⟨a, ha⟩ : ∃ a : UInt8, a = UInt8.ofNat (l.length / 256) := ⟨_, rfl⟩
    obtain ⟨b, hb⟩ : ∃ b : UInt8, b = UInt8.ofNat (l.length % 256) := ⟨_, rfl⟩
    have va : IntKind.u8.wrap ((l.length : Int) / 256) = (a.toNat : Int) := by rw [IntKind.wrap_u8', ha, ← u8_int]; omega
    have vb : IntKind.u8.wrap ((l.length : Int) % 256) = (b.toNat : Int) := by rw [IntKind.wrap_u8', hb, ← u8_int]; omega
    have va' : (l.length : Int) / 256 = (a.toNat : Int) := by rw [ha, ← u8_int]; omega
    have vb' : (l.length : Int) % 256 = (b.toNat : Int) := by rw [hb, ← u8_int]; omega
    have HD : Hid (dM l = [0, 0, a, b] ++ puts 2 (l.map wideT)) := by unfold Hid dM; rw [head4 (by omega), ha, hb]
    clear hbad ha hb
    go_enter Try.func20, Try.ntmps20
    go_upto_region 1 with fail
    generalize w.alloc (.cells #[.int .u16 0, .slice none 0 0, .slice none 0 0] 28) = w0 at *
    have hownN : (w0.alloc (.cells #[.int .u8 0, .int .u8 0, .int .u8 (a.toNat : Int), .int .u8 (b.toNat : Int)] 5)).ownsRow w0.heap.size 5 1 (.slice (some ⟨w0.heap.size, 0, none⟩) 4 4) 4 ([(0 : UInt8), 0, a, b].map bv) :=
      whole_own_c (xs := [(0 : UInt8), 0, a, b].map bv) (Whole.new w0 5 ([(0 : UInt8), 0, a, b].map bv).toArray) (Nat.le_refl _) rfl (by unfold maxLen; omega)
    have b1 : Below w0.heap.size w0 (w0.alloc (.cells #[.int .u8 0, .int .u8 0, .int .u8 (a.toNat : Int), .int .u8 (b.toNat : Int)] 5)) := (Below.refl _ _).alloc (Nat.le_refl _) _
    go_upto_region 4 with fail
    generalize w0.alloc (.cells #[.int .u8 0, .int .u8 0, .int .u8 (a.toNat : Int), .int .u8 (b.toNat : Int)] 5) = w1 at *
    generalize hA1 : (some (⟨w0.heap.size, 0, none⟩ : Addr)) = A1 at *
    clear hA1 va vb va' vb'
    have HO1 : Hid (w1.ownsRow w0.heap.size 5 1 (.slice A1 4 4) 4 (([0, 0, a, b] ++ puts 2 ((l.take 0).map wideT)).map bv)) := by simpa [Hid, puts] using hownN
    clear hownN g1 g2
    go_wp2_with fail
    go_loopw [4, 5] (fun v i wr => ∃ (k U : Nat) (A' : Option Addr) (c' : Nat), k ≤ l.length ∧ i = .int .i64 k ∧ v = .slice A' U c' ∧ Hid (U = 4 + 2 * k) ∧ U ≤ 100000 ∧ Hid (wr.ownsRow w0.heap.size 5 1 (.slice A' U c') U (([0, 0, a, b] ++ puts 2 ((l.take k).map wideT)).map bv)) ∧ Below w0.heap.size w0 wr) (fun _ i _ => l.length - (intOf i).toNat)
    case atStart => exact ⟨0, 4, A1, 4, Nat.zero_le _, rfl, rfl, rfl, by omega, HO1, b1⟩
    case round =>
      obtain ⟨k, U, A2, c2, hk, rfl, rfl, hU, hU2, hown, hbel⟩ := hrel
      have hsz := hbel.size
      by_cases hlt : k < l.length
      · obtain ⟨ad, x, rfl, hb, hx, hc0⟩ := (h0.below hbel).half hlt
        have KS : Hid (∀ V, Below w0.heap.size w0 V → V.cell? (ad.add k) = some (.int .u16 (x.toNat : Int))) := fun V hV => by
          obtain ⟨ad', x', q1, _, q2, q3⟩ := (h0.below hV).half hlt
          cases q1
          have := q2.out
          rw [hx.out] at this
          cases this
          exact q3
        have v1 : IntKind.u8.wrap ((x.toNat : Int) / 256) = ((UInt8.ofNat (x.toNat / 256)).toNat : Int) := by rw [IntKind.wrap_u8', ← u8_int]; omega
        have v2 : IntKind.u8.wrap (x.toNat : Int) = ((UInt8.ofNat x.toNat).toNat : Int) := by rw [IntKind.wrap_u8', ← u8_int]
        have HH : Hid (Lies (wr.alloc (.cells #[.int .u8 (IntKind.u8.wrap ((x.toNat : Int) / 256)), .int .u8 (IntKind.u8.wrap (x.toNat : Int))] 5)) (wr.heap.size + 1) (some ⟨wr.heap.size, 0, none⟩) ([UInt8.ofNat (x.toNat / 256), UInt8.ofNat x.toNat].map bv)) := by
          unfold Hid
          rw [v1, v2]
          exact Lies.newN wr ([UInt8.ofNat (x.toNat / 256), UInt8.ofNat x.toNat].map bv) 5
        have HT : Hid (([0, 0, a, b] ++ puts 2 ((l.take (k + 1)).map wideT)).map bv = ([0, 0, a, b] ++ puts 2 ((l.take k).map wideT)).map bv ++ [UInt8.ofNat (x.toNat / 256), UInt8.ofNat x.toNat].map bv) := by
          unfold Hid
          rw [dM_take hx.out, ← List.append_assoc, List.map_append]
        have HO2 := Lib.hid (one_bytes [UInt8.ofNat (x.toNat / 256), UInt8.ofNat x.toNat])
        obtain ⟨U2, hU2e⟩ : ∃ U2, U + 2 = U2 := ⟨_, rfl⟩
        have HU2 := Lib.hid hU2e
        have hU2b : U2 ≤ 100000 := by have := hU.out; omega
        have HOW := Lib.hid (hown.out.alloc (.cells #[.int .u8 (IntKind.u8.wrap ((x.toNat : Int) / 256)), .int .u8 (IntKind.u8.wrap (x.toNat : Int))] 5))
        clear v1 v2 hU2e
        have hi1 : (k : Int) < (l.length : Int) := by omega
        go_wp2_with fail
        go_region_held3 (fun W => W.cell? (ad.add k) = some (.int .u16 (x.toNat : Int)))
          (first | exact KS.out _ (below_drew hbel) | exact KS.out _ (below_drew (hbel.alloc hsz _)) | exact KS.out _ b8 | fail)
          (first
          | (refine step_append_c rfl (.tmp 30) (.tmp 42) 25 rfl w0.heap.size 5 (.int .u8 0) 1 Try.underlying25 u8info rfl _ U _ (by rfl) (World.ownsRow.drew HOW.out) _ (some ⟨wr.heap.size, 0, none⟩) 2 2 _ (by rfl) (by rfl) HH.out HO2.out U2 HU2.out (by omega) (by unfold maxLen; omega) (by simp; omega) ?_; intro A8 c8 w8 own8 grow8; have b8 : Below w0.heap.size w0 w8 := (below_drew (hbel.alloc hsz _)).grown grow8 (by simp; omega) (fun q e => (hown.out.lt q e).1))
          | fail)
        have H8 : Hid (w8.ownsRow w0.heap.size 5 1 (.slice A8 U2 c8) U2 (([0, 0, a, b] ++ puts 2 ((l.take (k + 1)).map wideT)).map bv)) := by
          unfold Hid
          rw [HT.out]
          exact own8
        have hUe : Hid (U2 = 4 + 2 * (k + 1)) := by have h1 := hU.out; have h2 := HU2.out; unfold Hid; omega
        clear own8 grow8
        go_wp2_with fail
        go_roundw
        case rel => exact ⟨k + 1, U2, A8, c8, by omega, by go_num, rfl, hUe, by omega, H8, b8⟩
        case measure => simp [intOf]; omega
      · obtain rfl : k = l.length := by omega
        have hO := hown.out
        rw [List.take_length] at hO
        have hFw := hF0.below hbel
        have hUd : U = (dM l).length := by rw [dM_len]; have := hU.out; omega
        rw [← HD.out] at hO
        have hN : NodeS wr (NewS w0 wr) A2 c2 none 0 (.mk 2 (dM l) []) := nodeS_leaf 2 (dM l) (liesS_own hO) (by rw [← hUd]; exact (own_cap hO).2.1) (own_cap hO).2.2
        obtain ⟨z10, z11, z12, z13, z14, z15⟩ := hFw.box.three
        obtain ⟨hE, hE2⟩ := hF0.ret (o := some (.mk 2 (dM l) [])) hbel hN
        simp only [Option.getD_some, Option.isSome_some, Nd.t, Nd.v, Nd.ks, List.length_nil] at hE hE2
        rw [← hUd] at hE hE2
        have HE := Lib.hid hE
        have HE2 := Lib.hid hE2
        clear hO hFw hN hE hE2 hUd hU hown
        go_wp2_with fail
        (try simp only [Exit.then])
        refine bodyPost_ret (results_row_tmp rfl _ _ w.heap.size 28 _ _ rfl HE2.out Try.underlying28 rfl (by kernel_rfl)) rfl ?_
        rw [HR.out]
        exact HE.out
end Go.Proofs.Ytdnilbebdgohnaa

