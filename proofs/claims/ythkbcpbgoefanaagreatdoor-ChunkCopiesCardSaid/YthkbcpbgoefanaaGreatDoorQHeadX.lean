/- Head + NodeX -/
import Derived.Test.YthkbcpbgoefanaaGreatDoorQTC
import Derived.Test.YthkbcpbgoefanaaGreatDoorQNodeAD
import Derived.Deep.RegionHeld3

namespace Go.Proofs.YthkbcpbgoefanaaGreatDoor
open Go.RowKit

theorem byte_val {x : Nat} {i : Int} (h : i = ((x % 256 : Nat) : Int)) : Value.int .u8 i = bv (UInt8.ofNat x) := by
  rw [bv, UInt8.toNat_ofNat', h]
theorem headB_list (t : UInt16) (n : Nat) (hn : n ≤ 65531) : headB t n = [UInt8.ofNat (t.toNat / 256), UInt8.ofNat t.toNat, UInt8.ofNat ((4 + n) / 256), UInt8.ofNat (4 + n)] := by
  have ht := t.toNat_lt
  have e1 : (u32of t.toNat).toNat = t.toNat := u32of_toNat (by omega)
  have e2 : (u32of (4 + n)).toNat = 4 + n := u32of_toNat (by omega)
  rw [headB_eq]
  simp [be, List.range, List.range.loop, beByte, e1, e2]
theorem head_vals (t : UInt16) (n : Nat) (hn : n ≤ 65531) : [Value.int .u8 (IntKind.u8.wrap ((t.toNat : Int) / 256)), .int .u8 (IntKind.u8.wrap (t.toNat : Int)),
    .int .u8 (IntKind.u8.wrap (IntKind.i64.wrap (Int.tdiv (4 + (n : Int)) 256))), .int .u8 (IntKind.u8.wrap (Int.tmod (4 + (n : Int)) 256))] = (headB t n).map bv := by
  have d1 : Int.tdiv (4 + (n : Int)) 256 = (((4 + n) / 256 : Nat) : Int) := by rw [Int.tdiv_eq_ediv_of_nonneg (by omega)]; omega
  have d2 : Int.tmod (4 + (n : Int)) 256 = (((4 + n) % 256 : Nat) : Int) := by rw [Int.tmod_eq_emod_of_nonneg (by omega)]; omega
  have v1 : IntKind.u8.wrap ((t.toNat : Int) / 256) = ((t.toNat / 256 % 256 : Nat) : Int) := by rw [IntKind.wrap_u8]; omega
  have v2 : IntKind.u8.wrap (t.toNat : Int) = ((t.toNat % 256 : Nat) : Int) := by rw [IntKind.wrap_u8]; omega
  have v3 : IntKind.u8.wrap (IntKind.i64.wrap (Int.tdiv (4 + (n : Int)) 256)) = (((4 + n) / 256 % 256 : Nat) : Int) := by
    have hq : (4 + n) / 256 ≤ 256 := by omega
    rw [d1]
    clear d1 d2 v1 v2
    generalize (4 + n) / 256 = q at *
    have hw : IntKind.i64.wrap (q : Int) = (q : Int) := by rw [IntKind.wrap_i64]; omega
    rw [hw, IntKind.wrap_u8]
    omega
  have v4 : IntKind.u8.wrap (Int.tmod (4 + (n : Int)) 256) = (((4 + n) % 256 : Nat) : Int) := by rw [d2, IntKind.wrap_u8]; omega
  rw [headB_list t n hn, byte_val v1, byte_val v2, byte_val v3, byte_val v4]
  rfl
/-- append at a step of a region that draws, the new length under a name -/
theorem step_append_to {P : Program} {w : World} {ops : Array Oper} {o : Oper} {a : Act} {K : Act → World → Prop} {Q : Exit → Act → World → Prop} {E : Prop} (hgd : o.guard = none) (s x : Operand) (t : TypeId)
    (ho : o.op = .call { callee := .builtin .append, args := #[s, x], argTypes := #[t, t] })
    (base : Nat) (e : TypeId) (z : Value) (bytes : Nat) (ht : P.underlying t = some (.slice e)) (hi : (P.info? e).map (fun i => (i.zero, i.size, i.bytes)) = some (some z, 1, bytes))
    (hzs : z.cells.size = 1) (v : Value) (n : Nat) (xs : List Value) (hs : a.eval s = v) (hown : w.ownsRow base e 1 v n xs)
    (B : Nat) (A : Option Addr) (m c : Nat) (news : List Value) (hx : a.eval x = .slice A m c) (hm : news.length = m) (hl : Lies w B A news) (h1 : ∀ u ∈ news, u.oneCell' = true)
    (L : Nat) (hL : n + m = L) (hbytes : L * bytes ≤ 140737488355328) (h63 : L ≤ maxLen) (hbase : base ≤ w.heap.size)
    (h : ∀ A' c' w', w'.ownsRow base e 1 (.slice A' L c') L (xs ++ news) → w.grownBy w' v.ownBlock → K (a.put o.dst (.slice A' L c')) w') :
    if Region.wanted o (yielded ops a.tmps) = true then Oper.wp P o a w K Q else E := by
  have hw : Region.wanted o (yielded ops a.tmps) = true := by simp [Region.wanted, hgd]
  rw [if_pos hw]
  subst hL
  exact wp_append_lies w s x t ho base e z bytes ht hi hzs v n xs hs hown B A m c news hx hm hl h1 hbytes h63 hbase fun A' c' w' h2 h3 _ => h A' c' w' h2 h3
end Go.Proofs.YthkbcpbgoefanaaGreatDoor




namespace Go.Proofs.YthkbcpbgoefanaaGreatDoor
open Go.RowKit

def RBytesOK (ns : List Nd) : Prop := ∀ (A : Option Addr) (c : Nat) (w : World), Nodes w w.heap.size A ns → ns.length ≤ 1000 → sizes (lens ns) ≤ 9000000 → (∀ n ∈ ns, FitN n) →
  Calls Tryz.prog 74 #[.slice A ns.length c] w (JnR w (jn (frs ns)))
set_option maxRecDepth 100000 in
set_option maxHeartbeats 8000000 in
theorem rbytes8_step (ns : List Nd) (ih : ∀ n ∈ ns, n.ks.length ≤ 1000 → RBytesOK n.ks) (hk : ∀ n ∈ ns, n.ks.length ≤ 1000) : RBytesOK ns := by
  intro A c w h hn hsz hft
  have HSZ : Hid (∀ k, (jn (frs (ns.take k))).length ≤ 9000000) := fun k => by
    rw [jnf_len, lens_map, List.map_take, ← lens_map]
    exact Nat.le_trans sizes_mono hsz
  unfold JnR
  have HI := Lib.hid ih
  have HK := Lib.hid hk
  have HFT := Lib.hid hft
  clear ih hk hft
  go_enter Tryz.func74, Tryz.ntmps74
  go_wp2_with fail
  go_loopw [3, 4] (fun v i wr => ∃ (k : Nat) (A' : Option Addr) (c' : Nat), k ≤ ns.length ∧ i = .int .i64 k ∧ v = .slice A' (jn (frs (ns.take k))).length c' ∧
      wr.ownsRow w.heap.size 5 1 (.slice A' (jn (frs (ns.take k))).length c') (jn (frs (ns.take k))).length ((jn (frs (ns.take k))).map bv) ∧ Below w.heap.size w wr)
    (fun _ i _ => ns.length - (intOf i).toNat)
  case atStart => exact ⟨0, none, 0, Nat.zero_le _, rfl, rfl, World.ownsRow_nil _ _ _ _, Below.refl _ _⟩
  case round =>
    obtain ⟨k, A1, c1, hk, rfl, rfl, hown, hbel⟩ := hrel
    by_cases hlt : k < ns.length
    · obtain ⟨ad, A2, c2, K2, k2, x, rfl, hb, hx, e0, e1, e2, hN⟩ := (h.bel hbel).at_ hlt
      have hmem := List.mem_of_getElem? hx.out
      have hfx := HFT.out x hmem
      have hvl : x.vlen ≤ 65531 := hfx.vl
      have hkl := HK.out x hmem
      have hvd : x.v.length + (jn (frs x.ks)).length = x.vlen := by rw [Nd.vlen_eq, jnf_len]
      have HJ : Hid (jn (frs (ns.take (k + 1))) = padB (jn (frs (ns.take k))) ++ frB x.fr) := by
        have h1 := jn_take (frs_at hx.out)
        rw [frs_map, ← List.map_take, ← List.map_take, ← frs_map, ← frs_map] at h1
        exact h1
      have HVE : Hid (x.val = x.v ++ jn (frs x.ks)) := x.val_eq
      have HVL : Hid (x.val.length = x.vlen) := val_len x
      have hS := fun W (hW : Below wr.heap.size wr W) => HI.out x hmem hkl K2 k2 W ((hN.kids.bel (hW.mono hbel.size)).more (Nat.le_trans hbel.size hW.size)) hkl (by rw [Nd.vlen_eq] at hvl; omega) hfx.kid
      unfold JnR at hS
      have hD := fun W (hW : Below wr.heap.size wr W) => (hN.data.below (hW.mono hbel.size)).more (B' := W.heap.size) (Nat.le_trans hbel.size hW.size)
      have HD := Lib.hid hD
      have HS := Lib.hid hS
      have hws := hbel.size
      have KS : Hid (∀ W, Below wr.heap.size wr W → W.cell? (ad.add (k * 3)) = some (hv x.t) ∧ W.cell? ⟨(ad.add (k * 3)).block, (ad.add (k * 3)).off + 1, none⟩ = some (.slice A2 x.v.length c2) ∧ W.cell? ⟨(ad.add (k * 3)).block, (ad.add (k * 3)).off + 2, none⟩ = some (.slice K2 x.ks.length k2)) := fun W hW =>
        ⟨(hW.cell (p := ad.add (k * 3)) (by rw [blk_add]; omega)).trans e0, (hW.cell (p := ⟨(ad.add (k * 3)).block, (ad.add (k * 3)).off + 1, none⟩) (by show (ad.add (k * 3)).block < _; rw [blk_add]; omega)).trans e1, (hW.cell (p := ⟨(ad.add (k * 3)).block, (ad.add (k * 3)).off + 2, none⟩) (by show (ad.add (k * 3)).block < _; rw [blk_add]; omega)).trans e2⟩
      have hbnd := HSZ.out k
      generalize jn (frs x.ks) = q at *
      have hxl : x.v.length ≤ 65531 := by omega
      have hql : q.length ≤ 65531 := by omega
      obtain ⟨L, hL⟩ : ∃ L, x.v.length + q.length = L := ⟨_, rfl⟩
      have hL5 : L ≤ 65531 := by omega
      have hE0 := own_empty wr wr.heap.size (Nat.le_refl _)
      have ho := fun l : List UInt8 => one_bytes l
      have HO := Lib.hid ho
      have HL := Lib.hid hL
      have HN := Lib.hid hN
      have HX := Lib.hid hfx
      clear hN hfx hD hS ho hvd hL hmem hvl hb
      go_wp2_with fail
      go_region_held3 (fun W => W.cell? (ad.add (k * 3)) = some (hv x.t) ∧ W.cell? ⟨(ad.add (k * 3)).block, (ad.add (k * 3)).off + 1, none⟩ = some (.slice A2 x.v.length c2) ∧ W.cell? ⟨(ad.add (k * 3)).block, (ad.add (k * 3)).off + 2, none⟩ = some (.slice K2 x.ks.length k2))
        (first | exact KS.out _ (below_drew (Below.refl _ _)) | exact KS.out _ (below_drew ((Below.refl _ _).alloc (Nat.le_refl _) _)) | exact KS.out _ b4 | exact KS.out _ R5 | exact KS.out _ b6 | fail)
        (first
        | (refine step_append_to rfl (.tmp 13) (.tmp 18) 22 rfl wr.heap.size 5 (.int .u8 0) 1 Tryz.underlying22 u8info rfl _ 0 [] (by rfl) (World.ownsRow.drew hE0) _ A2 x.v.length c2 (x.v.map bv) (by rfl) (by simp) (HD.out _ (below_drew ((Below.refl _ _).alloc (Nat.le_refl _) _))) (HO.out _) x.v.length (by omega) (by omega) (by unfold maxLen; omega) (by simp) ?_; intro A4 c4 w4 own4 grow4; have b4 : Below wr.heap.size wr w4 := (below_drew ((Below.refl _ _).alloc (Nat.le_refl _) _)).grown grow4 (by simp) (fun j e => by cases e; exact Nat.le_refl _))
        | (go_at_call 74; (with_reducible refine (HS.out w4 b4).mono ?_); rintro e w5 ⟨A5, c5, rfl, own5, b5⟩; have R5 : Below wr.heap.size wr w5 := b4.trans (b5.mono b4.size))
        | (refine step_append_to rfl (.tmp 19) (.tmp 25) 22 rfl wr.heap.size 5 (.int .u8 0) 1 Tryz.underlying22 u8info rfl _ x.v.length ([] ++ x.v.map bv) (by rfl) (own_below' own4 b5) _ A5 q.length c5 (q.map bv) (by rfl) (by simp) (Lies.own own5) (HO.out _) L HL.out (by omega) (by unfold maxLen; omega) R5.size ?_; intro A6 c6 w6 own6 grow6; have b6 : Below wr.heap.size wr w6 := below_own R5 (own_below' own4 b5) grow6 (Nat.le_refl _) R5.size)
        | fail)
      have own1w : Hid (w6.ownsRow w.heap.size 5 1 (.slice A1 (jn (frs (ns.take k))).length c1) (jn (frs (ns.take k))).length ((jn (frs (ns.take k))).map bv)) := own_below' hown b6
      have hRB := rbytes_any A1 c1 (jn (frs (ns.take k))) w6 (Lies.own own1w.out) (by omega)
      have LV : Hid (Lies w6 w6.heap.size A6 ((x.v ++ q).map bv)) := by
        have h9 := Lies.own own6
        rw [List.nil_append, ← List.map_append] at h9
        exact h9
      have hup : up (jn (frs (ns.take k))).length ≤ (jn (frs (ns.take k))).length + 3 := by have := gap_lt (jn (frs (ns.take k))).length; unfold up; omega
      obtain ⟨U, hU⟩ : ∃ U, up (jn (frs (ns.take k))).length = U := ⟨_, rfl⟩
      rw [hU] at hRB hup
      have HU := Lib.hid hU
      have HB6 := Lib.hid (hbel.trans (b6.mono hbel.size))
      have HLX : Hid (L = x.vlen) := by have h1 := HVL.out; rw [HVE.out, List.length_append] at h1; have h2 := HL.out; unfold Hid; omega
      clear own4 grow4 own5 grow6 own6 b4 R5 b5 hU hown e1 e2 hE0
      go_wp2_with fail
      refine hRB.mono ?_
      rintro e w7 ⟨A7, c7, rfl, own7, b7⟩
      have hR7 := b6.trans (b7.mono b6.size)
      have g0 := (KS.out w7 hR7).1
      have hH : Lies (w7.alloc (.cells #[.int .u8 (IntKind.u8.wrap ((x.t.toNat : Int) / 256)), .int .u8 (IntKind.u8.wrap (x.t.toNat : Int)),
            .int .u8 (IntKind.u8.wrap (IntKind.i64.wrap (Int.tdiv (4 + (L : Int)) 256))), .int .u8 (IntKind.u8.wrap (Int.tmod (4 + (L : Int)) 256))] 5)) (w7.heap.size + 1) (some ⟨w7.heap.size, 0, none⟩) ((headB x.t L).map bv) := by
        rw [← head_vals x.t L hL5]
        exact Lies.newN w7 _ _
      have HH := Lib.hid hH
      have b7s := b7.size
      have HO7 := Lib.hid own7
      obtain ⟨U4, hU4⟩ : ∃ U4, U + 4 = U4 := ⟨_, rfl⟩
      have HU4 := Lib.hid hU4
      have hU4b : U4 ≤ 100000000 := by omega
      clear hH hRB own7 hU4
      go_wp2_with fail
      go_region_held3 (fun W => W.cell? (ad.add (k * 3)) = some (hv x.t))
        (first | exact (KS.out _ (below_drew hR7)).1 | exact (KS.out _ (below_drew (hR7.alloc hR7.size _))).1 | exact (KS.out _ b8r).1 | fail)
        (first
        | (refine step_append_to rfl (.tmp 32) (.tmp 52) 22 rfl w6.heap.size 5 (.int .u8 0) 1 Tryz.underlying22 u8info rfl _ U ((padB (jn (frs (ns.take k)))).map bv) (by rfl) (World.ownsRow.drew (HO7.out.alloc _)) _ (some ⟨w7.heap.size, 0, none⟩) 4 4 ((headB x.t L).map bv) (by rfl) (by simp [headB_len]) HH.out (HO.out _) U4 HU4.out (by omega) (by unfold maxLen; omega) (by simp; omega) ?_; intro A8 c8 w8 own8 grow8; have b8 : Below w6.heap.size w6 w8 := below_own (below_drew (b7.alloc b7.size _)) (World.ownsRow.drew (HO7.out.alloc _)) grow8 (Nat.le_refl _) (by simp; omega); have b8r : Below wr.heap.size wr w8 := b6.trans (b8.mono b6.size))
        | fail)
      have HO8 := Lib.hid own8
      have b8s := b8.size
      have LV8 := LV.out.below b8
      have hvq : ((x.v ++ q).map bv).length = L := by rw [List.length_map, List.length_append]; exact HL.out
      clear own8 grow8
      go_wp2_with (at_builtin; refine wpList_append_lies _ rfl (.tmp 54) (.tmp 55) 22 rfl w6.heap.size 5 _ 1 Tryz.underlying22 u8info rfl _ _ _ rfl HO8.out _ A6 L c6 _ rfl hvq LV8 (HO.out _) (by omega) (by unfold maxLen; omega) b8.size ?_; intro A9 c9 w9 own9 grow9 _)
      have hb9 : Below w.heap.size w w9 := HB6.out.trans ((below_own b8 HO8.out grow9 (Nat.le_refl _) b8s).mono HB6.out.size)
      have HLn : Hid ((jn (frs (ns.take (k + 1)))).length = U4 + L) := by
        have h1 := HJ.out
        have h2 := HU.out
        have h3 := HU4.out
        have h4 := HVL.out
        have h5 := HLX.out
        rw [Hid, h1, List.length_append, padB_len, frB_len, h2]
        show U + (4 + x.val.length) = U4 + L
        omega
      have own10 : Hid (w9.ownsRow w.heap.size 5 1 (.slice A9 (jn (frs (ns.take (k + 1)))).length c9) (jn (frs (ns.take (k + 1)))).length ((jn (frs (ns.take (k + 1)))).map bv)) := by
        rw [Hid, HLn.out, HJ.out]
        have h1 : frB x.fr = headB x.t L ++ (x.v ++ q) := by
          show headB x.t x.val.length ++ x.val = _
          rw [HVL.out, ← HLX.out, HVE.out]
        rw [h1, List.map_append, List.map_append, ← List.append_assoc]
        exact own_base own9 HB6.out.size
      clear own9 grow9 HO8 LV8 hvq HH
      go_wp2_with fail
      go_roundw
      case rel => exact ⟨k + 1, A9, c9, by omega, by go_num, by rw [HLn.out], own10.out, hb9⟩
      case measure => simp [intOf]; omega
    · obtain rfl : k = ns.length := by omega
      rw [List.take_length] at hown
      have H1 := Lib.hid hown
      clear hown
      go_wp2_with fail
      go_ret
      rw [List.take_length]
      exact ⟨A1, c1, rfl, H1.out, hbel⟩
theorem rbytes8_any (ns : List Nd) : ns.length ≤ 1000 → (∀ n ∈ ns, Fine n) → RBytesOK ns := by
  refine Nds.ind (P := fun ns => ns.length ≤ 1000 → (∀ n ∈ ns, Fine n) → RBytesOK ns) (fun ns ih _ hf => ?_) ns
  exact rbytes8_step ns (fun n hn hl => ih n hn hl (hf n hn).kid) fun n hn => (hf n hn).kl
end Go.Proofs.YthkbcpbgoefanaaGreatDoor


