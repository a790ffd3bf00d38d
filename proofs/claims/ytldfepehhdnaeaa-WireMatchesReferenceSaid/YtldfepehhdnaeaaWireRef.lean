/- Layer 1, the law WireMatchesReference: the walk. -/
import Derived.Test.YtldfepehhdnaeaaWireJoins
import Derived.Test.YtldfepehhdnaeaaWireNumbers
namespace Go.Proofs.Ytldfepehhdnaeaa
open Go.RowKit Go.ChangeShapes Go.WideShapes Go.ChangeAt

set_option maxRecDepth 100000 in
theorem wref_long (A A' : Option Addr) (n c m c' : Nat) (w : World) (hn : ¬ (n ≤ 300 ∧ m ≤ 100)) :
    Calls Try.prog 3 #[.slice A n c, .slice A' m c'] w fun e w' => e = .returned (.bool true) ∧ Below w.heap.size w w' := by
  by_cases h1 : n ≤ 300
  · have h2 : 100 < m := by omega
    clear hn
    go_enter Try.func3, Try.ntmps3
    go_wp2_with fail
    refine (awake_any w).mono ?_
    rintro e w1 ⟨rfl, b1⟩
    go_wp2_with fail
    refine (awake_any w1).mono ?_
    rintro e w2 ⟨rfl, b2⟩
    go_wp2_with fail
    go_ret
    exact ⟨rfl, b1.trans (b2.mono b1.size)⟩
  · have h2 : 300 < n := by omega
    clear hn
    go_enter Try.func3, Try.ntmps3
    go_wp2_with fail
    refine (awake_any w).mono ?_
    rintro e w1 ⟨rfl, b1⟩
    go_wp2_with fail
    refine (awake_any w1).mono ?_
    rintro e w2 ⟨rfl, b2⟩
    go_wp2_with fail
    go_ret
    exact ⟨rfl, b1.trans (b2.mono b1.size)⟩

theorem Cur.far {w : World} {base g c k : Nat} {A : Option Addr} {bs : List UInt8} (h : Cur w base g A c bs k) {p : Addr} (hg : g ≠ p.block) (ho : (Value.slice A bs.length c).ownBlock ≠ some p.block) (u : Value) : Cur (w.setCell p u) base g A c bs k := by
  have hgr : w.grownBy (w.setCell p u) (some p.block) := ⟨rfl, rfl, rfl, by simp [World.setCell], fun j _ hj => Below.heap_setCell w p u j (fun e => hj (by rw [e]))⟩
  exact h.kept hgr (fun e => hg (by cases e; rfl)) (.inr ho)

/-- The reads: each is two numbers. -/
def opCells (l : List (Int × Int)) : List Value := l.flatMap fun o => [.int .i64 o.1, .int .i64 o.2]
theorem opCells_at : ∀ (l : List (Int × Int)) (i : Nat) (o : Int × Int), l[i]? = some o → (opCells l)[i * 2]? = some (.int .i64 o.1) ∧ (opCells l)[i * 2 + 1]? = some (.int .i64 o.2) := by
  intro l
  induction l with
  | nil => intro i o h; simp at h
  | cons a l ih =>
    intro i o h
    match i, h with
    | 0, h =>
      simp only [List.getElem?_cons_zero, Option.some.injEq] at h
      subst h
      exact ⟨rfl, rfl⟩
    | i + 1, h =>
      have := ih i o (by simpa using h)
      have e : opCells (a :: l) = .int .i64 a.1 :: .int .i64 a.2 :: opCells l := rfl
      rw [e, show (i + 1) * 2 = i * 2 + 1 + 1 by omega]
      exact this
theorem opCells_len (l : List (Int × Int)) : (opCells l).length = l.length * 2 := by
  induction l with
  | nil => rfl
  | cons a l ih =>
    have e : opCells (a :: l) = .int .i64 a.1 :: .int .i64 a.2 :: opCells l := rfl
    rw [e, List.length_cons, List.length_cons, ih, List.length_cons]
    omega
theorem op_at {w : World} {B : Nat} {A : Option Addr} {l : List (Int × Int)} (h : Lies w B A (opCells l)) {i : Nat} (hi : i < l.length) :
    ∃ bl off o, A = some ⟨bl, off, none⟩ ∧ bl < B ∧ Hid (l[i]? = some o) ∧ w.cell? ⟨bl, off + i * 2, none⟩ = some (.int .i64 o.1) ∧ w.cell? ⟨bl, off + i * 2 + 1, none⟩ = some (.int .i64 o.2) := by
  have hl := opCells_len l
  have ho := opCells_at l i l[i] (List.getElem?_eq_getElem hi)
  obtain ⟨⟨bl, off, sp⟩, h1, h2, h3⟩ := h (fun e => by rw [e] at hl; simp at hl; omega)
  have c1 := h3 _ _ ho.1
  have c2 := h3 _ _ ho.2
  have hsp : sp = none := by
    have hx : ∃ x, (opCells l)[0]? = some x := ⟨_, List.getElem?_eq_getElem (by omega)⟩
    obtain ⟨x, hx⟩ := hx
    simpa [Addr.add] using World.cell?_spot (h3 0 x hx)
  subst hsp
  rw [Addr.add_lit] at c1 c2
  exact ⟨bl, off, l[i], h1, h2, List.getElem?_eq_getElem hi, c1, c2⟩

set_option maxRecDepth 100000 in
set_option maxHeartbeats 4000000 in
theorem wref_any (A A' : Option Addr) (c c' : Nat) (b : List UInt8) (l : List (Int × Int)) (w : World) (h : Lies w w.heap.size A (b.map bv)) (hbc : b.length ≤ c) (hcm : c ≤ maxLen) (hl : Lies w w.heap.size A' (opCells l)) (hn : b.length ≤ 300) (hm : l.length ≤ 100)
    (hwf : ∀ o ∈ l, (Lit.int .i64 o.2).wf = true) :
    Calls Try.prog 3 #[.slice A b.length c, .slice A' l.length c'] w fun e w' => e = .returned (.bool true) ∧ Below w.heap.size w w' := by
  unfold maxLen at hcm
  have HW := Lib.hid hwf
  clear hwf
  go_enter Try.func3, Try.ntmps3
  go_wp2_with fail
  refine (awake_any w).mono ?_
  rintro e w1 ⟨rfl, b1⟩
  have hoe := own_empty w1 w.heap.size b1.size
  have h1 := (h.below b1).alloc b1.size (.cells #[] 5)
  go_wp2_with (at_builtin; refine wpList_append_lies _ rfl (.tmp 35) (.tmp 36) 22 rfl w.heap.size 5 _ 1 Try.underlying22 u8info rfl _ _ _ rfl hoe _ A b.length c _ rfl (by simp) h1 (one_bytes b) (by omega) (by unfold maxLen; omega) (by simp; have := b1.size; omega) ?_; intro A3 c3 w3 own3 hgrow3 _)
  rw [Nat.zero_add, List.nil_append] at own3
  have b3 : Below w.heap.size w w3 := (b1.alloc b1.size _).grown hgrow3 (by simp; have := b1.size; omega) (fun j e => by cases e; exact b1.size)
  have hnew := new_any A3 c3 b w3 (Lies.own own3) (own_cap own3).2.1 (own_cap own3).2.2 (by omega)
  clear hoe h1 hgrow3
  have HN := Lib.hid hnew
  clear hnew
  refine HN.out.mono ?_
  rintro e w4 ⟨g, A4, c4, rfl, cur4, b34⟩
  have own4 := own_below' own3 b34
  have b4 := b3.trans (b34.mono b3.size)
  have hgo : ∀ go, (Value.slice A3 b.length c3).ownBlock = some go → w.heap.size ≤ go ∧ go < w3.heap.size := fun go e => own3.lt go e
  have HGO := Lib.hid hgo
  have hb3 := b3.size
  clear hgo own3 b34 b3 HN
  go_wp2
  go_loopw [7] (fun i ww => ∃ (j : Nat) (l' : List UInt8), j ≤ b.length ∧ i = .int .i64 j ∧ ww.ownsRow w.heap.size 5 1 (.slice A3 b.length c3) b.length (l'.map bv) ∧ Cur ww w3.heap.size g A4 c4 b 0 ∧ Below w.heap.size w ww) (fun i _ => b.length - (intOf i).toNat)
  case atStart => exact ⟨0, b, Nat.zero_le _, rfl, own4, cur4, b4⟩
  case round =>
    obtain ⟨j, l', hj, rfl, ownj, curj, bj⟩ := hrel
    by_cases hlt : j < b.length
    · obtain ⟨go, xo, rfl, hxo, hco, hfo, hg1, hg2⟩ := own_at ownj hlt
      obtain ⟨y, rfl⟩ : ∃ y : UInt8, xo = .int .u8 (y.toNat : Int) := by
        have h1 := hxo.out
        rw [List.getElem?_map] at h1
        obtain ⟨y, _, h2⟩ := Option.map_eq_some_iff.1 h1
        exact ⟨y, h2.symm⟩
      have hlt3 : go < w3.heap.size := (HGO.out go rfl).2
      have H1 := Lib.hid (inc_byte y)
      obtain ⟨l2, hl2⟩ := own_u8_stored (g := go) (j := j) ownj (y + 1)
      have hc2 : Cur (wr.setCell ⟨go, j, none⟩ (.int .u8 (((y.toNat : Int) + 1) % 256))) w3.heap.size g A4 c4 b 0 :=
        curj.far (p := ⟨go, j, none⟩) (fun e => by have h1 := curj.base_le; have h2 : g = go := e; omega) (fun e => by have := (curj.own.lt go e).1; omega) _
      have HO := Lib.hid hl2
      have HC := Lib.hid hc2
      have hb2 := bj.setCell (p := ⟨go, j, none⟩) hg1 (.int .u8 (((y.toNat : Int) + 1) % 256))
      clear hl2 hc2 ownj curj
      go_wp2
      go_roundw
      case rel => exact ⟨j + 1, l2, by omega, by go_num, by rw [H1.out]; exact HO.out, HC.out, hb2⟩
      case measure => simp [intOf]; omega
    · clear ownj
      go_wp2
      go_loopw [8, 9] (fun a i ww => ∃ j k : Nat, j ≤ l.length ∧ i = .int .i64 j ∧ k ≤ b.length ∧ a = .int .i64 k ∧ Cur ww w3.heap.size g A4 c4 b k ∧ Below w.heap.size w ww) (fun _ i _ => l.length - (intOf i).toNat)
      case atStart => exact ⟨0, 0, Nat.zero_le _, rfl, Nat.zero_le _, rfl, curj, bj⟩
      case round =>
        obtain ⟨j, k, hj, rfl, hk, rfl, curk, bk⟩ := hrel
        by_cases hlj : j < l.length
        · obtain ⟨bl, off, o, rfl, _, ho, hc1, hc2⟩ := op_at (hl.below bk) hlj
          have hb := h.below bk
          obtain ⟨kd, n⟩ := o
          dsimp only at hc1 hc2
          have hwn := bounds_i64 (HW.out (kd, n) (List.mem_of_getElem? ho.out))
          have hn1 := hwn.1
          have hn2 := hwn.2
          clear hwn
          dsimp only at hn1 hn2
          by_cases hk0 : kd = 0
          · subst hk0
            by_cases hfit : 0 ≤ n ∧ n ≤ (b.length : Int) - (k : Int)
            · obtain ⟨h0, hle⟩ := hfit
              obtain ⟨m, rfl⟩ := Int.eq_ofNat_of_zero_le h0
              have hkm : k + m ≤ b.length := by omega
              by_cases hck : c = k
              · have hck2 : k = c := hck.symm
                subst hck2
                obtain rfl : m = 0 := by omega
                go_wp2_with fail
                refine (take_yes curk 0 hkm).mono ?_
                rintro e w5 ⟨A5, c5, rfl, own5, cur5', g5⟩
                have cur5 : Cur w5 w3.heap.size g A4 c4 b k := cur5'
                have b5 : Below w.heap.size w w5 := bk.grown g5 bk.size (fun x e => by cases e; have := curk.base_le; omega)
                have he := same_any A5 A c5 0 w5.heap.size [] [] w5 Lies.nil Lies.nil (Nat.zero_le _)
                rw [decide_eq_true rfl] at he
                have HE := Lib.hid he
                clear he g5 curk own5 cur5'
                go_wp2_with fail
                refine HE.out.mono ?_
                rintro e w6 ⟨rfl, q6, h6⟩
                have cur6 : Cur w6 w3.heap.size g A4 c4 b k := by rw [h6]; exact cur5.drewN _
                have b6 : Below w.heap.size w w6 := by rw [h6]; exact below_drewN b5 _
                clear h6 cur5 b5 HE
                go_wp2
                go_loopw [13] (fun i ww => i = .int .i64 0 ∧ Cur ww w3.heap.size g A4 c4 b k ∧ Below w.heap.size w ww) (fun _ _ => 0)
                case atStart => exact ⟨rfl, cur6, b6⟩
                case round =>
                  obtain ⟨rfl, curx, bx⟩ := hrel
                  go_wp2_with fail
                  refine (at_any curx).mono ?_
                  rintro e wX ⟨rfl, rfl⟩
                  go_wp2_with fail
                  refine (left_any curx).mono ?_
                  rintro e wE ⟨rfl, qE, hE⟩
                  have bE : Below w.heap.size w wE := by rw [hE]; exact below_drewN bx _
                  have cE : Cur wE w3.heap.size g A4 c4 b (k) := by rw [hE]; exact curx.drewN _
                  clear hE
                  go_wp2_with fail
                  go_roundw
                  case rel => exact ⟨j + 1, k, by omega, by go_num, by omega, by go_num, cE, bE⟩
                  case measure => simp [intOf]; omega
              · go_wp2_with fail
                refine (take_yes curk m hkm).mono ?_
                rintro e w5 ⟨A5, c5, rfl, own5, cur5, g5⟩
                have b5 : Below w.heap.size w w5 := bk.grown g5 bk.size (fun x e => by cases e; have := curk.base_le; omega)
                have hLb := (((h.below b5).drop (k := k) (c := b.length + 1) (by simp)).take m)
                rw [if_neg (by omega), ← List.map_drop, ← List.map_take] at hLb
                have hlen : ((b.drop k).take m).length = m := by rw [List.length_take, List.length_drop]; omega
                have he := same_any A5 (A.map (fun x => x.add k)) c5 (c - k) w5.heap.size ((b.drop k).take m) ((b.drop k).take m) w5 (Lies.own own5) (hLb.more b5.size) (by rw [hlen]; unfold maxLen; omega)
                rw [hlen, decide_eq_true rfl] at he
                have HE := Lib.hid he
                have hgl : g < wr.heap.size := curk.whole.lt
                have hol := Lib.hid curk.own.lt
                have hcb := cur5.base_le
                clear he hLb hlen g5 curk
                generalize (b.drop k).take m = lm at *
                go_wp2_with fail
                refine HE.out.mono ?_
                rintro e w6 ⟨rfl, q6, h6⟩
                have own6 : w6.ownsRow wr.heap.size 5 1 (.slice A5 m c5) m (lm.map bv) := by rw [h6]; exact own5
                have cur6 : Cur w6 w3.heap.size g A4 c4 b (k + m) := by rw [h6]; exact cur5.drewN _
                have b6 : Below w.heap.size w w6 := by rw [h6]; exact below_drewN b5 _
                have hbk := bk.size
                generalize wr.heap.size = T at *
                clear h6 own5 cur5 b5 HE
                go_wp2
                go_loopw [13] (fun i ww => ∃ (x : Nat) (lx : List UInt8), x ≤ m ∧ i = .int .i64 x ∧ ww.ownsRow T 5 1 (.slice A5 m c5) m (lx.map bv) ∧ Cur ww w3.heap.size g A4 c4 b (k + m) ∧ Below w.heap.size w ww) (fun i _ => m - (intOf i).toNat)
                case atStart => exact ⟨0, lm, Nat.zero_le _, rfl, own6, cur6, b6⟩
                case round =>
                  obtain ⟨x, lx, hx, rfl, ownx, curx, bx⟩ := hrel
                  by_cases hlx : x < m
                  · obtain ⟨go, xo, rfl, hxo, hco, hfo, hg1, hg2⟩ := own_at ownx hlx
                    obtain ⟨y, rfl⟩ : ∃ y : UInt8, xo = .int .u8 (y.toNat : Int) := by
                      have h1 := hxo.out
                      rw [List.getElem?_map] at h1
                      obtain ⟨y, _, h2⟩ := Option.map_eq_some_iff.1 h1
                      exact ⟨y, h2.symm⟩
                    have H1 := Lib.hid (inc_byte y)
                    obtain ⟨l2, hl2⟩ := own_u8_stored (g := go) (j := x) ownx (y + 1)
                    have hc2 : Cur (wr.setCell ⟨go, x, none⟩ (.int .u8 (((y.toNat : Int) + 1) % 256))) w3.heap.size g A4 c4 b (k + m) :=
                      curx.far (p := ⟨go, x, none⟩) (fun e => by have h2 : g = go := e; omega) (fun e => by have := (hol.out go e).2; omega) _
                    have HO := Lib.hid hl2
                    have HC := Lib.hid hc2
                    have hb2 := bx.setCell (p := ⟨go, x, none⟩) (by show w.heap.size ≤ go; omega) (.int .u8 (((y.toNat : Int) + 1) % 256))
                    clear hl2 hc2 ownx curx
                    go_wp2
                    go_roundw
                    case rel => exact ⟨x + 1, l2, by omega, by go_num, by rw [H1.out]; exact HO.out, HC.out, hb2⟩
                    case measure => simp [intOf]; omega
                  · clear ownx
                    go_wp2_with fail
                    refine (at_any curx).mono ?_
                    rintro e wX ⟨rfl, rfl⟩
                    go_wp2_with fail
                    refine (left_any curx).mono ?_
                    rintro e wE ⟨rfl, qE, hE⟩
                    have bE : Below w.heap.size w wE := by rw [hE]; exact below_drewN bx _
                    have cE : Cur wE w3.heap.size g A4 c4 b (k + m) := by rw [hE]; exact curx.drewN _
                    clear hE
                    go_wp2_with fail
                    go_roundw
                    case rel => exact ⟨j + 1, k + m, by omega, by go_num, by omega, by go_num, cE, bE⟩
                    case measure => simp [intOf]; omega
            · have hno := hfit
              clear hfit
              by_cases hneg : n < 0
              · go_wp2_with fail
                refine (take_no curk n hno).mono ?_
                rintro e w5 ⟨rfl, q5, h5⟩
                have cur5 : Cur w5 w3.heap.size g A4 c4 b k := by rw [h5]; exact curk.drewN _
                have b5 : Below w.heap.size w w5 := by rw [h5]; exact below_drewN bk _
                clear h5 curk hno
                go_wp2
                go_loopw [13] (fun i ww => i = .int .i64 0 ∧ Cur ww w3.heap.size g A4 c4 b k ∧ Below w.heap.size w ww) (fun _ _ => 0)
                case atStart => exact ⟨rfl, cur5, b5⟩
                case round =>
                  obtain ⟨rfl, curx, bx⟩ := hrel
                  go_wp2_with fail
                  refine (at_any curx).mono ?_
                  rintro e wX ⟨rfl, rfl⟩
                  go_wp2_with fail
                  refine (left_any curx).mono ?_
                  rintro e wE ⟨rfl, qE, hE⟩
                  have bE : Below w.heap.size w wE := by rw [hE]; exact below_drewN bx _
                  have cE : Cur wE w3.heap.size g A4 c4 b (k) := by rw [hE]; exact curx.drewN _
                  clear hE
                  go_wp2_with fail
                  go_roundw
                  case rel => exact ⟨j + 1, k, by omega, by go_num, by omega, by go_num, cE, bE⟩
                  case measure => simp [intOf]; omega
              · have hgt : (b.length : Int) - (k : Int) < n := by omega
                go_wp2_with fail
                refine (take_no curk n hno).mono ?_
                rintro e w5 ⟨rfl, q5, h5⟩
                have cur5 : Cur w5 w3.heap.size g A4 c4 b k := by rw [h5]; exact curk.drewN _
                have b5 : Below w.heap.size w w5 := by rw [h5]; exact below_drewN bk _
                clear h5 curk hno
                go_wp2
                go_loopw [13] (fun i ww => i = .int .i64 0 ∧ Cur ww w3.heap.size g A4 c4 b k ∧ Below w.heap.size w ww) (fun _ _ => 0)
                case atStart => exact ⟨rfl, cur5, b5⟩
                case round =>
                  obtain ⟨rfl, curx, bx⟩ := hrel
                  go_wp2_with fail
                  refine (at_any curx).mono ?_
                  rintro e wX ⟨rfl, rfl⟩
                  go_wp2_with fail
                  refine (left_any curx).mono ?_
                  rintro e wE ⟨rfl, qE, hE⟩
                  have bE : Below w.heap.size w wE := by rw [hE]; exact below_drewN bx _
                  have cE : Cur wE w3.heap.size g A4 c4 b (k) := by rw [hE]; exact curx.drewN _
                  clear hE
                  go_wp2_with fail
                  go_roundw
                  case rel => exact ⟨j + 1, k, by omega, by go_num, by omega, by go_num, cE, bE⟩
                  case measure => simp [intOf]; omega
          · by_cases hk1 : kd = 1
            · subst hk1
              by_cases hfit : widthB n = true ∧ n ≤ (b.length : Int) - (k : Int)
              · obtain ⟨m, rfl, hm3⟩ := width_nat hfit.1
                have hkm : k + m ≤ b.length := by have := hfit.2; omega
                have hwm := hfit.1
                have hr : ∀ W : World, Below w.heap.size w W → Calls Try.prog 12 #[.slice A b.length c, .int .i64 (k : Int), .int .i64 (m : Int)] W fun e w' => e = .returned (.tuple #[.int .u32 (numOf ((b.drop k).take m) : Nat), .bool true]) ∧ W = w' :=
                  fun W hW => rnumber_yes A c w.heap.size b k m W (h.below hW) (by omega) hwm hkm
                have HR := Lib.hid hr
                have HC := Lib.hid (cnumber_yes curk m hwm hkm)
                have hgb := curk.base_le
                clear hr hfit hm3
                generalize numOf ((b.drop k).take m) = z at *
                go_wp2_with fail
                refine HC.out.mono ?_
                rintro e w5 ⟨rfl, cur5, g5⟩
                have b5 : Below w.heap.size w w5 := bk.grown g5 bk.size (fun x e => by cases e; omega)
                clear g5 curk
                go_wp2_with fail
                refine (HR.out w5 b5).mono ?_
                rintro e wX ⟨rfl, rfl⟩
                go_wp2_with fail
                refine (at_any cur5).mono ?_
                rintro e wX ⟨rfl, rfl⟩
                go_wp2_with fail
                refine (left_any cur5).mono ?_
                rintro e wE ⟨rfl, qE, hE⟩
                have bE : Below w.heap.size w wE := by rw [hE]; exact below_drewN b5 _
                have cE : Cur wE w3.heap.size g A4 c4 b (k + m) := by rw [hE]; exact cur5.drewN _
                clear hE
                go_wp2_with fail
                go_roundw
                case rel => exact ⟨j + 1, k + m, by omega, by go_num, by omega, by go_num, cE, bE⟩
                case measure => simp [intOf]; omega
              · have HC := Lib.hid (cnumber_no curk n hfit)
                have HR := Lib.hid (fun W : World => rnumber_no A b.length c k n W (by omega) hk hfit)
                clear hfit
                go_wp2_with fail
                refine HC.out.mono ?_
                rintro e w5 ⟨rfl, q5, h5⟩
                have cur5 : Cur w5 w3.heap.size g A4 c4 b k := by rw [h5]; exact curk.drewN _
                have b5 : Below w.heap.size w w5 := by rw [h5]; exact below_drewN bk _
                clear h5 curk
                go_wp2_with fail
                refine (HR.out w5).mono ?_
                rintro e wX ⟨rfl, rfl⟩
                go_wp2_with fail
                refine (at_any cur5).mono ?_
                rintro e wX ⟨rfl, rfl⟩
                go_wp2_with fail
                refine (left_any cur5).mono ?_
                rintro e wE ⟨rfl, qE, hE⟩
                have bE : Below w.heap.size w wE := by rw [hE]; exact below_drewN b5 _
                have cE : Cur wE w3.heap.size g A4 c4 b (k) := by rw [hE]; exact cur5.drewN _
                clear hE
                go_wp2_with fail
                go_roundw
                case rel => exact ⟨j + 1, k, by omega, by go_num, by omega, by go_num, cE, bE⟩
                case measure => simp [intOf]; omega
            · have e0 : (kd == 0) = false := by simp [hk0]
              have e1 : (kd == 1) = false := by simp [hk1]
              clear hk0 hk1
              by_cases hfit : widthB n = true ∧ n ≤ (b.length : Int) - (k : Int)
              · obtain ⟨m, rfl, hm3⟩ := width_nat hfit.1
                have hkm : k + m ≤ b.length := by have := hfit.2; omega
                have hwm := hfit.1
                have hr : ∀ W : World, Below w.heap.size w W → Calls Try.prog 12 #[.slice A b.length c, .int .i64 (k : Int), .int .i64 (m : Int)] W fun e w' => e = .returned (.tuple #[.int .u32 (numOf ((b.drop k).take m) : Nat), .bool true]) ∧ W = w' :=
                  fun W hW => rnumber_yes A c w.heap.size b k m W (h.below hW) (by omega) hwm hkm
                have HR := Lib.hid hr
                have HC := Lib.hid (peek_yes curk m hwm hkm)
                clear hr hfit hm3
                generalize numOf ((b.drop k).take m) = z at *
                go_wp2_with fail
                refine HC.out.mono ?_
                rintro e w5 ⟨rfl, q5, h5⟩
                have cur5 : Cur w5 w3.heap.size g A4 c4 b k := by rw [h5]; exact curk.drewN _
                have b5 : Below w.heap.size w w5 := by rw [h5]; exact below_drewN bk _
                clear h5 curk
                go_wp2_with fail
                refine (HR.out w5 b5).mono ?_
                rintro e wX ⟨rfl, rfl⟩
                go_wp2_with fail
                refine (at_any cur5).mono ?_
                rintro e wX ⟨rfl, rfl⟩
                go_wp2_with fail
                refine (left_any cur5).mono ?_
                rintro e wE ⟨rfl, qE, hE⟩
                have bE : Below w.heap.size w wE := by rw [hE]; exact below_drewN b5 _
                have cE : Cur wE w3.heap.size g A4 c4 b (k) := by rw [hE]; exact cur5.drewN _
                clear hE
                go_wp2_with fail
                go_roundw
                case rel => exact ⟨j + 1, k, by omega, by go_num, by omega, by go_num, cE, bE⟩
                case measure => simp [intOf]; omega
              · have HC := Lib.hid (peek_no curk n hfit)
                have HR := Lib.hid (fun W : World => rnumber_no A b.length c k n W (by omega) hk hfit)
                clear hfit
                go_wp2_with fail
                refine HC.out.mono ?_
                rintro e w5 ⟨rfl, q5, h5⟩
                have cur5 : Cur w5 w3.heap.size g A4 c4 b k := by rw [h5]; exact curk.drewN _
                have b5 : Below w.heap.size w w5 := by rw [h5]; exact below_drewN bk _
                clear h5 curk
                go_wp2_with fail
                refine (HR.out w5).mono ?_
                rintro e wX ⟨rfl, rfl⟩
                go_wp2_with fail
                refine (at_any cur5).mono ?_
                rintro e wX ⟨rfl, rfl⟩
                go_wp2_with fail
                refine (left_any cur5).mono ?_
                rintro e wE ⟨rfl, qE, hE⟩
                have bE : Below w.heap.size w wE := by rw [hE]; exact below_drewN b5 _
                have cE : Cur wE w3.heap.size g A4 c4 b (k) := by rw [hE]; exact cur5.drewN _
                clear hE
                go_wp2_with fail
                go_roundw
                case rel => exact ⟨j + 1, k, by omega, by go_num, by omega, by go_num, cE, bE⟩
                case measure => simp [intOf]; omega
        · go_wp2
          go_ret
          exact ⟨rfl, bk⟩

theorem open_ops {H : Type} {enc : TypeId × Value → H} {w : World} {fuel : Nat} {x : DataW H × List MemPlace} {A : Option Addr} {len cap : Nat}
    (h : DataW.trod enc Try.prog w 0 (fun _ => true) true fuel 23 [.slice A len cap] = some x) (hs : Small Try.prog 23 x.1) :
    ∃ l : List (Int × Int), len = l.length ∧ Lies w w.heap.size A (opCells l) ∧ ∀ o ∈ l, (Lit.int .i64 o.2).wf = true := by
  obtain ⟨cs, n, h1, h2, h3, h4, _, h5⟩ := open_cells (k := 2) Try.underlying23 (by kernel_rfl) (by omega) h hs
  have h6 : ∀ i, i < len → ∃ o : Int × Int, (cs.drop (i * 2)).take 2 = [.int .i64 o.1, .int .i64 o.2] ∧ (Lit.int .i64 o.2).wf = true := by
    intro i hi
    obtain ⟨y, hy, _⟩ := h5 i hi
    obtain ⟨xs, n', _, _, hlen, hxl, hf⟩ := DataW.trod_struct Try.underlying28 hy
    have hl2 : ((cs.drop (i * 2)).take 2).length = 2 := by rw [List.length_take, List.length_drop]; omega
    match hcs : (cs.drop (i * 2)).take 2, hl2 with
    | [u, v], _ =>
      rw [hcs] at hf
      have c3 : Try.prog.cellsOf 3 = 1 := by kernel_rfl
      have f0 : DataW.trod enc Try.prog w 0 (fun _ => true) true n' 3 (([u, v].drop 0).take (Try.prog.cellsOf 3)) = xs[0]? := hf 0 _ rfl
      have f1 : DataW.trod enc Try.prog w 0 (fun _ => true) true n' 3 (([u, v].drop 1).take (Try.prog.cellsOf 3)) = xs[1]? := hf 1 _ rfl
      rw [c3] at f0 f1
      have hx0 : 0 < xs.length := by rw [hxl]; decide
      have hx1 : 1 < xs.length := by rw [hxl]; decide
      rw [List.getElem?_eq_getElem hx0] at f0
      rw [List.getElem?_eq_getElem hx1] at f1
      obtain ⟨a, e0, _, _⟩ := DataW.trod_int Try.underlying3 f0
      obtain ⟨b, e1, _, wb⟩ := DataW.trod_int Try.underlying3 f1
      have e0' : u = .int .i64 a := (List.cons.inj e0).1
      have e1' : v = .int .i64 b := (List.cons.inj e1).1
      exact ⟨(a, b), by rw [e0', e1'], wb⟩
  obtain ⟨l, l1, l2⟩ := build_list len h6
  have hcs : cs = opCells l := by
    refine List.ext_getElem? fun t => ?_
    rcases Nat.lt_or_ge t (len * 2) with ht | ht
    · have hi : t / 2 < len := by omega
      have hil : t / 2 < l.length := by omega
      have e := (l2 (t / 2) _ (List.getElem?_eq_getElem hil)).1
      have ho := opCells_at l (t / 2) _ (List.getElem?_eq_getElem hil)
      have hc : ∀ r, r < 2 → cs[t / 2 * 2 + r]? = ((cs.drop (t / 2 * 2)).take 2)[r]? := by
        intro r hr
        rw [List.getElem?_take, if_pos hr, List.getElem?_drop]
      rcases Nat.mod_two_eq_zero_or_one t with hr | hr
      · have ht0 : t = t / 2 * 2 + 0 := by omega
        have := hc 0 (by omega)
        rw [e] at this
        rw [ht0, this, show t / 2 * 2 + 0 = t / 2 * 2 by omega, ho.1]
        rfl
      · have ht1 : t = t / 2 * 2 + 1 := by omega
        have := hc 1 (by omega)
        rw [e] at this
        rw [ht1, this, ho.2]
        rfl
    · rw [List.getElem?_eq_none (by omega), List.getElem?_eq_none (by rw [opCells_len]; omega)]
  refine ⟨l, l1.symm, by rw [← hcs]; exact h2, fun o ho => ?_⟩
  obtain ⟨i, hi, rfl⟩ := List.mem_iff_getElem.1 ho
  exact (l2 i _ (List.getElem?_eq_getElem hi)).2

theorem law_WireMatchesReference {H : Type} {enc : TypeId × Value → H} {W : World} {base : Nat} {v0 v1 : Value} {d0 d1 : DataW H} {p0 p1 : List MemPlace}
    (o0 : Value.okWide Try.prog W .any base 22 v0) (h0 : DataW.Trod enc Try.prog W 0 (fun _ => true) true 22 v0 d0 p0) (_s0 : Small Try.prog 22 d0)
    (o1 : Value.okWide Try.prog W .any base 23 v1) (h1 : DataW.Trod enc Try.prog W 0 (fun _ => true) true 23 v1 d1 p1) (s1 : Small Try.prog 23 d1) :
    Calls Try.prog 3 #[v0, v1] W fun e w' => e = .returned (.bool true) ∧ Below W.heap.size W w' := by
  obtain ⟨A, n, c, rfl⟩ := okWide_slice Try.underlying22 o0
  obtain ⟨A', m, c', rfl⟩ := okWide_slice Try.underlying23 o1
  obtain ⟨fuel, hf⟩ := h0
  obtain ⟨fuel', hf'⟩ := h1
  obtain ⟨b, rfl, hb, hc, hcm⟩ := open_bytes Try.underlying22 Try.underlying5 (by kernel_rfl) hf
  obtain ⟨l, rfl, hl, hw⟩ := open_ops hf' s1
  by_cases hn : b.length ≤ 300 ∧ l.length ≤ 100
  · exact wref_any A A' c c' b l W hb hc hcm hl hn.1 hn.2 hw
  · exact wref_long A A' b.length c l.length c' W hn
end Go.Proofs.Ytldfepehhdnaeaa
