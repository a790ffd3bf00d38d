/- Layer 1, package wire: what isWidth, number and Join return, for whatever arguments; they write nothing that was there. -/
/- Layer 1, package wire: Put, for whatever numbers. -/
/- Layer 1, package wire: what a cursor's methods return, for whatever cursor and arguments. -/
/- Layer 1, package wire: Number, Take and New, for whatever cursor and arguments. -/
/- Layer 1, package wire: Numbers and its iterator, for whatever bytes. -/
/- Layer 1: plain facts: the bytes of numbers lead back to the numbers, and the numbers of bytes to the bytes. -/
import Derived.Test.YteknmgmdmjmnmaaGreatDoorChecked
import Derived.Test.YteknmgmdmjmnmaaGreatDoorUA


namespace Go.Proofs.YteknmgmdmjmnmaaGreatDoor
open Go.RowKit

/-! ### isWidth -/
def widthB (k : Int) : Bool := decide (k = 1 ∨ k = 2 ∨ k = 4)
theorem isWidth_any (k : Int) (w : World) : Calls Tryz.prog 104 #[.int .i64 k] w fun e w' => e = .returned (.bool (widthB k)) ∧ w = w' := by
  by_cases h1 : k = 1
  · subst h1
    go_enter Tryz.func104, Tryz.ntmps104
    go_wp2
    go_ret
    exact ⟨rfl, rfl⟩
  · by_cases h2 : k = 2
    · subst h2
      go_enter Tryz.func104, Tryz.ntmps104
      go_wp2
      go_ret
      exact ⟨rfl, rfl⟩
    · by_cases h4 : k = 4
      · subst h4
        go_enter Tryz.func104, Tryz.ntmps104
        go_wp2
        go_ret
        exact ⟨rfl, rfl⟩
      · have e1 : (k == 1) = false := by simp [h1]
        have e2 : (k == 2) = false := by simp [h2]
        have e4 : (k == 4) = false := by simp [h4]
        go_enter Tryz.func104, Tryz.ntmps104
        go_wp2
        go_ret
        exact ⟨by simp [widthB, h1, h2, h4], rfl⟩

/-! ### number -/
def numStep (x : Nat) (c : UInt8) : Nat := (x * 256 + c.toNat) % 4294967296
def numOf (l : List UInt8) : Nat := l.foldl numStep 0
theorem numOf_lt (l : List UInt8) : numOf l < 4294967296 := by
  have h : ∀ (l : List UInt8) (x : Nat), x < 4294967296 → l.foldl numStep x < 4294967296 := by
    intro l
    induction l with
    | nil => intro x h; exact h
    | cons c l ih => intro x _; exact ih _ (Nat.mod_lt _ (by omega))
  exact h l 0 (by omega)
theorem numOf_take {l : List UInt8} {k : Nat} {x : UInt8} (h : l[k]? = some x) : numOf (l.take (k + 1)) = numStep (numOf (l.take k)) x := by
  rw [take_some h]
  simp only [numOf, List.foldl_append, List.foldl_cons, List.foldl_nil]
theorem or_step (x : Nat) (c : UInt8) (_hx : x < 4294967296) :
    bits BinOp.or IntKind.u32 ((x : Int) * 256 % 4294967296) ((c.toNat : Int) % 4294967296) = ((numStep x c : Nat) : Int) := by
  have hc : c.toNat < 256 := c.toNat_lt
  have e1 : ((x : Int) * 256 % 4294967296) = ((x * 256 % 4294967296 : Nat) : Int) := by omega
  have e2 : ((c.toNat : Int) % 4294967296) = ((c.toNat : Nat) : Int) := by omega
  rw [e1, e2, u32_or_nat _ _ (by omega) (by omega), nat_join 8 _ _ (by omega) (by omega)]
  unfold numStep
  omega
theorem number_any (A : Option Addr) (c B : Nat) (l : List UInt8) (w : World) (h : Lies w B A (l.map bv)) (hn : l.length ≤ maxLen) :
    Calls Tryz.prog 171 #[.slice A l.length c] w fun e w' => e = .returned (.int .u32 (numOf l : Nat)) ∧ w = w' := by
  unfold maxLen at hn
  go_enter Tryz.func171, Tryz.ntmps171
  go_wp2
  go_loop [3, 8] (fun t i => ∃ k : Nat, k ≤ l.length ∧ i = .int .i64 k ∧ t = .int .u32 (numOf (l.take k) : Nat))
                 (fun _ i => l.length - (intOf i).toNat)
  case atStart => exact ⟨0, Nat.zero_le _, rfl, rfl⟩
  case round =>
    obtain ⟨k, hk, rfl, rfl⟩ := hrel
    by_cases hlt : k < l.length
    · obtain ⟨ad, x, rfl, hb, hx, hc⟩ := h.byte hlt
      have hxn := numOf_lt (l.take k)
      have H2 := Lib.hid (or_step (numOf (l.take k)) x hxn)
      go_wp2
      go_round
      case rel => exact ⟨k + 1, by omega, by go_num, by rw [numOf_take hx.out, ← H2.out]⟩
      case measure => simp [intOf]; omega
    · go_wp2
      go_ret
      exact ⟨ret_int (by rw [List.take_of_length_le (by omega)]), rfl⟩

/-! ### Join -/
theorem join_any (A : Option Addr) (c : Nat) (vs : List Value) (ps : List (List UInt8)) (w : World) (h : Parts w w.heap.size A vs ps) (hn : ps.length ≤ maxLen) (ht : tot ps ≤ 140737488355328) :
    Calls Tryz.prog 83 #[.slice A ps.length c] w fun e w' => ∃ A' c', e = .returned (.slice A' (tot ps) c') ∧
      w'.ownsRow w.heap.size 5 1 (.slice A' (tot ps) c') (tot ps) (ps.flatten.map bv) ∧ Below w.heap.size w w' := by
  unfold maxLen at hn
  obtain ⟨i0, hi, hz0, hz1, hz2⟩ := info_parts u8info
  go_enter Tryz.func83, Tryz.ntmps83
  go_wp2
  go_loop [3, 11] (fun t i => ∃ k : Nat, k ≤ ps.length ∧ i = .int .i64 k ∧ t = .int .i64 (tot (ps.take k) : Nat))
                 (fun _ i => ps.length - (intOf i).toNat)
  case atStart => exact ⟨0, Nat.zero_le _, rfl, rfl⟩
  case round =>
    obtain ⟨k, hk, rfl, rfl⟩ := hrel
    have t1 := tot_le ps k
    have t2 := tot_le ps (k + 1)
    by_cases hlt : k < ps.length
    · obtain ⟨ad, A', c', p, rfl, _, hp, hc, _, hl1, hl2⟩ := h.at_ hlt
      have H2 := Lib.hid (tot_take hp.out)
      have hb1 : tot (ps.take k) + p.length ≤ 140737488355328 := by have := H2.out; omega
      go_wp2
      go_round
      case rel => exact ⟨k + 1, by omega, by go_num, by rw [H2.out]; go_num⟩
      case measure => simp [intOf]; omega
    · have e0 : Hid (tot (ps.take k) = tot ps) := by unfold Hid; rw [List.take_of_length_le (by omega)]
      go_wp2_with (at_make; refine wpList_make_own _ rfl (.const (.int .i64 0)) (.tmp 20) 48 rfl w.heap.size 5 i0 _ 1 Tryz.underlying48 hi hz0 hz1 .i64 .i64 _ (tot ps) rfl rfl (by rw [e0.out]) (by rw [hz2]; omega) (by unfold maxLen; omega) (Nat.le_refl _) ?_; intro w1 hown hgrow)
      go_loopw [6, 24] (fun v i wr => ∃ (k : Nat) (A' : Option Addr) (c' : Nat), k ≤ ps.length ∧ i = .int .i64 k ∧ v = .slice A' (tot (ps.take k)) c' ∧
          wr.ownsRow w.heap.size 5 1 (.slice A' (tot (ps.take k)) c') (tot (ps.take k)) ((ps.take k).flatten.map bv) ∧ Below w.heap.size w wr)
        (fun _ i _ => ps.length - (intOf i).toNat)
      case atStart => exact ⟨0, _, _, Nat.zero_le _, rfl, rfl, hown, (Below.refl _ _).grown hgrow (Nat.le_refl _) (by simp)⟩
      case round =>
        obtain ⟨k2, A2, c2, hk2, rfl, rfl, hown2, hbel⟩ := hrel
        have t1 := tot_le ps k2
        have t2 := tot_le ps (k2 + 1)
        by_cases hlt2 : k2 < ps.length
        · obtain ⟨ad, A', c', p, rfl, _, hp, hc0, hlp, hl1, hl2⟩ := (h.below hbel).at_ hlt2
          have H2 := Lib.hid (tot_take hp.out)
          have hb1 : tot (ps.take k2) + p.length ≤ 140737488355328 := by have := H2.out; omega
          go_wp2_with (at_builtin; refine wpList_append_lies _ rfl (.tmp 28) (.tmp 29) 48 rfl w.heap.size 5 _ 1 Tryz.underlying48 u8info rfl _ _ _ rfl hown2 _ A' p.length c' _ rfl (by simp) hlp (one_bytes p) (by omega) (by unfold maxLen; omega) hbel.size ?_; intro A3 c3 w3 hown3 hgrow3 _)
          have hbel3 := below_own hbel hown2 hgrow3 (Nat.le_refl _) hbel.size
          have hown4 : w3.ownsRow w.heap.size 5 1 (.slice A3 (tot (ps.take (k2 + 1))) c3) (tot (ps.take (k2 + 1))) ((ps.take (k2 + 1)).flatten.map bv) := by
            rw [H2.out, take_some hp.out]
            simpa using hown3
          have H4 := Lib.hid hown4
          clear hown4 hown3 hown2 hgrow3
          go_wp2
          go_roundw
          case rel => exact ⟨k2 + 1, A3, c3, by omega, by go_num, by rw [H2.out], H4.out, hbel3⟩
          case measure => simp [intOf]; omega
        · have e1 : ps.take k2 = ps := List.take_of_length_le (by omega)
          rw [e1] at hown2
          have H5 := Lib.hid hown2
          have H6 := Lib.hid e1
          clear hown2 e1
          go_wp2
          go_ret
          exact ⟨A2, c2, ret_slice (by rw [H6.out]), H5.out, hbel⟩
end Go.Proofs.YteknmgmdmjmnmaaGreatDoor



namespace Go.Proofs.YteknmgmdmjmnmaaGreatDoor
open Go.RowKit

def beByte (s : Nat) (x : UInt32) : UInt8 := UInt8.ofNat (x.toNat / 2 ^ s)
def be (k : Nat) (x : UInt32) : List UInt8 := (List.range k).map fun j => beByte (8 * (k - 1 - j)) x
def puts (k : Nat) (l : List UInt32) : List UInt8 := l.flatMap (be k)
theorem be_len (k : Nat) (x : UInt32) : (be k x).length = k := by simp [be]
theorem be_take (k j : Nat) (x : UInt32) (hj : j < k) : (be k x).take (j + 1) = (be k x).take j ++ [beByte (8 * (k - 1 - j)) x] :=
  take_some (by simp [be, hj])
theorem puts_take {k i : Nat} {l : List UInt32} {x : UInt32} (h : l[i]? = some x) : puts k (l.take (i + 1)) = puts k (l.take i) ++ be k x := by
  rw [take_some h]
  simp [puts]
theorem shr_byte (x : UInt32) (s : Nat) : ((x.toNat : Int) / 2 ^ s % 256) = ((beByte s x).toNat : Int) := by
  unfold beByte
  rw [UInt8.toNat_ofNat']
  have : ((2 : Int) ^ s) = ((2 ^ s : Nat) : Int) := by norm_cast
  rw [this]
  omega

set_option maxRecDepth 100000 in
theorem put_any (k : Nat) (hk : k = 1 ∨ k = 2 ∨ k = 4) (A : Option Addr) (c : Nat) (l : List UInt32) (w : World) (h : Lies w w.heap.size A (l.map uv)) (hl : l.length ≤ 35184372088832) :
    Calls Tryz.prog 66 #[.int .i64 (k : Int), .slice A l.length c] w fun e w' => ∃ A' c', e = .returned (.slice A' (l.length * k) c') ∧
      w'.ownsRow w.heap.size 5 1 (.slice A' (l.length * k) c') (l.length * k) ((puts k l).map bv) ∧ Below w.heap.size w w' := by
  have hw : widthB k = true := by rcases hk with rfl | rfl | rfl <;> rfl
  have hk4 : k ≤ 4 := by omega
  have hk1 : 1 ≤ k := by omega
  have hmul : ((k : Int) * (l.length : Int)) = ((l.length * k : Nat) : Int) := by rw [Int.natCast_mul, Int.mul_comm]
  have hmle : l.length * k ≤ 140737488355328 := by
    have := Nat.mul_le_mul_left l.length hk4
    omega
  have HM := Lib.hid hmul
  clear hmul hk
  obtain ⟨i0, hi, hz0, hz1, hz2⟩ := info_parts u8info
  go_enter Tryz.func66, Tryz.ntmps66
  have hmi : wrap64 ((k : Int) * (l.length : Int)) = ((l.length * k : Nat) : Int) := by rw [HM.out]; exact IntWalk.wrap64_in _ ⟨by omega, by omega⟩
  have HMI := Lib.hid hmi
  clear hmi
  go_wp2_with (first
    | (go_at_call 104; refine (isWidth_any _ _).mono ?_; rintro e w' ⟨rfl, rfl⟩)
    | (at_make; refine wpList_make_own _ rfl (.const (.int .i64 0)) (.tmp 15) 48 rfl w.heap.size 5 i0 _ 1 Tryz.underlying48 hi hz0 hz1 .i64 .i64 _ (l.length * k) rfl rfl HMI.out (by rw [hz2]; omega) (by unfold maxLen; omega) (Nat.le_refl _) ?_; intro w1 hown hgrow))
  go_loopw [5, 19] (fun v i wr => ∃ (j : Nat) (A' : Option Addr) (c' : Nat), j ≤ l.length ∧ i = .int .i64 j ∧ v = .slice A' (j * k) c' ∧
      wr.ownsRow w.heap.size 5 1 (.slice A' (j * k) c') (j * k) ((puts k (l.take j)).map bv) ∧ Below w.heap.size w wr)
    (fun _ i _ => l.length - (intOf i).toNat)
  case atStart => exact ⟨0, _, _, Nat.zero_le _, rfl, by rw [Nat.zero_mul], by rw [Nat.zero_mul]; exact hown, (Below.refl _ _).grown hgrow (Nat.le_refl _) (by simp)⟩
  case round =>
    obtain ⟨j, A2, c2, hj, rfl, rfl, hown2, hbel⟩ := hrel
    by_cases hlt : j < l.length
    · obtain ⟨ad, x, rfl, hb, hx, hc⟩ := (h.below hbel).word hlt
      go_wp2
      obtain ⟨wo, hwo⟩ : ∃ wo : World, wo = wr := ⟨_, rfl⟩
      rw [← hwo] at hown2 hbel hc ⊢
      clear hwo
      go_loopw [5, 8] (fun v s wi => ∃ (m : Nat) (A' : Option Addr) (c' : Nat), m ≤ k ∧ s = .int .i64 (8 * ((k : Int) - 1 - (m : Int))) ∧ v = .slice A' (j * k + m) c' ∧
          wi.ownsRow w.heap.size 5 1 (.slice A' (j * k + m) c') (j * k + m) ((puts k (l.take j) ++ (be k x).take m).map bv) ∧ Below w.heap.size w wi)
        (fun _ s _ => (intOf s + 8).toNat)
      case atStart => exact ⟨0, _, _, Nat.zero_le _, by go_num, rfl, by simpa using hown2, hbel⟩
      case round =>
        obtain ⟨m, A3, c3, hm, rfl, rfl, hown3, hbel3⟩ := hrel
        have hjk : j * k + k ≤ l.length * k := by
          have := Nat.mul_le_mul_right k (show j + 1 ≤ l.length by omega)
          rw [Nat.add_mul] at this
          omega
        by_cases hlm : m < k
        · have HB := Lib.hid (be_take k m x hlm)
          have HS := Lib.hid (shr_byte x (8 * (k - 1 - m)))
          go_wp2_with (at_builtin; refine wpList_append_lies _ rfl (.tmp 30) (.tmp 35) 48 rfl w.heap.size 5 _ 1 Tryz.underlying48 u8info rfl _ _ _ rfl (hown3.alloc _) _ _ 1 1 _ rfl rfl (Lies.new1 _ _ _) (by intro u hu; rw [List.mem_singleton.1 hu]; rfl) (by omega) (by unfold maxLen; omega) (by simp; have := hbel3.size; omega) ?_; intro A4 c4 w4 hown4 hgrow4 _)
          have hbel4 := below_own (hbel3.alloc hbel3.size _) (hown3.alloc _) hgrow4 (Nat.le_refl _) (by simp; have := hbel3.size; omega)
          have hown5 : w4.ownsRow w.heap.size 5 1 (.slice A4 (j * k + (m + 1)) c4) (j * k + (m + 1)) ((puts k (l.take j) ++ (be k x).take (m + 1)).map bv) := by
            rw [HB.out, ← List.append_assoc, List.map_append, List.map_singleton, bv, ← HS.out]
            exact hown4
          have H5 := Lib.hid hown5
          clear hown5 hown4 hown3 hgrow4
          go_wp2
          go_roundw
          case rel => exact ⟨m + 1, A4, c4, by omega, by go_num, rfl, H5.out, hbel4⟩
          case measure => simp [intOf]; omega
        · have hmk : m = k := by omega
          have HP := Lib.hid (puts_take (k := k) hx.out)
          have hown5 : wr.ownsRow w.heap.size 5 1 (.slice A3 ((j + 1) * k) c3) ((j + 1) * k) ((puts k (l.take (j + 1))).map bv) := by
            rw [hmk] at hown3
            rw [HP.out, Nat.add_mul, Nat.one_mul]
            rw [show (be k x).take k = be k x from List.take_of_length_le (by rw [be_len]; omega)] at hown3
            exact hown3
          have H5 := Lib.hid hown5
          have H6 : Hid (j * k + m = (j + 1) * k) := by unfold Hid; rw [hmk, Nat.add_mul, Nat.one_mul]
          clear hown5 hown3 hmk
          go_wp2
          go_roundw
          case rel => exact ⟨j + 1, A3, c3, by omega, by go_num, by rw [H6.out], H5.out, hbel3⟩
          case measure => simp [intOf]; omega
    · obtain rfl : j = l.length := by omega
      rw [List.take_length] at hown2
      have H5 := Lib.hid hown2
      clear hown2
      go_wp2
      go_ret
      exact ⟨A2, c2, rfl, H5.out, hbel⟩
end Go.Proofs.YteknmgmdmjmnmaaGreatDoor



namespace Go.Proofs.YteknmgmdmjmnmaaGreatDoor
open Go.RowKit

/-- A cursor at block g: it reads the bytes bs, of which k are read. -/
structure Rdr (w : World) (base g : Nat) (A : Option Addr) (c : Nat) (bs : List UInt8) (k : Nat) : Prop where
  whole : Whole w g 276 #[.slice A bs.length c, .int .i64 (k : Int)]
  own : w.ownsRow base 5 1 (.slice A bs.length c) bs.length (bs.map bv)
  le : k ≤ bs.length
  base_le : base ≤ g
  small : bs.length ≤ 140737488355328

section
variable {w w' : World} {base g c k : Nat} {A : Option Addr} {bs : List UInt8}
theorem Rdr.ne (h : Rdr w base g A c bs k) : (Value.slice A bs.length c).ownBlock ≠ some g := by
  rcases h.own.2 with ⟨h1, _⟩ | ⟨g', cap, cur, h1, _, h3, _⟩
  · rw [h1]; simp [Value.ownBlock]
  · rw [h1]
    intro he
    have : g' = g := by simpa [Value.ownBlock] using he
    subst this
    have hw := h.whole
    unfold Whole at hw
    rw [hw] at h3
    simp at h3
theorem Rdr.kept (h : Rdr w base g A c bs k) {row : Option Nat} (hg : w.grownBy w' row) (h1 : some g ≠ row) (h2 : (Value.slice A bs.length c).ownBlock = none ∨ (Value.slice A bs.length c).ownBlock ≠ row) : Rdr w' base g A c bs k :=
  ⟨h.whole.grown hg h1, h.own.kept hg h2, h.le, h.base_le, h.small⟩
theorem Rdr.below (h : Rdr w base g A c bs k) (hb : Below w.heap.size w w') : Rdr w' base g A c bs k :=
  ⟨h.whole.below hb h.whole.lt, own_below' h.own hb, h.le, h.base_le, h.small⟩
theorem Rdr.moved (h : Rdr w base g A c bs k) {k' : Nat} (hk : k' ≤ bs.length) : Rdr (w.setCell ⟨g, 1, none⟩ (.int .i64 (k' : Int))) base g A c bs k' := by
  refine ⟨h.whole.set_ 1 _, h.own.kept (row := some g) ⟨rfl, rfl, rfl, by simp [World.setCell], fun i _ hi => Below.heap_setCell w _ _ i (fun e => hi (by rw [e]))⟩ (.inr h.ne), hk, h.base_le, h.small⟩
theorem Rdr.cells (h : Rdr w base g A c bs k) : w.cell? ⟨g, 0, none⟩ = some (.slice A bs.length c) ∧ w.cell? ⟨g, 1, none⟩ = some (.int .i64 (k : Int)) ∧ w.frozen? ⟨g, 1, none⟩ = false :=
  ⟨by rw [h.whole.cell]; rfl, by rw [h.whole.cell]; rfl, h.whole.frozen 1⟩
theorem grown_set (w : World) (g i : Nat) (u : Value) : w.grownBy (w.setCell ⟨g, i, none⟩ u) (some g) :=
  ⟨rfl, rfl, rfl, by simp [World.setCell], fun j _ hj => Below.heap_setCell w _ _ j (fun e => hj (by rw [e]))⟩
end

theorem left_any {w : World} {base g c k : Nat} {A : Option Addr} {bs : List UInt8} (h : Rdr w base g A c bs k) :
    Calls Tryz.prog 191 #[.pointer (some ⟨g, 0, none⟩)] w fun e w' => e = .returned (.int .i64 ((bs.length : Int) - (k : Int))) ∧ ∃ q, w' = w.drewN q := by
  obtain ⟨h0, h1, h2⟩ := h.cells
  have hl := h.le
  have hs := h.small
  go_enter Tryz.func191, Tryz.ntmps191
  go_wp2
  go_quiet (fail)
  go_wp2
  go_ret
  exact ⟨rfl, nq, rfl⟩

/-! ### ahead -/
theorem ahead_no {w : World} {base g c k : Nat} {A : Option Addr} {bs : List UInt8} (h : Rdr w base g A c bs k) (n : Int) (hn : ¬ (0 ≤ n ∧ n ≤ (bs.length : Int) - (k : Int))) :
    Calls Tryz.prog 228 #[.pointer (some ⟨g, 0, none⟩), .int .i64 n] w fun e w' => e = .returned (.tuple #[.slice none 0 0, .bool false]) ∧ ∃ q, w' = w.drewN q := by
  have hl := h.le
  have hs := h.small
  by_cases h0 : n < 0
  · go_enter Tryz.func228, Tryz.ntmps228
    go_wp2_with fail
    go_ret2
    exact ⟨rfl, 0, rfl⟩
  · have hgt : (bs.length : Int) - (k : Int) < n := by omega
    go_enter Tryz.func228, Tryz.ntmps228
    go_wp2_with (go_at_call 191; refine (left_any h).mono ?_; rintro e w' ⟨rfl, q, rfl⟩)
    go_ret2
    exact ⟨rfl, q, rfl⟩
theorem ahead_yes {w : World} {base g c k : Nat} {A : Option Addr} {bs : List UInt8} (h : Rdr w base g A c bs k) (n : Nat) (hn : k + n ≤ bs.length) :
    Calls Tryz.prog 228 #[.pointer (some ⟨g, 0, none⟩), .int .i64 (n : Int)] w fun e w' => ∃ A', e = .returned (.tuple #[.slice A' n n, .bool true]) ∧
      ∃ q, w' = w.drewN q ∧ ∀ W : World, W.ownsRow base 5 1 (.slice A bs.length c) bs.length (bs.map bv) → Lies W W.heap.size A' (((bs.drop k).take n).map bv) := by
  have hl := h.le
  have hs := h.small
  have hcap := own_cap h.own
  obtain ⟨c0, c1, c2⟩ := h.cells
  unfold maxLen at hcap
  have hc1 := hcap.2.1
  have hc2 := hcap.2.2
  clear hcap
  by_cases h0 : n = 0
  · subst h0
    go_enter Tryz.func228, Tryz.ntmps228
    go_wp2_with (go_at_call 191; refine (left_any h).mono ?_; rintro e w' ⟨rfl, q, rfl⟩)
    go_quiet (fail)
    go_wp2
    go_ret2
    exact ⟨A, rfl, q + nq, by simp, fun W _ => by rw [List.take_zero]; exact Lies.nil⟩
  · have e1 : ¬ k + n = k := by omega
    have e2 : (n : Int) ≤ (bs.length : Int) - (k : Int) := by omega
    go_enter Tryz.func228, Tryz.ntmps228
    go_wp2_with (go_at_call 191; refine (left_any h).mono ?_; rintro e w' ⟨rfl, q, rfl⟩)
    go_quiet (fail)
    go_wp2
    go_ret2
    refine ⟨A.map (fun x => x.add k), ?_, q + nq, by simp, ?_⟩
    · show Ending.returned (.tuple #[.slice _ (k + n - k) (k + n - k), .bool true]) = _
      rw [Nat.add_sub_cancel_left]
    intro W hW
    have hl2 := ((Lies.own hW).drop (k := k) (c := bs.length + 1) (by simp)).take n
    rw [if_neg (by omega), ← List.map_drop, ← List.map_take] at hl2
    exact hl2

/-! ### Peek, Number -/
theorem number_nil (w : World) : Calls Tryz.prog 171 #[.slice none 0 0] w fun e w' => e = .returned (.int .u32 0) ∧ w = w' :=
  number_any none 0 0 ([] : List UInt8) w Lies.nil (Nat.zero_le _)
theorem peek_bad (p : Option Addr) (n : Int) (hn : widthB n = false) (w : World) : Calls Tryz.prog 215 #[.pointer p, .int .i64 n] w fun e w' => e = .returned (.tuple #[.int .u32 0, .bool false]) ∧ w = w' := by
  go_enter Tryz.func215, Tryz.ntmps215
  go_wp2_with (go_at_call 104; refine (isWidth_any _ _).mono ?_; rintro e w' ⟨rfl, rfl⟩)
  go_ret2
  exact ⟨rfl, rfl⟩
theorem peek_no {w : World} {base g c k : Nat} {A : Option Addr} {bs : List UInt8} (h : Rdr w base g A c bs k) (n : Int) (hn : ¬ (widthB n = true ∧ n ≤ (bs.length : Int) - (k : Int))) :
    Calls Tryz.prog 215 #[.pointer (some ⟨g, 0, none⟩), .int .i64 n] w fun e w' => e = .returned (.tuple #[.int .u32 0, .bool false]) ∧ ∃ q, w' = w.drewN q := by
  by_cases hw : widthB n = true
  · have hno : ¬ (0 ≤ n ∧ n ≤ (bs.length : Int) - (k : Int)) := fun hh => hn ⟨hw, hh.2⟩
    have hah := ahead_no h n hno
    clear hno hn
    go_enter Tryz.func215, Tryz.ntmps215
    go_wp2_with (first | (go_at_call 104; refine (isWidth_any _ _).mono ?_; rintro e w' ⟨rfl, rfl⟩) | (go_at_call 228; refine hah.mono ?_; rintro e w' ⟨rfl, q, rfl⟩) | (go_at_call 171; refine (number_nil _).mono ?_; rintro e w' ⟨rfl, rfl⟩))
    go_ret2
    exact ⟨rfl, _, rfl⟩
  · exact (peek_bad _ n (by simpa using hw) w).mono fun e w' ⟨h1, h2⟩ => ⟨h1, 0, h2.symm⟩
theorem peek_yes {w : World} {base g c k : Nat} {A : Option Addr} {bs : List UInt8} (h : Rdr w base g A c bs k) (n : Nat) (hw : widthB n = true) (hn : k + n ≤ bs.length) :
    Calls Tryz.prog 215 #[.pointer (some ⟨g, 0, none⟩), .int .i64 (n : Int)] w fun e w' => e = .returned (.tuple #[.int .u32 (numOf ((bs.drop k).take n) : Nat), .bool true]) ∧ ∃ q, w' = w.drewN q := by
  have hs := h.small
  have hlen : ((bs.drop k).take n).length = n := by rw [List.length_take, List.length_drop]; omega
  have hah := ahead_yes h n hn
  have hown := Lib.hid h.own
  have hnum : ∀ A (w2 : World), Lies w2 w2.heap.size A (((bs.drop k).take n).map bv) → Calls Tryz.prog 171 #[.slice A n n] w2 fun e w' => e = .returned (.int .u32 (numOf ((bs.drop k).take n) : Nat)) ∧ w2 = w' := by
    intro A w2 hl
    have := number_any A n w2.heap.size _ w2 hl (by rw [hlen]; unfold maxLen; omega)
    rw [hlen] at this
    exact this
  generalize (bs.drop k).take n = l at *
  have HL := Lib.hid hlen
  clear hlen
  go_enter Tryz.func215, Tryz.ntmps215
  go_wp2_with (first | (go_at_call 104; refine (isWidth_any _ _).mono ?_; rintro e w' ⟨rfl, rfl⟩) | (go_at_call 228; refine hah.mono ?_; rintro e w' ⟨A', rfl, q, rfl, hlies⟩) | (go_at_call 171; refine (hnum _ _ (hlies (w.drewN q) hown.out)).mono ?_; rintro e w' ⟨rfl, rfl⟩))
  go_ret2
  exact ⟨rfl, _, rfl⟩
end Go.Proofs.YteknmgmdmjmnmaaGreatDoor



namespace Go.Proofs.YteknmgmdmjmnmaaGreatDoor
open Go.RowKit

theorem only_drewN (w : World) (row : Option Nat) (n : Nat) : w.grownBy (w.drewN n) row := ⟨rfl, rfl, rfl, Nat.le_refl _, fun _ _ _ => rfl⟩
theorem only_trans {a b c : World} {row : Option Nat} (h : a.grownBy b row) (k : b.grownBy c row) : a.grownBy c row :=
  ⟨k.os.trans h.os, k.tape.trans h.tape, k.output.trans h.output, Nat.le_trans h.size k.size, fun i hi hr => (k.block i (Nat.lt_of_lt_of_le hi h.size) hr).trans (h.block i hi hr)⟩
theorem Rdr.drewN {w : World} {base g c k : Nat} {A : Option Addr} {bs : List UInt8} (h : Rdr w base g A c bs k) (q : Nat) : Rdr (w.drewN q) base g A c bs k :=
  ⟨h.whole, h.own, h.le, h.base_le, h.small⟩

theorem cnumber_no {w : World} {base g c k : Nat} {A : Option Addr} {bs : List UInt8} (h : Rdr w base g A c bs k) (n : Int) (hn : ¬ (widthB n = true ∧ n ≤ (bs.length : Int) - (k : Int))) :
    Calls Tryz.prog 190 #[.pointer (some ⟨g, 0, none⟩), .int .i64 n] w fun e w' => e = .returned (.tuple #[.int .u32 0, .bool false]) ∧ ∃ q, w' = w.drewN q := by
  have hp := Lib.hid (peek_no h n hn)
  clear hn
  go_enter Tryz.func190, Tryz.ntmps190
  go_wp2_with (go_at_call 215; refine (hp.out).mono ?_; rintro e w' ⟨rfl, q, rfl⟩)
  go_ret2
  exact ⟨rfl, q, rfl⟩
theorem cnumber_yes {w : World} {base g c k : Nat} {A : Option Addr} {bs : List UInt8} (h : Rdr w base g A c bs k) (n : Nat) (hw : widthB n = true) (hn : k + n ≤ bs.length) :
    Calls Tryz.prog 190 #[.pointer (some ⟨g, 0, none⟩), .int .i64 (n : Int)] w fun e w' => e = .returned (.tuple #[.int .u32 (numOf ((bs.drop k).take n) : Nat), .bool true]) ∧
      Rdr w' base g A c bs (k + n) ∧ w.grownBy w' (some g) := by
  have hs := h.small
  have hl := h.le
  have hp := Lib.hid (peek_yes h n hw hn)
  have hfin : ∀ q, Rdr ((w.drewN q).setCell ⟨g, 1, none⟩ (.int .i64 ((k : Int) + (n : Int)))) base g A c bs (k + n) := fun q => (h.drewN q).moved hn
  have HF := Lib.hid hfin
  obtain ⟨c0, c1, c2⟩ := h.cells
  clear hfin
  generalize numOf ((bs.drop k).take n) = x at *
  go_enter Tryz.func190, Tryz.ntmps190
  go_wp2_with (go_at_call 215; refine (hp.out).mono ?_; rintro e w' ⟨rfl, q, rfl⟩)
  go_ret2
  exact ⟨rfl, HF.out q, only_trans (only_drewN w _ q) (grown_set _ _ _ _)⟩

/-- Join of one part. -/
theorem join_one (A' : Option Addr) (c' B : Nat) (p : List UInt8) (w : World) (hl : Lies w B A' (p.map bv)) (hB : B ≤ w.heap.size) (h1 : p.length ≤ c') (h2 : c' ≤ maxLen) (ht : p.length ≤ 140737488355328) :
    Calls Tryz.prog 83 #[.slice (some ⟨w.heap.size, 0, none⟩) 1 1] (w.alloc (.cells #[.slice A' p.length c'] 48)) fun e w' => ∃ A2 c2, e = .returned (.slice A2 p.length c2) ∧
      w'.ownsRow w.heap.size 5 1 (.slice A2 p.length c2) p.length (p.map bv) ∧ Below w.heap.size w w' := by
  have hp : Parts (w.alloc (.cells #[.slice A' p.length c'] 48)) (w.alloc (.cells #[.slice A' p.length c'] 48)).heap.size (some ⟨w.heap.size, 0, none⟩) [.slice A' p.length c'] [p] := by
    refine ⟨(Lies.new1 _ _ _).more (by simp), rfl, fun i q hq => ?_⟩
    match i, hq with
    | 0, hq =>
      simp only [List.getElem?_cons_zero, Option.some.injEq] at hq
      subst hq
      exact ⟨_, rfl, A', c', rfl, (hl.alloc hB _).more (by simp; omega), h1, h2⟩
    | i + 1, hq => simp at hq
  have ht' : tot [p] = p.length := by simp [tot]
  refine (join_any _ 1 _ [p] _ hp (by simp [maxLen]) (by omega)).mono ?_
  rintro e w' ⟨A2, c2, rfl, hown, hb⟩
  rw [ht'] at hown
  rw [ht']
  refine ⟨A2, c2, rfl, own_base (by simpa using hown) (by simp), ?_⟩
  exact ((Below.refl _ w).alloc (Nat.le_refl _) _).trans (hb.mono (by simp))
/-! ### New -/
theorem new_any (A : Option Addr) (c : Nat) (l : List UInt8) (w : World) (h : Lies w w.heap.size A (l.map bv)) (h1 : l.length ≤ c) (h2 : c ≤ maxLen) (hs : l.length ≤ 140737488355328) :
    Calls Tryz.prog 189 #[.slice A l.length c] w fun e w' => ∃ g A2 c2, e = .returned (.pointer (some ⟨g, 0, none⟩)) ∧ Rdr w' w.heap.size g A2 c2 l 0 ∧ Below w.heap.size w w' := by
  have HJ := Lib.hid (join_one A c w.heap.size l w h (Nat.le_refl _) h1 h2 hs)
  go_enter Tryz.func189, Tryz.ntmps189
  go_wp2_with (go_at_call 83; refine (HJ.out).mono ?_; rintro e w' ⟨A2, c2, rfl, hown, hbel⟩)
  go_ret
  refine ⟨_, A2, c2, rfl, ⟨Whole.new _ _ _, hown.alloc _, Nat.zero_le _, hbel.size, hs⟩, hbel.alloc hbel.size _⟩
end Go.Proofs.YteknmgmdmjmnmaaGreatDoor




namespace Go.Proofs.YteknmgmdmjmnmaaGreatDoor
open Go.RowKit Go.Shelf

attribute [local go_sem] Oper.semAt_some

def numAt (k : Nat) (b : List UInt8) (j : Nat) : UInt32 := UInt32.ofNat (numOf ((b.drop (j * k)).take k))
def nums (k : Nat) (b : List UInt8) : List UInt32 := (List.range (b.length / k)).map (numAt k b)
theorem numAt_toNat (k : Nat) (b : List UInt8) (j : Nat) : (numAt k b j).toNat = numOf ((b.drop (j * k)).take k) := by
  unfold numAt
  rw [UInt32.toNat_ofNat']
  exact Nat.mod_eq_of_lt (numOf_lt _)
theorem nums_take (k : Nat) (b : List UInt8) (j : Nat) (hj : j < b.length / k) : (nums k b).take (j + 1) = (nums k b).take j ++ [numAt k b j] :=
  take_some (by simp [nums, hj])
theorem nums_len (k : Nat) (b : List UInt8) : (nums k b).length = b.length / k := by simp [nums]

set_option maxRecDepth 100000 in
set_option maxHeartbeats 1000000 in
theorem numbers1_in (n : Nat) (hn : 1 ≤ n) (l Bb Bk n₀ : Nat) (A : Option Addr) (c k : Nat) (b : List UInt8) (hk : 1 ≤ k) (hk4 : k ≤ 4) (hm : b.length % k = 0) (hs : b.length ≤ 140737488355328) (hbc : b.length ≤ c)
    (J Jx : List UInt32 → World → Prop)
    (hY : ∀ pre x W, J pre W → pre.length < b.length / k → YieldAt Fence.wide (n - 1) Tryz.prog l #[.int .u32 (x : UInt32).toNat] W fun e W' =>
      (e = .returned (.bool true) ∧ J (pre ++ [x]) W' ∧ Kept n₀ (fun i => i = Bb ∨ i = Bk) W W') ∨ (e = .returned (.bool false) ∧ Jx (pre ++ [x]) W'))
    (W : World) (hBb : W.cell? ⟨Bb, 0, none⟩ = some (.slice A b.length c)) (hBk : W.cell? ⟨Bk, 0, none⟩ = some (.int .i64 (k : Int))) (hL : Lies W n₀ A (b.map bv)) (h0 : J [] W) :
    CallsIn Fence.wide n Tryz.prog 170 #[.func (.yield l) #[] #[], .pointer (some ⟨Bb, 0, none⟩), .pointer (some ⟨Bk, 0, none⟩)] W fun e W' => (∃ v, e = .returned v) ∧
      ((∃ ys, ys = nums k b ∧ J ys W') ∨ (∃ pre, pre <+: nums k b ∧ Jx pre W')) := by
  have hdiv : b.length / k * k = b.length := by rw [Nat.mul_comm]; exact Nat.mul_div_cancel' (Nat.dvd_of_mod_eq_zero hm)
  have HD := Lib.hid hdiv
  clear hdiv hm
  refine callsIn_of_wp Tryz.func170 rfl trivial ?_ rfl
  simp only [Tryz.ntmps170, List.size_toArray, List.length_cons, List.length_nil, Nat.reduceAdd, Nat.reduceSub, Array.replicate_succ, Array.replicate_zero, List.push_toArray, List.append_toArray, List.nil_append, List.cons_append]
  gi_wp2
  gi_loopw [4] (fun i wr => ∃ j p : Nat, j ≤ b.length / k ∧ Hid (p = j * k) ∧ p ≤ b.length ∧ i = .int .i64 p ∧ J ((nums k b).take j) wr ∧ Kept n₀ (fun i => i = Bb ∨ i = Bk) W wr)
    (fun i _ => b.length - (intOf i).toNat)
  case atStart => exact ⟨0, 0, Nat.zero_le _, by unfold Hid; omega, Nat.zero_le _, rfl, by rw [List.take_zero]; exact h0, Kept.refl _ _ _⟩
  case round =>
    obtain ⟨j, p, hj, hp, hpl, rfl, hJs, hnx⟩ := hrel
    have c1 := (hnx.cell (.inl rfl)).trans hBb
    have c2 := (hnx.cell (.inr rfl)).trans hBk
    by_cases hlt : j < b.length / k
    · have hpk : p + k ≤ b.length := by
        have h1 := hp.out
        have h2 := HD.out
        have h3 := Nat.mul_le_mul_right k (show j + 1 ≤ b.length / k by omega)
        rw [Nat.add_mul] at h3
        omega
      have hlen : ((b.drop p).take k).length = k := by rw [List.length_take, List.length_drop]; omega
      have hdr : Lies wr n₀ (A.map (·.add p)) (((b.drop p).take k).map bv) := by
        have := ((hL.below hnx.low).drop (k := p) (c := b.length + 1) (by simp)).take k
        rw [if_neg (by omega), ← List.map_drop, ← List.map_take] at this
        exact this
      have hnum := number_any (A.map (·.add p)) (c - p) n₀ _ wr hdr (by rw [hlen]; unfold maxLen; omega)
      rw [hlen] at hnum
      have hx : numOf ((b.drop p).take k) = (numAt k b j).toNat := by rw [numAt_toNat, hp.out]
      rw [hx] at hnum
      have HN := Lib.hid hnum
      clear hnum hlen hdr hx
      have hcp : ¬ c = p := by omega
      obtain ⟨fn, tmps, assign, body, hy, hR⟩ := hY _ (numAt k b j) wr hJs (by rw [List.length_take, nums_len]; omega)
      gi_wp2_with (refine ⟨trivial, ?_⟩; gi_at_call 171; refine (callsIn_wide.2 HN.out).mono ?_; rintro e w' ⟨rfl, rfl⟩)
      refine hR.mono ?_
      rintro e W3 (⟨rfl, hJ3, hk3⟩ | ⟨rfl, hJx3⟩)
      · have d2 := (hk3.cell (.inr rfl)).trans c2
        have HT := Lib.hid (nums_take k b j hlt)
        gi_wp2
        go_roundw
        case rel => exact ⟨j + 1, p + k, by omega, by unfold Hid; rw [Nat.add_mul, ← hp.out, Nat.one_mul], by omega, by go_num, by rw [HT.out]; exact hJ3, hnx.trans hk3⟩
        case measure => simp [intOf]; omega
      · gi_wp2
        refine bodyPost_ret (results_none rfl _ _ _) rfl ?_
        exact ⟨⟨_, rfl⟩, .inr ⟨_, by rw [← nums_take k b j hlt]; exact List.take_prefix _ _, hJx3⟩⟩
    · have hp2 : p = b.length := by
        have h1 := hp.out
        have h2 := HD.out
        have h3 : j = b.length / k := by omega
        rw [h3] at h1
        omega
      have hJ2 : J (nums k b) wr := by
        rw [List.take_of_length_le (by rw [nums_len]; omega)] at hJs
        exact hJs
      clear hJs
      have hp3 : ¬ p < b.length := by omega
      clear hp2
      gi_wp2
      go_end0
      exact ⟨⟨_, rfl⟩, .inl ⟨_, rfl, hJ2⟩⟩

set_option maxHeartbeats 1000000 in
theorem numbers_in (n : Nat) (k : Int) (A : Option Addr) (m c : Nat) (w : World) :
    CallsIn Fence.wide n Tryz.prog 133 #[.int .i64 k, .slice A m c] w fun e w' => e = .returned (.func (.func 170) #[] #[.pointer (some ⟨w.heap.size + 1, 0, none⟩), .pointer (some ⟨w.heap.size, 0, none⟩)]) ∧
      w' = (w.alloc (.cells #[.int .i64 k] 3)).alloc (.cells #[.slice A m c] 48) := by
  refine callsIn_of_wp Tryz.func133 rfl trivial ?_ rfl
  simp only [Tryz.ntmps133, List.size_toArray, List.length_cons, List.length_nil, Nat.reduceAdd, Nat.reduceSub, Array.replicate_succ, Array.replicate_zero, List.push_toArray, List.append_toArray, List.nil_append, List.cons_append]
  gi_wp2
  go_ret
  exact ⟨rfl, rfl⟩

theorem numbers_stops (n : Nat) (hn : 1 ≤ n) (Bb Bk n₀ : Nat) (A : Option Addr) (c k : Nat) (b : List UInt8) (hk : 1 ≤ k) (hk4 : k ≤ 4) (hm : b.length % k = 0) (hs : b.length ≤ 140737488355328) (hbc : b.length ≤ c)
    (w : World) (hBb : w.cell? ⟨Bb, 0, none⟩ = some (.slice A b.length c)) (hBk : w.cell? ⟨Bk, 0, none⟩ = some (.int .i64 (k : Int))) (hb1 : Bb < w.heap.size) (hb2 : Bk < w.heap.size) (hn₀ : n₀ ≤ w.heap.size) (hL : Lies w n₀ A (b.map bv)) :
    SeqStopsK Fence.wide n Tryz.prog 170 #[.pointer (some ⟨Bb, 0, none⟩), .pointer (some ⟨Bk, 0, none⟩)] (fun x : UInt32 => #[Value.int .u32 (x.toNat : Int)]) (Kept n₀ (fun i => i = Bb ∨ i = Bk)) (fun ys => ys = nums k b) (fun pre => pre <+: nums k b) (b.length / k) w := fun l J Jx W hW _ _ hY h0 =>
  numbers1_in n hn l Bb Bk n₀ A c k b hk hk4 hm hs hbc J Jx hY W ((hW.cell (p := ⟨Bb, 0, none⟩) hb1).trans hBb) ((hW.cell (p := ⟨Bk, 0, none⟩) hb2).trans hBk) (hL.below (hW.mono hn₀)) h0

theorem u32info : (Tryz.prog.info? 22).map (fun i => (i.zero, i.size, i.bytes)) = some (some (.int .u32 0), 1, 4) := by kernel_rfl

set_option maxRecDepth 100000 in
set_option maxHeartbeats 2000000 in
theorem numbersF_any (k : Nat) (hk : widthB k = true) (A : Option Addr) (c : Nat) (b : List UInt8) (w : World) (h : Lies w w.heap.size A (b.map bv)) (hm : b.length % k = 0) (hs : b.length ≤ 35184372088832) (hbc : b.length ≤ c) :
    Calls Tryz.prog 85 #[.int .i64 (k : Int), .slice A b.length c] w fun e w' => ∃ A' c', e = .returned (.slice A' (b.length / k) c') ∧
      w'.ownsRow w.heap.size 22 1 (.slice A' (b.length / k) c') (b.length / k) ((nums k b).map uv) ∧ Below w.heap.size w w' := by
  have hk0 : 1 ≤ k := by
    rcases Nat.eq_zero_or_pos k with rfl | h
    · simp [widthB] at hk
    · exact h
  have hk4 : k ≤ 4 := by
    simp [widthB] at hk
    omega
  have hb : (((b.length : Int) % (k : Int)) != 0) = false := by
    rw [bne_eq_false_iff_eq]
    omega
  have hle : b.length / k ≤ b.length := Nat.div_le_self _ _
  obtain ⟨i0, hi, hz0, hz1, hz2⟩ := info_parts u32info
  have hq : wrap64 ((b.length : Int) / (k : Int)) = ((b.length / k : Nat) : Int) := by rw [show ((b.length : Int) / (k : Int)) = ((b.length / k : Nat) : Int) by simp]; generalize b.length / k = q at *; exact IntWalk.wrap64_in _ ⟨by omega, by omega⟩
  have HQ := Lib.hid hq
  have HM := Lib.hid hm
  clear hq hm
  refine (callsIn_wide (n := 6)).1 ?_
  refine callsIn_of_wp_marks Tryz.func85 rfl trivial ?_ rfl
  simp only [Tryz.ntmps85, List.size_toArray, List.length_cons, List.length_nil, Nat.reduceAdd, Nat.reduceSub, Array.replicate_succ, Array.replicate_zero, List.push_toArray, List.append_toArray, List.nil_append, List.cons_append]
  gi_wp2_with (first | (refine ⟨trivial, ?_⟩; gi_at_call 104; refine (callsIn_wide.2 (isWidth_any _ _)).mono ?_; rintro e w' ⟨rfl, rfl⟩) | (gi_at_make; refine wpListIn_make_own _ rfl _ _ 23 rfl w.heap.size 22 i0 _ 1 Tryz.underlying23 hi hz0 hz1 .i64 .i64 _ (b.length / k) rfl rfl HQ.out (by rw [hz2]; omega) (by unfold maxLen; omega) (Nat.le_refl _) ?_; intro w1 hown hgrow) | (refine ⟨trivial, ?_⟩; gi_at_call 133; refine (numbers_in _ _ _ _ _ _).mono ?_; rintro e w' ⟨rfl, rfl⟩))
  have bO := Boxed.new w1 23 (.slice (some ⟨w.heap.size, 0, none⟩) 0 (b.length / k))
  have bK := Boxed.new (w1.alloc (.cells #[.slice (some ⟨w.heap.size, 0, none⟩) 0 (b.length / k)] 23)) 3 (.int .i64 (k : Int))
  have bB := Boxed.new ((w1.alloc (.cells #[.slice (some ⟨w.heap.size, 0, none⟩) 0 (b.length / k)] 23)).alloc (.cells #[.int .i64 (k : Int)] 3)) 48 (.slice A b.length c)
  simp only [World.size_alloc] at bK bB
  have hsz : w.heap.size ≤ w1.heap.size := hgrow.size
  have hb1 : Below w.heap.size w w1 := (Below.refl _ _).grown hgrow (Nat.le_refl _) (by simp)
  have hB0 := ((hb1.alloc hsz (.cells #[.slice (some ⟨w.heap.size, 0, none⟩) 0 (b.length / k)] 23)).alloc (by simp; omega) (.cells #[.int .i64 (k : Int)] 3)).alloc (by simp; omega) (.cells #[.slice A b.length c] 48)
  refine wpIn_rangeFunc_ownG rfl (by omega) (gf := 170) (lb := #[.pointer (some ⟨w1.heap.size + 1 + 1, 0, none⟩), .pointer (some ⟨w1.heap.size + 1, 0, none⟩)]) rfl trivial (enters_of Tryz.func170 (by kernel_rfl) rfl)
    (numbers_stops 5 (by omega) (w1.heap.size + 1 + 1) (w1.heap.size + 1) w.heap.size A c k b hk0 hk4 HM.out (by omega) hbc _ bB.cell (bK.alloc _).cell (by simp) (by simp) (by simp; omega) (h.below hB0))
    Kept.trans (Kept.putObj (by simp; omega) (by simp)) (Below.refl _ _) (fun _ => rfl)
    (fun pre W => (∃ v, Boxed W w1.heap.size 23 v ∧ W.ownsRow w.heap.size 22 1 v pre.length (pre.map uv) ∧ Boxed W (w1.heap.size + 1) 3 (.int .i64 (k : Int)) ∧ Boxed W (w1.heap.size + 1 + 1) 48 (.slice A b.length c)) ∧ Below w.heap.size w W ∧ w1.heap.size + 1 + 1 < W.heap.size)
    (fun _ _ _ => False) ?hI (fun _ _ _ _ _ hs _ _ => hs)
    ⟨⟨_, (bO.alloc _).alloc _, ((hown.alloc _).alloc _).alloc _, bK.alloc _, bB⟩, hB0, by simp⟩
    (fun x => { tmps := #[.int .i64 (k : Int), .slice A b.length c, undef, undef, .slice none 0 0, .pointer (some ⟨w1.heap.size, 0, none⟩), .int .u32 (x.toNat : Int), .int .i64 (k : Int), .bool true, .bool false, .bool false, .slice A b.length c, .int .i64 (b.length : Int), .int .i64 (k : Int), .int .i64 ((b.length : Int) % (k : Int)), .bool false, .bool false, .slice A b.length c, .int .i64 (b.length : Int), .int .i64 (k : Int), .int .i64 (wrap64 ((b.length : Int) / (k : Int))), .slice (some ⟨w.heap.size, 0, none⟩) 0 (b.length / k), .int .i64 (k : Int), .slice A b.length c, .func (.func 170) #[] #[.pointer (some ⟨w1.heap.size + 1 + 1, 0, none⟩), .pointer (some ⟨w1.heap.size + 1, 0, none⟩)], .int .u32 (x.toNat : Int), undef, undef, undef, undef, undef], defers := [] }) ?assign ?body ?done ?stop
  case hI =>
    rintro s X Y row ⟨⟨v, h1, h2, h3, h4⟩, h5, h6⟩ hg hr
    have hne : ∀ (i : Nat) (cs : Array Value) (t : TypeId) (z : Nat × Nat), X.heap[i]? = some (.cells cs t z) → some i ≠ row := by
      intro i cs t z hi e
      obtain ⟨_, o, ho, hoc⟩ := hr i e.symm
      rw [hi] at ho
      cases ho
      cases hoc
    refine ⟨⟨v, h1.kept hg (hne _ _ _ _ h1), h2.kept hg ?_, h3.kept hg (hne _ _ _ _ h3), h4.kept hg (hne _ _ _ _ h4)⟩, h5.grown hg h5.size (fun k e => by have := (hr k e).1; simp at this; omega), Nat.lt_of_lt_of_le h6 hg.size⟩
    rcases h2.2 with ⟨rfl, _⟩ | ⟨g, cap, cur, rfl, _, hh, _⟩
    · exact .inl rfl
    · exact .inr (hne g _ _ _ hh)
  case assign =>
    intro l x W K hK
    gi_wp2
    exact hK
  case body =>
    rintro l pre x W ⟨⟨v, hv, hrow, hk3, hk4'⟩, hB, hW⟩ hlt
    have hc := hv.cell
    gi_wp2_with (gi_at_builtin; refine wpListIn_append_lies _ rfl (.tmp 26) (.tmp 28) 23 rfl w.heap.size 22 _ 4 Tryz.underlying23 u32info rfl _ _ _ rfl (hrow.alloc _) _ _ 1 1 _ rfl rfl (Lies.new1 _ _ _) (by intro u hu; rw [List.mem_singleton.1 hu]; rfl) (by omega) (by unfold maxLen; omega) (by simp; have := hB.size; omega) ?_; intro A' c' w' hown' hgrow' _; obtain ⟨hv1, hv2, hr2, hko, hb2⟩ := hv.appended (by decide) hrow hB.size hsz hown' hgrow'; have hc1 := hv1.cell; have hf1 := hv1.frozen)
    have hg1 : (W.alloc (.cells #[.int .u32 (x.toNat : Int)] 22)).grownBy w' v.ownBlock := hgrow'
    have hx1 : some (w1.heap.size + 1) ≠ v.ownBlock := (boxed_row_ne hk3 (by decide) hrow).symm
    have hx2 : some (w1.heap.size + 1 + 1) ≠ v.ownBlock := (boxed_row_ne hk4' (by decide) hrow).symm
    have n1 := ((hk3.alloc (.cells #[.int .u32 (x.toNat : Int)] 22)).kept hg1 hx1).kept (grownBy_setCell' w' w1.heap.size (.slice A' (pre.length + 1) c')) (by simp)
    have n2 := ((hk4'.alloc (.cells #[.int .u32 (x.toNat : Int)] 22)).kept hg1 hx2).kept (grownBy_setCell' w' w1.heap.size (.slice A' (pre.length + 1) c')) (by simp; omega)
    refine ⟨hko.from _, ⟨hb2, fun i hi => ?_⟩, ⟨_, hv2, by simpa using hr2, n1, n2⟩, hB.trans hb2, Nat.lt_of_lt_of_le hW hb2.size⟩
    rcases hi with rfl | rfl
    · exact n2.trans hk4'.symm
    · exact n1.trans hk3.symm
  case done =>
    rintro D ys W hD rfl ⟨⟨v, hv, hrow, _, _⟩, hB, _⟩ hK
    have hc := hv.cell
    have hl := nums_len k b
    obtain ⟨A', c', rfl⟩ : ∃ A' c', v = .slice A' (nums k b).length c' := by
      rcases hrow.2 with ⟨rfl, h0⟩ | ⟨g, cap, cur, rfl, _⟩
      · exact ⟨none, 0, by rw [h0]⟩
      · exact ⟨_, _, rfl⟩
    rw [hl] at hrow hc
    clear hl hv
    gi_wp2
    refine ⟨by simp, .inl ⟨_, _, rfl, run_takeDeferred hK, ?_⟩⟩
    exact ⟨_, results_tmp rfl _ _ _, A', c', rfl, ownsRow_putObj hrow _ hK rfl, hB.trans (belowK_b (w := w) (Nat.le_refl _) W D _ _ (by simp at hD; omega) hK rfl rfl)⟩
  case stop =>
    rintro D c pre W _ _ h _
    exact h.elim
end Go.Proofs.YteknmgmdmjmnmaaGreatDoor



namespace Go.Proofs.YteknmgmdmjmnmaaGreatDoor

theorem numOf_one (a : UInt8) : numOf [a] = a.toNat := by
  have := a.toNat_lt
  simp only [numOf, List.foldl_cons, List.foldl_nil, numStep]; omega
theorem numOf_pair (a b : UInt8) : numOf [a, b] = a.toNat * 256 + b.toNat := by
  have := a.toNat_lt
  have := b.toNat_lt
  simp only [numOf, List.foldl_cons, List.foldl_nil, numStep]; omega
theorem numOf_four (a b c d : UInt8) : numOf [a, b, c, d] = ((a.toNat * 256 + b.toNat) * 256 + c.toNat) * 256 + d.toNat := by
  have := a.toNat_lt
  have := b.toNat_lt
  have := c.toNat_lt
  have := d.toNat_lt
  simp only [numOf, List.foldl_cons, List.foldl_nil, numStep]; omega
theorem beByte_toNat (s : Nat) (x : UInt32) : (beByte s x).toNat = x.toNat / 2 ^ s % 256 := by
  unfold beByte
  rw [UInt8.toNat_ofNat']
theorem u32_ofNat {n : Nat} (h : n < 4294967296) : (UInt32.ofNat n).toNat = n := by
  rw [UInt32.toNat_ofNat']
  exact Nat.mod_eq_of_lt h
/-- a number that is put and read again, modulo 256 ^ k -/
theorem numOf_be {k : Nat} (hk : k = 1 ∨ k = 2 ∨ k = 4) (x : UInt32) : numOf (be k x) = x.toNat % 256 ^ k := by
  have hx := x.toNat_lt
  rcases hk with rfl | rfl | rfl
  · have e : be 1 x = [beByte 0 x] := rfl
    rw [e, numOf_one, beByte_toNat]
    omega
  · have e : be 2 x = [beByte 8 x, beByte 0 x] := rfl
    rw [e, numOf_pair, beByte_toNat, beByte_toNat]
    omega
  · have e : be 4 x = [beByte 24 x, beByte 16 x, beByte 8 x, beByte 0 x] := rfl
    rw [e, numOf_four, beByte_toNat, beByte_toNat, beByte_toNat, beByte_toNat]
    omega
end Go.Proofs.YteknmgmdmjmnmaaGreatDoor


