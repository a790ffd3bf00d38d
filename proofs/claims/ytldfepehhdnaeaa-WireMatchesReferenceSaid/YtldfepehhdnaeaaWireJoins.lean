/- Layer 1, the law WireJoins: the walk. -/
import Derived.Test.YtldfepehhdnaeaaWireG
import Derived.Test.YtldfepehhdnaeaaWireOpen
namespace Go.Proofs.Ytldfepehhdnaeaa
open Go.RowKit Go.ChangeShapes Go.WideShapes Go.ChangeAt

theorem bsinfo : (Try.prog.info? 22).map (fun i => (i.zero, i.size, i.bytes)) = some (some (.slice none 0 0), 1, 24) := by kernel_rfl

theorem wjoins_long (A : Option Addr) (n c : Nat) (w : World) (hn : 50 < n) :
    Calls Try.prog 6 #[.slice A n c] w fun e w' => e = .returned (.bool true) ∧ Below w.heap.size w w' := by
  go_enter Try.func6, Try.ntmps6
  go_wp2_with fail
  refine (awake_any w).mono ?_
  rintro e w1 ⟨rfl, b1⟩
  go_wp2_with fail
  refine (awake_any w1).mono ?_
  rintro e w2 ⟨rfl, b2⟩
  go_wp2_with fail
  go_ret
  exact ⟨rfl, b1.trans (b2.mono b1.size)⟩

/-- the copies of the first k parts -/
structure Copies (w : World) (base : Nat) (vs : List Value) (ps : List (List UInt8)) : Prop where
  len : vs.length = ps.length
  each : ∀ (i : Nat) (p : List UInt8), ps[i]? = some p → ∃ A c, vs[i]? = some (.slice A p.length c) ∧ w.ownsRow base 5 1 (.slice A p.length c) p.length (p.map bv)
theorem Copies.kept {w w' : World} {base : Nat} {vs : List Value} {ps : List (List UInt8)} (h : Copies w base vs ps) (hb : Below w.heap.size w w') : Copies w' base vs ps :=
  ⟨h.len, fun i p hp => by obtain ⟨A, c, h1, h2⟩ := h.each i p hp; exact ⟨A, c, h1, own_below' h2 hb⟩⟩
theorem Copies.grown {w w' : World} {base : Nat} {vs : List Value} {ps : List (List UInt8)} (h : Copies w base vs ps) {v : Value} {n : Nat} {xs : List Value} (ho : w.ownsRow base 22 1 v n xs) (hg : w.grownBy w' v.ownBlock) : Copies w' base vs ps :=
  ⟨h.len, fun i p hp => by
    obtain ⟨A, c, h1, h2⟩ := h.each i p hp
    refine ⟨A, c, h1, h2.kept hg ?_⟩
    rcases h2.2 with ⟨h3, _⟩ | ⟨g, cap, cur, h3, _, h4, _⟩
    · rw [h3]; exact .inl rfl
    · rw [h3]
      refine .inr fun e => ?_
      rcases ho.2 with ⟨h5, _⟩ | ⟨g', cap', cur', h5, _, h6, _⟩
      · rw [h5] at e; simp [Value.ownBlock] at e
      · rw [h5] at e
        have : g = g' := by simpa [Value.ownBlock] using e
        subst this
        rw [h4] at h6
        simp at h6⟩
theorem Copies.add {w : World} {base : Nat} {vs : List Value} {ps : List (List UInt8)} (h : Copies w base vs ps) {A : Option Addr} {c : Nat} {p : List UInt8} (hp : w.ownsRow base 5 1 (.slice A p.length c) p.length (p.map bv)) :
    Copies w base (vs ++ [.slice A p.length c]) (ps ++ [p]) := by
  refine ⟨by simp [h.len], fun i q hq => ?_⟩
  rcases Nat.lt_or_ge i ps.length with hi | hi
  · rw [List.getElem?_append_left hi] at hq
    obtain ⟨A', c', h1, h2⟩ := h.each i q hq
    exact ⟨A', c', by rw [List.getElem?_append_left (by rw [h.len]; exact hi), h1], h2⟩
  · rw [List.getElem?_append_right hi] at hq
    have h0 : i - ps.length = 0 := by
      have := (List.getElem?_eq_some_iff.1 hq).1
      simp at this
      omega
    rw [h0] at hq
    simp only [List.getElem?_cons_zero, Option.some.injEq] at hq
    subst hq
    have : i = vs.length := by rw [h.len]; omega
    subst this
    exact ⟨A, c, by simp, hp⟩
theorem Copies.parts {w : World} {base n co : Nat} {A : Option Addr} {vs : List Value} {ps : List (List UInt8)} (h : Copies w base vs ps) (ho : w.ownsRow base 22 1 (.slice A n co) n vs) : Parts w w.heap.size A vs ps :=
  ⟨Lies.own ho, h.len, fun i p hp => by
    obtain ⟨A', c', h1, h2⟩ := h.each i p hp
    exact ⟨_, h1, A', c', rfl, Lies.own h2, (own_cap h2).2.1, (own_cap h2).2.2⟩⟩

theorem own_empty (w : World) (base : Nat) (hb : base ≤ w.heap.size) : (w.alloc (.cells #[] 5)).ownsRow base 5 1 (.slice (some ⟨w.heap.size, 0, none⟩) 0 0) 0 [] :=
  World.ownsRow_made w #[] 0 hb (Nat.zero_le _) rfl

theorem cp_first {w wr w3 : World} {k c2 c3 : Nat} {A2 A3 : Option Addr} {us : List Value} {ps : List (List UInt8)} {p : List UInt8} (own2 : wr.ownsRow w.heap.size 22 1 (.slice A2 k c2) k us) (cop2 : Copies wr w.heap.size us ps) (hbel : Below w.heap.size w wr)
    (hown3 : w3.ownsRow w.heap.size 5 1 (.slice A3 (0 + p.length) c3) (0 + p.length) ([] ++ p.map bv)) (hgrow3 : (wr.alloc (.cells #[] 5)).grownBy w3 (some wr.heap.size)) :
    w3.ownsRow w.heap.size 5 1 (.slice A3 p.length c3) p.length (p.map bv) ∧ w3.ownsRow w.heap.size 22 1 (.slice A2 k c2) k us ∧ Copies w3 w.heap.size us ps ∧ Below w.heap.size w w3 := by
  have hb : Below wr.heap.size wr w3 := ((Below.refl _ wr).alloc (Nat.le_refl _) _).grown hgrow3 (by simp) (fun j e => by cases e; exact Nat.le_refl _)
  exact ⟨by simpa using hown3, own_below' own2 hb, cop2.kept hb, hbel.trans (hb.mono hbel.size)⟩
theorem cp_second {w w3 w5 : World} {k c2 c3 c5 : Nat} {A2 A3 A5 : Option Addr} {us : List Value} {ps : List (List UInt8)} {p : List UInt8} {tmp : Obj} (cp3 : w3.ownsRow w.heap.size 5 1 (.slice A3 p.length c3) p.length (p.map bv)) (own3 : w3.ownsRow w.heap.size 22 1 (.slice A2 k c2) k us) (cop3 : Copies w3 w.heap.size us (ps.take k)) (hb3 : Below w.heap.size w w3)
    (hp : ps[k]? = some p) (_hown5 : w5.ownsRow w.heap.size 22 1 (.slice A5 (k + 1) c5) (k + 1) (us ++ [.slice A3 p.length c3])) (hgrow5 : (w3.alloc tmp).grownBy w5 (Value.slice A2 k c2).ownBlock) :
    Copies w5 w.heap.size (us ++ [.slice A3 p.length c3]) (ps.take (k + 1)) ∧ Below w.heap.size w w5 := by
  have hb0 := (Below.refl w3.heap.size w3).alloc (Nat.le_refl _) tmp
  refine ⟨?_, below_own (hb3.alloc hb3.size tmp) (own3.alloc tmp) hgrow5 (Nat.le_refl _) (by simp; have := hb3.size; omega)⟩
  rw [take_some hp]
  exact ((cop3.add cp3).kept hb0).grown (own3.alloc tmp) hgrow5

/-- while the copies are changed -/
structure Mut (w : World) (base top : Nat) (vs : List Value) (ps : List (List UInt8)) : Prop where
  len : vs.length = ps.length
  each : ∀ (i : Nat) (p : List UInt8), ps[i]? = some p → ∃ A c l, vs[i]? = some (.slice A p.length c) ∧ w.ownsRow base 5 1 (.slice A p.length c) p.length ((l : List UInt8).map bv) ∧ ∀ g, (Value.slice A p.length c).ownBlock = some g → g < top
theorem own_u8_stored {w : World} {base n g j c : Nat} {A : Option Addr} {l : List UInt8} (h : w.ownsRow base 5 1 (.slice A n c) n (l.map bv)) (y : UInt8) :
    ∃ l' : List UInt8, (w.setCell ⟨g, j, none⟩ (bv y)).ownsRow base 5 1 (.slice A n c) n (l'.map bv) := by
  by_cases hg : (Value.slice A n c).ownBlock = some g
  · obtain ⟨g', hA, hg'⟩ : ∃ g', A = some ⟨g', 0, none⟩ ∧ g' = g := by
      rcases h.2 with ⟨h1, _⟩ | ⟨g', cap, cur, h1, _⟩
      · rw [h1] at hg; simp [Value.ownBlock] at hg
      · rw [h1] at hg
        simp only [Value.slice.injEq] at h1
        exact ⟨g', h1.1, by simpa [Value.ownBlock] using hg⟩
    subst hA
    subst hg'
    refine ⟨l.set j y, ?_⟩
    have := (h.stored j (bv y)).1
    rw [List.map_set]
    exact this
  · exact ⟨l, h.kept (grown_set w g j (bv y)) (.inr hg)⟩
theorem Mut.stored {w : World} {base top g j : Nat} {vs : List Value} {ps : List (List UInt8)} (h : Mut w base top vs ps) (y : UInt8) : Mut (w.setCell ⟨g, j, none⟩ (bv y)) base top vs ps :=
  ⟨h.len, fun i p hp => by
    obtain ⟨A, c, l, h1, h2, h3⟩ := h.each i p hp
    obtain ⟨l', h4⟩ := own_u8_stored (g := g) (j := j) h2 y
    exact ⟨A, c, l', h1, h4, h3⟩⟩
theorem Mut.start {w w' : World} {base : Nat} {vs : List Value} {ps : List (List UInt8)} (h : Copies w base vs ps) (hb : Below w.heap.size w w') : Mut w' base w.heap.size vs ps :=
  ⟨h.len, fun i p hp => by
    obtain ⟨A, c, h1, h2⟩ := h.each i p hp
    exact ⟨A, c, p, h1, own_below' h2 hb, fun g hg => (h2.lt g hg).2⟩⟩
theorem Mut.at_ {w : World} {base top : Nat} {vs : List Value} {ps : List (List UInt8)} (h : Mut w base top vs ps) {i : Nat} {p : List UInt8} (hp : ps[i]? = some p) {A : Option Addr} {c : Nat} (hv : vs[i]? = some (.slice A p.length c)) :
    ∃ l : List UInt8, w.ownsRow base 5 1 (.slice A p.length c) p.length (l.map bv) ∧ ∀ g, (Value.slice A p.length c).ownBlock = some g → g < top := by
  obtain ⟨A', c', l, h1, h2, h3⟩ := h.each i p hp
  rw [hv] at h1
  simp only [Option.some.injEq, Value.slice.injEq, true_and] at h1
  obtain ⟨rfl, rfl⟩ := h1
  exact ⟨l, h2, h3⟩
theorem inc_byte (y : UInt8) : (((y.toNat : Int) + 1) % 256) = ((y + 1).toNat : Int) := by
  rw [UInt8.toNat_add]
  have : (1 : UInt8).toNat = 1 := rfl
  rw [this]
  omega

theorem wjoins_any (A : Option Addr) (c : Nat) (vs : List Value) (ps : List (List UInt8)) (w : World) (h : Parts w w.heap.size A vs ps) (hn : ps.length ≤ 50) (hps : ∀ (i : Nat) (p : List UInt8), ps[i]? = some p → p.length ≤ 140737488351232) :
    Calls Try.prog 6 #[.slice A ps.length c] w fun e w' => e = .returned (.bool true) ∧ Below w.heap.size w w' := by
  have HP := Lib.hid hps
  have htot : ∀ k, k ≤ ps.length → tot (ps.take k) ≤ k * 140737488351232 := by
    intro k
    induction k with
    | zero => intro _; simp [tot]
    | succ k ih =>
      intro hk
      have h1 := tot_take (List.getElem?_eq_getElem (show k < ps.length by omega))
      have h2 := hps k _ (List.getElem?_eq_getElem (show k < ps.length by omega))
      have h3 := ih (by omega)
      omega
  have HT := Lib.hid htot
  clear hps htot
  go_enter Try.func6, Try.ntmps6
  go_wp2_with fail
  refine (awake_any w).mono ?_
  rintro e w1 ⟨rfl, b1⟩
  go_wp2
  go_loopw [3, 4, 5] (fun v n i wr => ∃ (k : Nat) (A' : Option Addr) (c' : Nat) (us : List Value), k ≤ ps.length ∧ i = .int .i64 k ∧ n = .int .i64 (tot (ps.take k) : Nat) ∧ v = .slice A' k c' ∧
      wr.ownsRow w.heap.size 22 1 (.slice A' k c') k us ∧ Copies wr w.heap.size us (ps.take k) ∧ Below w.heap.size w wr)
    (fun _ _ i _ => ps.length - (intOf i).toNat)
  case atStart => exact ⟨0, _, _, [], Nat.zero_le _, rfl, rfl, rfl, World.ownsRow_nil _ _ _ _, ⟨rfl, fun i p hp => by simp at hp⟩, b1⟩
  case round =>
    obtain ⟨k, A2, c2, us, hk, rfl, rfl, rfl, own2, cop2, hbel⟩ := hrel
    by_cases hlt : k < ps.length
    · obtain ⟨ad, A', c', p, rfl, hbl, hp, hc0, hlp, hl1, hl2⟩ := (h.below hbel).at_ hlt
      have hcA := (((Below.refl _ wr).alloc hbel.size (.cells #[] 5)).cell (p := ad.add k) (by rw [blk_add]; exact hbl)).trans hc0
      have hcw := ((hbel.cell (p := ad.add k) (by rw [blk_add]; exact hbl)).symm).trans hc0
      have hpl := HP.out k p hp.out
      have ht := HT.out k hk
      have ht1 : tot (ps.take k) ≤ 7036874417561600 := by omega
      have hoe := own_empty wr w.heap.size hbel.size
      have hbz := Lib.hid hbel.size
      go_wp2_with (first | (at_builtin; refine wpList_append_lies _ rfl (.tmp 24) (.tmp 28) 22 rfl w.heap.size 5 _ 1 Try.underlying22 u8info rfl _ _ _ rfl hoe _ A' p.length c' _ rfl (by simp) (hlp.alloc hbel.size _) (one_bytes p) (by omega) (by unfold maxLen; omega) (by simp; have := hbel.size; omega) ?_; intro A3 c3 w3 hown3 hgrow3 _; obtain ⟨cp3, own3, cop3, hb3⟩ := cp_first own2 cop2 hbel hown3 hgrow3) | (at_builtin; refine wpList_append_lies _ rfl (.tmp 23) (.tmp 30) 47 rfl w.heap.size 22 _ 24 Try.underlying47 bsinfo rfl _ _ _ rfl (own3.alloc _) _ _ 1 1 _ rfl rfl (Lies.new1 _ _ _) (by intro u hu; rw [List.mem_singleton.1 hu]; rfl) (by omega) (by unfold maxLen; omega) (by simp; have := hb3.size; omega) ?_; intro A5 c5 w5 hown5 hgrow5 _; obtain ⟨cop5, hb5⟩ := cp_second cp3 own3 cop3 hb3 hp.out hown5 hgrow5; have hc5 := (hb5.cell (p := ad.add k) (by rw [blk_add]; exact hbl)).trans hcw))
      have H2 := Lib.hid (tot_take hp.out)
      go_roundw
      case rel => exact ⟨k + 1, A5, c5, _, by omega, by go_num, by rw [H2.out]; go_num, rfl, hown5, cop5, hb5⟩
      case measure => simp [intOf]; omega
    · obtain rfl : k = ps.length := by omega
      rw [List.take_length] at cop2
      have hto := HT.out ps.length (Nat.le_refl _)
      rw [List.take_length] at hto
      by_cases ht5 : tot ps ≤ 5000
      · have hj := join_any A2 c2 us ps wr (cop2.parts own2) (by unfold maxLen; omega) (by omega)
        have HJ := Lib.hid hj
        clear hj
        go_wp2_with fail
        refine HJ.out.mono ?_
        rintro e w7 ⟨A7, c7, rfl, own7, b7⟩
        have mut7 := Mut.start cop2 b7
        have own27 := own_below' own2 b7
        have hb7 := hbel.trans (b7.mono hbel.size)
        have hbz := hbel.size
        generalize hT : wr.heap.size = T at *
        clear cop2 own2 b7 hbel HJ
        go_wp2
        go_loopw [7, 8] (fun i _ ww => ∃ j : Nat, j ≤ ps.length ∧ i = .int .i64 j ∧ Mut ww w.heap.size T us ps ∧ ww.ownsRow w.heap.size 22 1 (.slice A2 ps.length c2) ps.length us ∧
            ww.ownsRow T 5 1 (.slice A7 (tot ps) c7) (tot ps) (ps.flatten.map bv) ∧ Below w.heap.size w ww) (fun i _ _ => ps.length - (intOf i).toNat)
        case atStart => exact ⟨0, Nat.zero_le _, rfl, mut7, own27, own7, hb7⟩
        case round =>
          obtain ⟨j, hj, rfl, mutj, ownj, allj, bj⟩ := hrel
          by_cases hlj : j < ps.length
          · obtain ⟨p, hp⟩ : ∃ p, Hid (ps[j]? = some p) := ⟨_, List.getElem?_eq_getElem hlj⟩
            obtain ⟨Ai, ci, _, hu0, _, _⟩ := mutj.each j p hp.out
            have hu := Lib.hid hu0
            clear hu0
            go_wp2
            go_loopw [8] (fun i ww => ∃ m : Nat, m ≤ p.length ∧ i = .int .i64 m ∧ Mut ww w.heap.size T us ps ∧ ww.ownsRow w.heap.size 22 1 (.slice A2 ps.length c2) ps.length us ∧
              ww.ownsRow T 5 1 (.slice A7 (tot ps) c7) (tot ps) (ps.flatten.map bv) ∧ Below w.heap.size w ww) (fun i _ => p.length - (intOf i).toNat)
            case atStart => exact ⟨0, Nat.zero_le _, rfl, mutj, ownj, allj, bj⟩
            case round =>
              obtain ⟨m, hm, rfl, mutm, ownm, allm, bm⟩ := hrel
              obtain ⟨go, xo, rfl, hxo, hco, hfo, _, _⟩ := own_at ownm hlj
              have hxo2 : xo = .slice Ai p.length ci := by
                have := hxo.out
                rw [hu.out] at this
                exact (Option.some.inj this).symm
              subst hxo2
              obtain ⟨l, hol, htop⟩ := mutm.at_ hp.out hu.out
              have hpl := (own_cap hol).2
              unfold maxLen at hpl
              have hp1 := hpl.1
              have hp2 := hpl.2
              clear hpl
              by_cases hlm : m < p.length
              · obtain ⟨gi, xi, rfl, hxi, hci, hfi, hgb, _⟩ := own_at hol hlm
                obtain ⟨y, rfl⟩ : ∃ y : UInt8, xi = .int .u8 (y.toNat : Int) := by
                  have h1 := hxi.out
                  rw [List.getElem?_map] at h1
                  obtain ⟨y, _, h2⟩ := Option.map_eq_some_iff.1 h1
                  exact ⟨y, h2.symm⟩
                have hgt : gi < T := htop gi rfl
                have H1 := Lib.hid (inc_byte y)
                have fin : Mut (wr.setCell ⟨gi, m, none⟩ (.int .u8 (((y.toNat : Int) + 1) % 256))) w.heap.size T us ps ∧ (wr.setCell ⟨gi, m, none⟩ (.int .u8 (((y.toNat : Int) + 1) % 256))).ownsRow w.heap.size 22 1 (.slice (some ⟨go, 0, none⟩) ps.length c2) ps.length us ∧
                    (wr.setCell ⟨gi, m, none⟩ (.int .u8 (((y.toNat : Int) + 1) % 256))).ownsRow T 5 1 (.slice A7 (tot ps) c7) (tot ps) (ps.flatten.map bv) ∧ Below w.heap.size w (wr.setCell ⟨gi, m, none⟩ (.int .u8 (((y.toNat : Int) + 1) % 256))) := by
                  refine ⟨by rw [H1.out]; exact mutm.stored (y + 1), ownm.kept (grown_set _ _ _ _) (.inr fun e => ?_), ownsRow_setCell_below allm hgt _, bm.setCell hgb _⟩
                  have h1 : go = gi := by simpa [Value.ownBlock] using e
                  subst h1
                  rcases ownm.2 with ⟨h2, _⟩ | ⟨g', cap, cur, h2, _, h3, _⟩
                  · cases h2
                  · rcases hol.2 with ⟨h4, _⟩ | ⟨g2, cap2, cur2, h4, _, h5, _⟩
                    · cases h4
                    · simp only [Value.slice.injEq, Option.some.injEq, Addr.mk.injEq, and_true] at h2 h4
                      rw [← h2.1] at h3
                      rw [← h4.1] at h5
                      rw [h3] at h5
                      simp at h5
                have HF := Lib.hid fin
                clear fin mutm ownm allm bm hol
                go_wp2
                go_roundw
                case rel => exact ⟨m + 1, by omega, by go_num, HF.out.1, HF.out.2.1, HF.out.2.2.1, HF.out.2.2.2⟩
                case measure => simp [intOf]; omega
              · clear hol
                go_wp2
                go_roundw
                case rel => exact ⟨j + 1, by omega, by go_num, mutm, ownm, allm, bm⟩
                case measure => simp [intOf]; omega
          · have hR := Lib.hid (rjoin_any A c vs ps wr ((h.below bj).more bj.size) (by unfold maxLen; omega) (by omega))
            clear mutj ownj
            go_wp2_with fail
            refine hR.out.mono ?_
            rintro e w8 ⟨A8, c8, rfl, own8, b8⟩
            have own78 := own_below' allj b8
            have hb8 := bj.trans (b8.mono bj.size)
            have hS := same_any A7 A8 c7 c8 w8.heap.size ps.flatten ps.flatten w8 (Lies.own own78) (Lies.own own8) (by have : ps.flatten.length = tot ps := rfl; unfold maxLen; omega)
            rw [decide_eq_true rfl] at hS
            have HS := Lib.hid hS
            clear hS
            go_wp2_with fail
            refine HS.out.mono ?_
            rintro e w9 ⟨rfl, q, h9⟩
            have hb9 : Below w.heap.size w w9 := by rw [h9]; exact below_drewN hb8 _
            clear h9
            go_wp2_with fail
            go_ret
            exact ⟨rfl, hb9⟩
      · go_wp2
        go_ret
        exact ⟨rfl, hbel⟩

theorem law_WireJoins {H : Type} {enc : TypeId × Value → H} {W : World} {base : Nat} {v0 : Value} {d0 : DataW H} {p0 : List MemPlace}
    (o0 : Value.okWide Try.prog W .any base 47 v0) (h0 : DataW.Trod enc Try.prog W 0 (fun _ => true) true 47 v0 d0 p0) (s0 : Small Try.prog 47 d0) :
    Calls Try.prog 6 #[v0] W fun e w' => e = .returned (.bool true) ∧ Below W.heap.size W w' := by
  obtain ⟨A, n, c, rfl⟩ := okWide_slice Try.underlying47 o0
  obtain ⟨fuel, hf⟩ := h0
  obtain ⟨vs, ps, rfl, hp, hc, hcm, hps⟩ := open_parts hf s0
  by_cases hn : ps.length ≤ 50
  · exact wjoins_any A c vs ps W hp hn hps
  · exact wjoins_long A ps.length c W (by omega)
end Go.Proofs.Ytldfepehhdnaeaa
