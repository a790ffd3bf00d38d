/- Layer 9, the reference: Parse reads what rp says. It writes nothing that was there. -/
import Derived.Test.YtemeeeiglifpaaaDoorAddrGA
import Derived.Test.YtemeeeiglifpaaaDoorAddrGD



namespace Go.Proofs.YtemeeeiglifpaaaDoor
open Go.RowKit Go.Shelf

theorem intinfoV : (Tryd.prog.info? 3).map (fun i => (i.zero, i.size, i.bytes)) = some (some (.int .i64 0), 1, 8) := by kernel_rfl
def ints (L : List Nat) : List Value := L.map fun (u : Nat) => .int .i64 (u : Int)
theorem whole_row_neV {W : World} {g : Nat} {t e : TypeId} {cs : Array Value} (h : Whole W g t cs) (hte : t ≠ e) {base size n : Nat} {v : Value} {xs : List Value} (hr : W.ownsRow base e size v n xs) : v.ownBlock ≠ some g := by
  rcases hr.2 with ⟨rfl, _⟩ | ⟨q, cap, cur, rfl, _, hq, _⟩
  · simp [Value.ownBlock]
  · intro he
    simp only [Value.ownBlock, Option.some.injEq] at he
    subst he
    unfold Whole at h
    rw [h] at hq
    simp only [Option.some.injEq, Obj.cells.injEq] at hq
    exact hte hq.2.1
theorem grownBy_setCellV (W : World) (b o : Nat) (v : Value) : W.grownBy (W.setCell ⟨b, o, none⟩ v) (some b) :=
  ⟨rfl, rfl, rfl, (KeepsWalks.setCell W _ v).size, fun k _ hk => Below.heap_setCell _ _ _ k (fun e => hk (by rw [e]))⟩
theorem rows_neV {W : World} {b1 b2 s1 s2 m1 m2 : Nat} {e1 e2 : TypeId} {v1 v2 : Value} {x1 x2 : List Value} (h1 : W.ownsRow b1 e1 s1 v1 m1 x1) (h2 : W.ownsRow b2 e2 s2 v2 m2 x2) (h : e1 ≠ e2) : v1.ownBlock = none ∨ v1.ownBlock ≠ v2.ownBlock := by
  rcases h1.2 with ⟨rfl, _⟩ | ⟨g, cap, cur, rfl, _, hg, _⟩
  · exact .inl rfl
  · refine .inr fun e => ?_
    rcases h2.2 with ⟨rfl, _⟩ | ⟨g', cap', cur', rfl, _, hg', _⟩
    · cases e
    · simp only [Value.ownBlock, Option.some.injEq] at e
      subst e
      rw [hg] at hg'
      simp only [Option.some.injEq, Obj.cells.injEq] at hg'
      exact h hg'.2.1
theorem u8_rem (u : Nat) : IntKind.u8.wrap ((u : Int).tmod 256) = ((UInt8.ofNat u).toNat : Int) := by
  rw [UInt8.toNat_ofNat', Int.tmod_eq_emod_of_nonneg (by omega)]
  simp [IntKind.wrap, IntKind.bits, IntKind.signed]
theorem u8_quo (u : Nat) (h : u ≤ 65535) : IntKind.u8.wrap (IntKind.i64.wrap ((u : Int) / 256)) = ((UInt8.ofNat (u / 256)).toNat : Int) := by
  have h1 : (u : Int) / 256 = ((u / 256 : Nat) : Int) := by omega
  have h2 : u / 256 ≤ 255 := by omega
  rw [h1, UInt8.toNat_ofNat']
  generalize u / 256 = q at *
  rw [IntKind.wrap_i64]
  simp [IntKind.wrap, IntKind.bits, IntKind.signed]
  omega
theorem rdat_len (b : Nat) (L : List Nat) : (rdat b L).length = if b = 16 then 2 * L.length else L.length := by
  unfold rdat
  split
  · exact unp_length L
  · simp
theorem rdat_take {b : Nat} (hb : b = 10 ∨ b = 16) {L : List Nat} {j u : Nat} (h : L[j]? = some u) : rdat b (L.take (j + 1)) = rdat b (L.take j) ++ (if b = 16 then [UInt8.ofNat (u / 256), UInt8.ofNat (u % 256)] else [UInt8.ofNat u]) := by
  unfold rdat
  rw [take_some h]
  rcases hb with rfl | rfl
  · simp
  · simp [unp]
theorem run_take_succ {b : Nat} {sg : UInt8} {l : List UInt8} {k : Nat} {c : UInt8} (hc : l[k]? = some c) {st : St} (h : run b sg ([], none) (l.take k) = some st) : run b sg ([], none) (l.take (k + 1)) = stp b sg st c := by
  rw [take_some hc, run_snoc, h]
theorem run_none_of {b : Nat} {sg : UInt8} {l : List UInt8} {k : Nat} (h : run b sg ([], none) (l.take k) = none) : run b sg ([], none) l = none := by
  have h1 := run_append b sg ([], none) (l.take k) (l.drop k)
  rw [List.take_append_drop, h] at h1
  exact h1
theorem words_none_of {b : Nat} {sg : UInt8} {l : List UInt8} {k : Nat} (h : run b sg ([], none) (l.take k) = none) : words b sg l = none := by
  unfold words
  rw [run_none_of h]
theorem rp_none_of {b : Nat} {sg : UInt8} {l : List UInt8} (hb : bse l = b ∧ sgn l = sg) (h : words b sg l = none) : rp l = none := by
  unfold rp
  rw [hb.1, hb.2, h]
theorem stp_len {b : Nat} {sg : UInt8} {s s' : St} {c : UInt8} (h : stp b sg s c = some s') : s'.1.length ≤ s.1.length + 1 := by
  unfold stp at h
  split at h
  · split at h
    · cases h
    · cases h; simp
  · split at h
    · cases h
    · split at h
      · cases h
      · cases h; simp
theorem run_len' {b : Nat} {sg : UInt8} : ∀ (l : List UInt8) (s s' : St), run b sg s l = some s' → s'.1.length ≤ s.1.length + l.length := by
  intro l
  induction l with
  | nil => intro s s' h; rw [run] at h; cases h; simp
  | cons c l ih =>
    intro s s' h
    rw [run] at h
    cases h1 : stp b sg s c with
    | none => rw [h1] at h; cases h
    | some s1 =>
      rw [h1] at h
      have := ih s1 s' h
      have := stp_len h1
      simp only [List.length_cons]
      omega
theorem run_len {b : Nat} {sg : UInt8} {l : List UInt8} {L : List Nat} {o : Option Nat} (h : run b sg ([], none) l = some (L, o)) : L.length ≤ l.length := by
  have := run_len' l _ _ h
  simpa using this
theorem words_len {b : Nat} {sg : UInt8} {l : List UInt8} {L : List Nat} (h : words b sg l = some L) : L.length ≤ l.length + 1 := by
  unfold words at h
  cases hr : run b sg ([], none) l with
  | none => rw [hr] at h; cases h
  | some st =>
    rw [hr] at h
    obtain ⟨M, o⟩ := st
    have := run_len hr
    cases o with
    | none => cases h
    | some u => cases h; simp; omega
/-- what the reference's Parse returns -/
def RpV (l : List UInt8) (w : World) (e : Ending) (w' : World) : Prop := Below w.heap.size w w' ∧
  ((∃ (t : UInt16) (v : List UInt8) (A' : Option Addr) (c' : Nat), rp l = some (t, v) ∧ e = .returned (.tuple #[ndV (.mk t v []) A' c' none 0, .bool true]) ∧ Node w' w'.heap.size A' c' none 0 (.mk t v [])) ∨
   (rp l = none ∧ e = .returned (.tuple #[znd, .bool false])))

set_option maxRecDepth 100000 in
set_option maxHeartbeats 32000000 in
theorem rparse_any (s : ByteArray) (hs : s.size ≤ 1000) (w : World) : Calls Tryd.prog 8 #[.string s] w (RpV s.data.toList w) := by
  obtain ⟨l, hl⟩ : ∃ l, Hid (s.data.toList = l) := ⟨_, rfl⟩
  have hln : Hid (s.size = l.length) := by unfold Hid; rw [← hl.out, Array.length_toList]; rfl
  rw [hl.out]
  have HB0 : Below w.heap.size w (w.alloc (.cells #[.int .u16 0, .slice none 0 0, .slice none 0 0] 27)) := (Below.refl _ w).alloc (Nat.le_refl _) _
  have hz0 := Whole.new w 27 #[.int .u16 0, .slice none 0 0, .slice none 0 0]
  have hs0 : w.heap.size + 1 ≤ (w.alloc (.cells #[.int .u16 0, .slice none 0 0, .slice none 0 0] 27)).heap.size := by simp
  go_enter Tryd.func8, Tryd.ntmps8
  go_wp2_with fail
  generalize w.alloc (.cells #[.int .u16 0, .slice none 0 0, .slice none 0 0] 27) = w0 at *
  go_loop [4, 5, 6] (fun bv_ sv iv => ∃ k : Nat, k ≤ s.size ∧ iv = .int .i64 k ∧ ((bv_ = .int .i64 10 ∧ sv = .int .u8 46 ∧ Hid ((58 : UInt8) ∉ l.take k)) ∨ (bv_ = .int .i64 16 ∧ sv = .int .u8 58 ∧ Hid ((58 : UInt8) ∈ l.take k)))) (fun _ _ iv => s.size - (intOf iv).toNat)
  case atStart => exact ⟨0, Nat.zero_le _, rfl, .inl ⟨rfl, rfl, by simp [Hid]⟩⟩
  case round =>
    obtain ⟨k, hk, rfl, hcase⟩ := hrel
    by_cases hlt : k < s.size
    · have hat := str_at s k hlt
      rw [hl.out] at hat
      have hlt1 : (k : Int) < (s.size : Int) := by omega
      obtain ⟨c, hce⟩ : ∃ c, s[k]'hlt = c := ⟨_, rfl⟩
      rw [hce] at hat
      by_cases h58 : c = 58
      · have HM : Hid ((58 : UInt8) ∈ l.take (k + 1)) := by unfold Hid; rw [take_some hat, h58]; simp
        have hcI : (c.toNat : Int) = 58 := by rw [h58]; rfl
        have hcB : ((c.toNat : Int) == 58) = true := by rw [hcI]; rfl
        clear hat h58
        rcases hcase with ⟨rfl, rfl, hm⟩ | ⟨rfl, rfl, hm⟩
        all_goals
          go_wp2_with fail
          go_round
          case rel => exact ⟨k + 1, by omega, by go_num, .inr ⟨rfl, rfl, HM⟩⟩
          case measure => simp [intOf]; omega
      · have hcI : ¬ (c.toNat : Int) = 58 := fun e => h58 (UInt8.toNat_inj.1 (by show c.toNat = 58; omega))
        have hcB : ((c.toNat : Int) == 58) = false := beq_eq_false_iff_ne.2 hcI
        rcases hcase with ⟨rfl, rfl, hm⟩ | ⟨rfl, rfl, hm⟩
        · have HM : Hid ((58 : UInt8) ∉ l.take (k + 1)) := by unfold Hid; rw [take_some hat]; intro h; rcases List.mem_append.1 h with h | h; (exact hm.out h); (exact h58 (List.mem_singleton.1 h).symm)
          clear hat h58
          go_wp2_with fail
          go_round
          case rel => exact ⟨k + 1, by omega, by go_num, .inl ⟨rfl, rfl, HM⟩⟩
          case measure => simp [intOf]; omega
        · have HM : Hid ((58 : UInt8) ∈ l.take (k + 1)) := by unfold Hid; rw [take_some hat]; exact List.mem_append_left _ hm.out
          clear hat h58
          go_wp2_with fail
          go_round
          case rel => exact ⟨k + 1, by omega, by go_num, .inr ⟨rfl, rfl, HM⟩⟩
          case measure => simp [intOf]; omega
    · obtain rfl : k = s.size := by omega
      have hft : l.take s.size = l := List.take_of_length_le (by rw [hln.out]; exact Nat.le_refl _)
      rw [hft] at hcase
      rcases hcase with ⟨rfl, rfl, hm⟩ | ⟨rfl, rfl, hm⟩
      · have HBSE : Hid (bse l = 10 ∧ sgn l = 46) := ⟨if_neg hm.out, if_neg hm.out⟩
        clear hft hm
        go_wp2_with fail
        go_loopw [7, 8, 9] (fun lv wv iv wr => ∃ (k : Nat) (L : List Nat) (o : Option Nat) (A' : Option Addr) (c' : Nat) (z : Int), k ≤ s.size + 1 ∧ iv = .int .i64 k ∧ lv = .slice A' L.length c' ∧ Hid (wr.ownsRow (w.heap.size + 1) 3 1 (.slice A' L.length c') L.length (ints L)) ∧ Below w.heap.size w wr ∧ w.heap.size + 1 ≤ wr.heap.size ∧ Hid (Whole wr w.heap.size 27 #[.int .u16 0, .slice none 0 0, .slice none 0 0]) ∧
            ((o = none ∧ z = -1) ∨ (∃ u : Nat, o = some u ∧ z = u)) ∧ wv = .int .i64 z ∧ ((k ≤ s.size ∧ Hid (run 10 46 ([], none) (l.take k) = some (L, o))) ∨ (k = s.size + 1 ∧ Hid (words 10 46 l = some L) ∧ o = none))) (fun _ _ iv _ => s.size + 1 - (intOf iv).toNat)
        case atStart => exact ⟨0, [], none, none, 0, -1, by omega, rfl, rfl, (show w0.ownsRow (w.heap.size + 1) 3 1 (.slice none 0 0) 0 [] from World.ownsRow_nil _ _ _ _), HB0, hs0, hz0, .inl ⟨rfl, rfl⟩, rfl, .inl ⟨Nat.zero_le _, rfl⟩⟩
        case round =>
          obtain ⟨k, L, o, A2, c2, z, hk, rfl, rfl, hown, hbel, hsz, hz, ho, rfl, hst⟩ := hrel
          rcases hst with ⟨hks, hrun⟩ | ⟨rfl, hwords, rfl⟩
          · have HLL : L.length ≤ 1001 := by have h1 := run_len hrun.out; rw [List.length_take] at h1; omega
            have HU : Hid (∀ u, o = some u → u ≤ 255) := fun u hu => (run_sound 10 46 (.inl rfl) _ _ hrun.out).2.2 u hu
            by_cases hlt : k < s.size
            · have hat := str_at s k hlt
              rw [hl.out] at hat
              have hlt1 : (k : Int) < (s.size : Int) := by omega
              have hle1 : (k : Int) ≤ (s.size : Int) := by omega
              have hneq : ((k : Int) == (s.size : Int)) = false := by rw [beq_eq_false_iff_ne]; omega
              obtain ⟨c, hce⟩ : ∃ c, s[k]'hlt = c := ⟨_, rfl⟩
              rw [hce] at hat
              have hrs := run_take_succ (b := 10) (sg := 46) hat hrun.out
              by_cases hc : c = 46
              · have hcI : (c.toNat : Int) = 46 := by rw [hc]; rfl
                have hcB : ((c.toNat : Int) == 46) = true := by rw [hcI]; rfl
                rcases ho with ⟨rfl, rfl⟩ | ⟨u, rfl, rfl⟩
                · have HNO : Hid (rp l = none) := rp_none_of HBSE.out (words_none_of (k := k + 1) (by rw [hrs]; unfold stp; rw [if_pos hc]))
                  clear hrs hat
                  go_wp2_with (first | (refine wpList_store_row rfl 27 _ _ rfl w.heap.size #[.int .u16 0, .slice none 0 0, .slice none 0 0] rfl rfl _ _ hz.out (by kernel_rfl) rfl (by simp [Value.oneCell']) ?_) | fail)
                  (try simp only [Exit.inBlock, Exit.then])
                  refine bodyPost_ret (results_row_tmp rfl _ _ w.heap.size 27 _ _ rfl (hz.out.setRow _) Tryd.underlying27 rfl (by kernel_rfl)) rfl ?_
                  exact ⟨below_setRow hbel (Nat.le_refl _) _, .inr ⟨HNO.out, rfl⟩⟩
                · have HR : Hid (run 10 46 ([], none) (l.take (k + 1)) = some (L ++ [u], none)) := by unfold Hid; rw [hrs]; unfold stp; rw [if_pos hc]
                  have hu0 : ¬ (u : Int) < 0 := by omega
                  clear hrs hat hrun HU
                  go_wp2_with (first
                    | (at_builtin; refine wpList_append_lies _ rfl (.tmp 43) (.tmp 45) 47 rfl (w.heap.size + 1) 3 _ 8 Tryd.underlying47 intinfoV rfl _ _ _ rfl (hown.out.alloc _) _ _ 1 1 [.int .i64 (u : Int)] rfl rfl (Lies.new1 _ _ _) (by intro x hx; rw [List.mem_singleton.1 hx]; rfl) (by have := HLL; omega) (by unfold maxLen; have := HLL; omega) (by simp; omega) ?_; intro A4 c4 w4 hown4 hgrow4 _)
                    | fail)
                  have hz4 := (hz.out.alloc (.cells #[.int .i64 (u : Int)] 3)).grown hgrow4 (fun e => whole_row_neV hz.out (by decide) hown.out e.symm)
                  have hb4 : Below w.heap.size w w4 := (hbel.alloc (by omega) (.cells #[.int .i64 (u : Int)] 3)).grown hgrow4 (by simp; omega) (fun q e => by have := (hown.out.lt q e).1; omega)
                  have hs4 : w.heap.size + 1 ≤ w4.heap.size := by have := hgrow4.size; simp only [World.size_alloc] at this; omega
                  have HO4 : Hid (w4.ownsRow (w.heap.size + 1) 3 1 (.slice A4 (L.length + 1) c4) (L.length + 1) (ints (L ++ [u]))) := by unfold Hid ints; rw [List.map_append]; exact hown4
                  clear hown4 hgrow4
                  go_wp2_with fail
                  go_roundw
                  case rel => exact ⟨k + 1, L ++ [u], none, A4, c4, -1, by omega, by go_num, by rw [List.length_append]; rfl, by rw [List.length_append]; exact HO4, hb4, hs4, hz4, .inl ⟨rfl, rfl⟩, rfl, .inl ⟨by omega, HR⟩⟩
                  case measure => simp [intOf] <;> omega
              · have hcI : ¬ (c.toNat : Int) = 46 := fun e => hc (UInt8.toNat_inj.1 (by show c.toNat = 46; omega))
                have hcB : ((c.toNat : Int) == 46) = false := beq_eq_false_iff_ne.2 hcI
                have hD := fun W => rdigit_any c W
                by_cases hd : 10 ≤ dval c
                · have HNO : Hid (rp l = none) := rp_none_of HBSE.out (words_none_of (k := k + 1) (by rw [hrs]; unfold stp; rw [if_neg hc, if_pos (.inl hd)]))
                  generalize dval c = d at *
                  have hdI : (10 : Int) ≤ (d : Int) := by omega
                  clear hrs hat hd
                  go_wp2_with fail
                  refine (hD _).mono ?_
                  rintro e w2 ⟨rfl, rfl⟩
                  go_wp2_with (first | (refine wpList_store_row rfl 27 _ _ rfl w.heap.size #[.int .u16 0, .slice none 0 0, .slice none 0 0] rfl rfl _ _ hz.out (by kernel_rfl) rfl (by simp [Value.oneCell']) ?_) | fail)
                  (try simp only [Exit.inBlock, Exit.then])
                  refine bodyPost_ret (results_row_tmp rfl _ _ w.heap.size 27 _ _ rfl (hz.out.setRow _) Tryd.underlying27 rfl (by kernel_rfl)) rfl ?_
                  exact ⟨below_setRow hbel (Nat.le_refl _) _, .inr ⟨HNO.out, rfl⟩⟩
                · have hdI : ¬ (10 : Int) ≤ ((dval c : Nat) : Int) := by omega
                  by_cases h0 : o = some 0
                  · have HNO : Hid (rp l = none) := rp_none_of HBSE.out (words_none_of (k := k + 1) (by rw [hrs]; unfold stp; rw [if_neg hc, if_pos (.inr h0)]))
                    have hz0 : z = 0 := by rcases ho with ⟨h1, _⟩ | ⟨u, h1, h2⟩; (rw [h1] at h0; cases h0); (rw [h1] at h0; cases h0; exact h2)
                    subst hz0
                    generalize dval c = d at *
                    clear hrs hat hd
                    go_wp2_with fail
                    refine (hD _).mono ?_
                    rintro e w2 ⟨rfl, rfl⟩
                    go_wp2_with (first | (refine wpList_store_row rfl 27 _ _ rfl w.heap.size #[.int .u16 0, .slice none 0 0, .slice none 0 0] rfl rfl _ _ hz.out (by kernel_rfl) rfl (by simp [Value.oneCell']) ?_) | fail)
                    (try simp only [Exit.inBlock, Exit.then])
                    refine bodyPost_ret (results_row_tmp rfl _ _ w.heap.size 27 _ _ rfl (hz.out.setRow _) Tryd.underlying27 rfl (by kernel_rfl)) rfl ?_
                    exact ⟨below_setRow hbel (Nat.le_refl _) _, .inr ⟨HNO.out, rfl⟩⟩
                  · have hz0 : ¬ z = 0 := by rcases ho with ⟨_, h2⟩ | ⟨u, h1, h2⟩; (omega); (intro e; exact h0 (by rw [h1]; congr 1; omega))
                    obtain ⟨u, hu⟩ : ∃ u : Nat, o.getD 0 = u := ⟨_, rfl⟩
                    have hmax : max z 0 = (u : Int) := by rcases ho with ⟨h1, h2⟩ | ⟨u', h1, h2⟩; (rw [h1] at hu; simp at hu; omega); (rw [h1] at hu; simp at hu; omega)
                    have hul : u ≤ 255 := by rcases ho with ⟨h1, h2⟩ | ⟨u', h1, h2⟩; (rw [h1] at hu; simp at hu; omega); (have := HU.out u' h1; rw [h1] at hu; simp at hu; omega)
                    have hstp : stp 10 46 (L, o) c = if lim 10 < u * 10 + dval c then none else some (L, some (u * 10 + dval c)) := by
                      unfold stp
                      rw [if_neg hc, if_neg (by rintro (h | h); (exact hd h); (exact h0 h))]
                      show (if lim 10 < o.getD 0 * 10 + dval c then none else some (L, some (o.getD 0 * 10 + dval c))) = _
                      rw [hu]
                    rw [hstp] at hrs
                    generalize dval c = d at *
                    obtain ⟨p, hp⟩ : ∃ p : Nat, u * 10 + d = p := ⟨_, rfl⟩
                    rw [hp] at hrs
                    have hp1 : (u : Int) * 10 + (d : Int) = (p : Int) := by omega
                    have hp2 : (p : Int) ≤ 2000000 := by omega
                    have hzb : (z == 0) = false := beq_eq_false_iff_ne.2 hz0
                    have hdD : decide ((10 : Int) ≤ (d : Int)) = false := by rw [decide_eq_false_iff_not]; omega
                    have hor : ¬ ((10 : Int) ≤ (d : Int) ∨ (z == 0) = true) := by rw [hzb]; rintro (h | h); (omega); (cases h)
                    have hmax2 : (if z < 0 then (0 : Int) else z) = u := by split <;> omega
                    by_cases hle : p ≤ 255
                    · have HR : Hid (run 10 46 ([], none) (l.take (k + 1)) = some (L, some p)) := by unfold Hid; rw [hrs, if_neg (by show ¬ 255 < p; omega)]
                      have hleI : (p : Int) ≤ 255 := by omega
                      have hleJ : (p : Int) ≤ 65535 := by omega
                      clear hrs hat hd hp hu hstp hrun HU
                      go_wp2_with fail
                      refine (hD _).mono ?_
                      rintro e w2 ⟨rfl, rfl⟩
                      go_wp2_with fail
                      go_roundw
                      case rel => exact ⟨k + 1, L, some p, A2, c2, p, by omega, by go_num, rfl, hown, hbel, hsz, hz, .inr ⟨p, rfl, rfl⟩, rfl, .inl ⟨by omega, HR⟩⟩
                      case measure => simp [intOf]; omega
                    · have HNO : Hid (rp l = none) := rp_none_of HBSE.out (words_none_of (k := k + 1) (by rw [hrs, if_pos (by show 255 < p; omega)]))
                      have hleI : ¬ (p : Int) ≤ 255 := by omega
                      have hleK : (255 : Int) < (p : Int) := by omega
                      clear hrs hat hd hp hu hstp hrun HU
                      by_cases hbig : (65535 : Int) < (p : Int)
                      · go_wp2_with fail
                        refine (hD _).mono ?_
                        rintro e w2 ⟨rfl, rfl⟩
                        go_wp2_with (first | (refine wpList_store_row rfl 27 _ _ rfl w.heap.size #[.int .u16 0, .slice none 0 0, .slice none 0 0] rfl rfl _ _ hz.out (by kernel_rfl) rfl (by simp [Value.oneCell']) ?_) | fail)
                        (try simp only [Exit.inBlock, Exit.then])
                        refine bodyPost_ret (results_row_tmp rfl _ _ w.heap.size 27 _ _ rfl (hz.out.setRow _) Tryd.underlying27 rfl (by kernel_rfl)) rfl ?_
                        exact ⟨below_setRow hbel (Nat.le_refl _) _, .inr ⟨HNO.out, rfl⟩⟩
                      · go_wp2_with fail
                        refine (hD _).mono ?_
                        rintro e w2 ⟨rfl, rfl⟩
                        go_wp2_with (first | (refine wpList_store_row rfl 27 _ _ rfl w.heap.size #[.int .u16 0, .slice none 0 0, .slice none 0 0] rfl rfl _ _ hz.out (by kernel_rfl) rfl (by simp [Value.oneCell']) ?_) | fail)
                        (try simp only [Exit.inBlock, Exit.then])
                        refine bodyPost_ret (results_row_tmp rfl _ _ w.heap.size 27 _ _ rfl (hz.out.setRow _) Tryd.underlying27 rfl (by kernel_rfl)) rfl ?_
                        exact ⟨below_setRow hbel (Nat.le_refl _) _, .inr ⟨HNO.out, rfl⟩⟩
            · obtain rfl : k = s.size := by omega
              have hft : l.take s.size = l := List.take_of_length_le (by rw [hln.out]; exact Nat.le_refl _)
              have HRL : Hid (run 10 46 ([], none) l = some (L, o)) := by have := hrun.out; rwa [hft] at this
              clear hft hrun HU
              rcases ho with ⟨rfl, rfl⟩ | ⟨u, rfl, rfl⟩
              · have HNO : Hid (rp l = none) := rp_none_of HBSE.out (by unfold words; rw [HRL.out]; rfl)
                go_wp2_with (first | (refine wpList_store_row rfl 27 _ _ rfl w.heap.size #[.int .u16 0, .slice none 0 0, .slice none 0 0] rfl rfl _ _ hz.out (by kernel_rfl) rfl (by simp [Value.oneCell']) ?_) | fail)
                (try simp only [Exit.inBlock, Exit.then])
                refine bodyPost_ret (results_row_tmp rfl _ _ w.heap.size 27 _ _ rfl (hz.out.setRow _) Tryd.underlying27 rfl (by kernel_rfl)) rfl ?_
                exact ⟨below_setRow hbel (Nat.le_refl _) _, .inr ⟨HNO.out, rfl⟩⟩
              · have HR : Hid (words 10 46 l = some (L ++ [u])) := by unfold Hid words; rw [HRL.out]; rfl
                have hu0 : ¬ (u : Int) < 0 := by omega
                obtain ⟨k, hke⟩ : ∃ k, k = s.size := ⟨_, rfl⟩
                clear hks
                go_wp2_with (first
                  | (at_builtin; refine wpList_append_lies _ rfl (.tmp 43) (.tmp 45) 47 rfl (w.heap.size + 1) 3 _ 8 Tryd.underlying47 intinfoV rfl _ _ _ rfl (hown.out.alloc _) _ _ 1 1 [.int .i64 (u : Int)] rfl rfl (Lies.new1 _ _ _) (by intro x hx; rw [List.mem_singleton.1 hx]; rfl) (by have := HLL; omega) (by unfold maxLen; have := HLL; omega) (by simp; omega) ?_; intro A4 c4 w4 hown4 hgrow4 _)
                  | fail)
                have hz4 := (hz.out.alloc (.cells #[.int .i64 (u : Int)] 3)).grown hgrow4 (fun e => whole_row_neV hz.out (by decide) hown.out e.symm)
                have hb4 : Below w.heap.size w w4 := (hbel.alloc (by omega) (.cells #[.int .i64 (u : Int)] 3)).grown hgrow4 (by simp; omega) (fun q e => by have := (hown.out.lt q e).1; omega)
                have hs4 : w.heap.size + 1 ≤ w4.heap.size := by have := hgrow4.size; simp only [World.size_alloc] at this; omega
                have HO4 : Hid (w4.ownsRow (w.heap.size + 1) 3 1 (.slice A4 (L.length + 1) c4) (L.length + 1) (ints (L ++ [u]))) := by unfold Hid ints; rw [List.map_append]; exact hown4
                clear hown4 hgrow4
                go_wp2_with fail
                go_roundw
                case rel => exact ⟨s.size + 1, L ++ [u], none, A4, c4, -1, by omega, by go_num, by rw [List.length_append]; rfl, by rw [List.length_append]; exact HO4, hb4, hs4, hz4, .inl ⟨rfl, rfl⟩, rfl, .inr ⟨by omega, HR, rfl⟩⟩
                case measure => simp [intOf] <;> omega
          · have hnle : ¬ ((s.size + 1 : Nat) : Int) ≤ (s.size : Int) := by omega
            have hnle2 : ¬ (s.size : Int) + 1 ≤ (s.size : Int) := by omega
            have HLL := Lib.hid (words_len hwords.out)
            have HUL : Hid (∀ u ∈ L, u ≤ 255) := (words_sound 10 46 (.inl rfl) _ _ hwords.out).2.2
            have HLN : Hid (l.length ≤ 1000) := by have := hln.out; unfold Hid; omega
            have hbx := Whole.new wr 27 #[.int .u16 5, .slice none 0 0, .slice none 0 0]
            have hz5 := hz.out.alloc (.cells #[.int .u16 5, .slice none 0 0, .slice none 0 0] 27)
            have ho5 := hown.out.alloc (.cells #[.int .u16 5, .slice none 0 0, .slice none 0 0] 27)
            have hb5 := hbel.alloc (by omega) (.cells #[.int .u16 5, .slice none 0 0, .slice none 0 0] 27)
            have hs5 : wr.heap.size < (wr.alloc (.cells #[.int .u16 5, .slice none 0 0, .slice none 0 0] 27)).heap.size := by simp
            skip
            go_wp2_with fail
            generalize wr.alloc (.cells #[.int .u16 5, .slice none 0 0, .slice none 0 0] 27) = w5 at *
            obtain ⟨nb, hnb⟩ : ∃ nb, wr.heap.size = nb := ⟨_, rfl⟩
            rw [hnb] at hbx hs5 hsz ⊢
            clear hown hbel hz hk
            go_loopw [12] (fun iv wx => ∃ (j : Nat) (A3 : Option Addr) (c3 n3 : Nat), j ≤ L.length ∧ iv = .int .i64 j ∧ Hid (Whole wx nb 27 #[.int .u16 5, .slice A3 n3 c3, .slice none 0 0]) ∧ Hid (wx.ownsRow (w.heap.size + 1) 5 1 (.slice A3 n3 c3) n3 ((rdat 10 (L.take j)).map bv)) ∧ Hid (n3 = (rdat 10 (L.take j)).length) ∧
              Hid (wx.ownsRow (w.heap.size + 1) 3 1 (.slice A2 L.length c2) L.length (ints L)) ∧ Hid (Whole wx w.heap.size 27 #[.int .u16 0, .slice none 0 0, .slice none 0 0]) ∧ Below w.heap.size w wx ∧ nb < wx.heap.size) (fun iv _ => L.length - (intOf iv).toNat)
            case atStart => exact ⟨0, none, 0, 0, Nat.zero_le _, rfl, hbx, (show w5.ownsRow (w.heap.size + 1) 5 1 (.slice none 0 0) 0 [] from World.ownsRow_nil _ _ _ _), rfl, ho5, hz5, hb5, hs5⟩
            case round =>
              obtain ⟨j, A3, c3, n3, hj, rfl, hbxx, hrow, hn3, howi, hzx, hbx2, hsx⟩ := hrel
              by_cases hlt : j < L.length
              · obtain ⟨ad, u, rfl, hadb, hu, hcu⟩ := (Lies.own howi.out).of_map (f := fun (u : Nat) => Value.int .i64 (u : Int)) hlt
                have hjI : (j : Int) < (L.length : Int) := by omega
                have hjb : (j : Int) ≤ 1001 := by have := HLL.out; have := HLN.out; omega
                have HN3 := Lib.hid (show n3 ≤ 2002 by have h1 := hn3.out; rw [rdat_len] at h1; have := HLL.out; have := HLN.out; rw [List.length_take] at h1; split at h1 <;> omega)
                have hul := HUL.out u (List.mem_of_getElem? hu.out)
                have HT1 := Lib.hid (rdat_take (b := 10) (.inl rfl) hu.out)
                obtain ⟨i1, hi, hi0, hi1, hi2⟩ := info_parts u8info
                have hbX := hbxx.out
                have hrX := hrow.out
                have hcX := hcu
                have hlX := hadb
                have hzX := hzx.out
                have hoX := howi.out
                have hqX := hbx2
                have hsX := hbx2.size
      
                have hbAY := hbX.alloc (.cells #[.int .u8 (IntKind.u8.wrap ((u : Int).tmod 256))] 5)
                have m0Y := hbX.cell 1
                have f0Y := hbX.frozen 1
                have mAY := hbAY.cell 1
                have fAY := hbAY.frozen 1
                have mAdY := hbAY.drew.cell 1
                have fAdY := hbAY.drew.frozen 1
                simp only [List.getElem?_toArray, List.getElem?_cons_zero, List.getElem?_cons_succ] at m0Y mAY mAdY
                have cAY : (wr.alloc (.cells #[.int .u8 (IntKind.u8.wrap ((u : Int).tmod 256))] 5)).cell? (ad.add j) = some (.int .i64 (u : Int)) := (World.cell?_alloc_lt wr _ _ (by rw [blk_add]; exact hlX)).trans hcX
                have cAdY : (wr.alloc (.cells #[.int .u8 (IntKind.u8.wrap ((u : Int).tmod 256))] 5)).drew.cell? (ad.add j) = some (.int .i64 (u : Int)) := cAY
                have hrneY := whole_row_neV hbX (by decide) hrX
                have hnewY : ∀ (i : Nat) (x : Value), ([.int .u8 (IntKind.u8.wrap ((u : Int).tmod 256))] : List Value)[i]? = some x → (wr.alloc (.cells #[.int .u8 (IntKind.u8.wrap ((u : Int).tmod 256))] 5)).drew.cell? ((⟨wr.heap.size, 0, none⟩ : Addr).add i) = some x := by
                  obtain ⟨ad', e', _, h'⟩ := Lies.new1 wr (.int .u8 (IntKind.u8.wrap ((u : Int).tmod 256))) 5 (by simp)
                  cases e'
                  exact h'
                go_wp2_with fail
                go_region_law (go_loud (refine step_append_lies _ rfl (.tmp 100) (.tmp 107) 24 rfl (w.heap.size + 1) 5 i1 _ 1 1 Tryd.underlying24 hi hi0 hi1 hi2 rfl (by omega) _ _ _ rfl ((hrX.alloc _).drew) _ 1 1 [.int .u8 (IntKind.u8.wrap ((u : Int).tmod 256))] rfl rfl hnewY (by intro x hx; rw [List.mem_singleton.1 hx]; rfl) (by omega) (by unfold maxLen; have := HN3.out; omega) (by have := HN3.out; omega) (by simp; omega) _ rfl ?_); intro gY capY wY ownY growY hblkY hgltY; have hbBY : Whole wY nb 27 _ := ((hbX.alloc _).drew).grown growY (fun e => hrneY e.symm); have p1Y := hbBY.cell 1; have q1Y := hbBY.frozen 1; simp only [List.getElem?_toArray, List.getElem?_cons_zero, List.getElem?_cons_succ] at p1Y)
      
                all_goals
                  have VY : Value := .slice (some ⟨gY, 0, none⟩) (n3 + 1) capY
                  clear VY
                  have hzY := (((hzX.alloc (.cells #[.int .u8 (IntKind.u8.wrap ((u : Int).tmod 256))] 5)).drew).grown growY (fun e => whole_row_neV hzX (by decide) hrX e.symm)).far (p := ⟨nb, 1, none⟩) (by show w.heap.size ≠ nb; omega) (.slice (some ⟨gY, 0, none⟩) (n3 + 1) capY)
                  have hoY0 := ((hoX.alloc (.cells #[.int .u8 (IntKind.u8.wrap ((u : Int).tmod 256))] 5)).drew).kept growY (rows_neV hoX hrX (by decide))
                  have hoY := hoY0.kept (grownBy_setCellV wY nb 1 (.slice (some ⟨gY, 0, none⟩) (n3 + 1) capY)) (.inr (whole_row_neV hbBY (by decide) hoY0))
                  have hqY := ((below_drew (hqX.alloc hsX (.cells #[.int .u8 (IntKind.u8.wrap ((u : Int).tmod 256))] 5))).grown growY (by have := hsX; simp; omega) (fun q e => by have := (hrX.lt q e).1; omega)).setCell (p := ⟨nb, 1, none⟩) (by show w.heap.size ≤ nb; omega) (.slice (some ⟨gY, 0, none⟩) (n3 + 1) capY)
                  have hbY : Whole (wY.setCell ⟨nb, 1, none⟩ (.slice (some ⟨gY, 0, none⟩) (n3 + 1) capY)) nb 27 #[.int .u16 5, .slice (some ⟨gY, 0, none⟩) (n3 + 1) capY, .slice none 0 0] := hbBY.set_ 1 (.slice (some ⟨gY, 0, none⟩) (n3 + 1) capY)
                  have hrY := ownY.kept (grownBy_setCellV wY nb 1 (.slice (some ⟨gY, 0, none⟩) (n3 + 1) capY)) (.inr (whole_row_neV hbBY (by decide) ownY))
                  have hlY0 : nb < wY.heap.size := hbBY.lt
                  have hsY := hqY.size
                  clear hoY0 ownY growY hbBY p1Y q1Y
                all_goals
                  rw [u8_rem] at hrY
                  have HRY : Hid (((wY.setCell ⟨nb, 1, none⟩ (.slice (some ⟨gY, 0, none⟩) (n3 + 1) capY)).ownsRow (w.heap.size + 1) 5 1 (.slice (some ⟨gY, 0, none⟩) (n3 + 1) capY) (n3 + 1) ((rdat 10 (L.take (j + 1))).map bv))) := by unfold Hid; rw [HT1.out, List.map_append]; exact hrY
                  have HN4 : Hid (n3 + 1 = (rdat 10 (L.take (j + 1))).length) := by unfold Hid; rw [HT1.out, List.length_append, ← hn3.out]; rfl
                  clear hrY
                  go_wp2_with fail
                  go_roundw
                  case rel => exact ⟨j + 1, some ⟨gY, 0, none⟩, capY, n3 + 1, by omega, by go_num, hbY, HRY, HN4, hoY, hzY, hqY, by simpa using hlY0⟩
                  case measure => simp [intOf]; omega

              · obtain rfl : j = L.length := by omega
                have hft : L.take L.length = L := List.take_length
                have hrow1 := hrow.out
                have hn1 := hn3.out
                rw [hft] at hrow1 hn1
                subst hn1
                have HQV : Hid ((rdat 10 L).length ≤ 2002) := by have h1 := rdat_len 10 L; have := HLL.out; have := HLN.out; unfold Hid; split at h1 <;> omega
                have hRP : rp l = if (rdat 10 L).length = 4 then some (5, rdat 10 L) else none := by unfold rp; rw [HBSE.out.1, HBSE.out.2, hwords.out]; rfl
                clear hft hrow hn3
                generalize rdat 10 L = v at *
                have hIs := fun W => ris_any (.mk 5 v []) A3 c3 none 0 W (by show v.length ≤ _; have := HQV.out; omega) (by show (0 : Nat) ≤ _; omega)
                have hE2 : ndV (.mk 5 v []) A3 c3 none 0 = .agg #[.int .u16 5, .slice A3 v.length c3, .slice none 0 0] := rfl
                have HE2 := Lib.hid hE2
                rw [hE2] at hIs
                have HND : Hid (∀ W : World, W.heap.size = W.heap.size → True) := fun _ _ => trivial
                by_cases hA : v.length = 4
                · have hnof : decide (nof (.mk 5 v []) < 2) = true := by unfold nof fitA; simp [Nd.t, Nd.v, Nd.ks, hA]
                  have HRP : Hid (rp l = some (5, v)) := by unfold Hid; rw [hRP, if_pos hA]
                  rw [hnof] at hIs
                  have hcap := own_cap hrow1
                  have HRW := Lib.hid hrow1
                  clear hRP hA hnof hE2 HND hrow1
                  go_wp2_with (first | (refine wpList_load_row rfl 27 _ rfl nb rfl _ _ (0, 0) _ hbxx.out Tryd.underlying27 rfl (by kernel_rfl) ?_) | fail)
                  refine (hIs _).mono ?_
                  rintro e w7 ⟨rfl, b7⟩
                  have hbx7 := hbxx.out.below b7 hbxx.out.lt
                  have hz7 := hzx.out.below b7 hzx.out.lt
                  have hb7 := hbx2.trans (b7.mono hbx2.size)
                  have hrow7 := HRW.out.kept (row := none) ⟨b7.os, b7.tape, b7.output, b7.size, fun q hq _ => b7.block q hq⟩ (Classical.em _)
                  have hnd : ∀ cs6, Node (w7.setRow w.heap.size cs6) (w7.setRow w.heap.size cs6).heap.size A3 c3 none 0 (.mk 5 v []) := fun cs6 => by
                    rw [setRow_size]
                    refine ⟨(Lies.own hrow7).keepC fun ad e => setRow_other _ _ _ _ (fun e2 => ?_), hcap.2.1, hcap.2.2, Nodes.nil _ _ _, Nat.le_refl _, Nat.zero_le _⟩
                    subst e
                    have := (hrow7.lt ad.block rfl).1
                    omega
                  have HNN := Lib.hid hnd
                  clear hnd hrow7 b7
                  go_wp2_with (first
                    | (refine wpList_load_row rfl 27 _ rfl nb rfl _ _ (0, 0) _ hbx7 Tryd.underlying27 rfl (by kernel_rfl) ?_)
                    | (refine wpList_store_row rfl 27 _ _ rfl w.heap.size #[.int .u16 5, .slice A3 v.length c3, .slice none 0 0] rfl rfl _ _ hz7 (by kernel_rfl) rfl (by simp [Value.oneCell']) ?_)
                    | fail)
                  (try simp only [Exit.inBlock, Exit.then])
                  refine bodyPost_ret (results_row_tmp rfl _ _ w.heap.size 27 _ _ rfl (hz7.setRow _) Tryd.underlying27 rfl (by kernel_rfl)) rfl ?_
                  exact ⟨below_setRow hb7 (Nat.le_refl _) _, .inl ⟨5, v, A3, c3, HRP.out, by rw [HE2.out]; rfl, HNN.out _⟩⟩
                · have hnof : decide (nof (.mk 5 v []) < 2) = false := by unfold nof fitA; simp [Nd.t, Nd.v, Nd.ks, hA]
                  have HNO : Hid (rp l = none) := by unfold Hid; rw [hRP, if_neg hA]
                  rw [hnof] at hIs
                  clear hRP hA hnof hE2 HND hrow1
                  go_wp2_with (first | (refine wpList_load_row rfl 27 _ rfl nb rfl _ _ (0, 0) _ hbxx.out Tryd.underlying27 rfl (by kernel_rfl) ?_) | fail)
                  refine (hIs _).mono ?_
                  rintro e w7 ⟨rfl, b7⟩
                  have hz7 := hzx.out.below b7 hzx.out.lt
                  have hb7 := hbx2.trans (b7.mono hbx2.size)
                  clear b7
                  go_wp2_with (first | (refine wpList_store_row rfl 27 _ _ rfl w.heap.size #[.int .u16 0, .slice none 0 0, .slice none 0 0] rfl rfl _ _ hz7 (by kernel_rfl) rfl (by simp [Value.oneCell']) ?_) | fail)
                  (try simp only [Exit.inBlock, Exit.then])
                  refine bodyPost_ret (results_row_tmp rfl _ _ w.heap.size 27 _ _ rfl (hz7.setRow _) Tryd.underlying27 rfl (by kernel_rfl)) rfl ?_
                  exact ⟨below_setRow hb7 (Nat.le_refl _) _, .inr ⟨HNO.out, rfl⟩⟩
      · have HBSE : Hid (bse l = 16 ∧ sgn l = 58) := ⟨if_pos hm.out, if_pos hm.out⟩
        clear hft hm
        go_wp2_with fail
        go_loopw [7, 8, 9] (fun lv wv iv wr => ∃ (k : Nat) (L : List Nat) (o : Option Nat) (A' : Option Addr) (c' : Nat) (z : Int), k ≤ s.size + 1 ∧ iv = .int .i64 k ∧ lv = .slice A' L.length c' ∧ Hid (wr.ownsRow (w.heap.size + 1) 3 1 (.slice A' L.length c') L.length (ints L)) ∧ Below w.heap.size w wr ∧ w.heap.size + 1 ≤ wr.heap.size ∧ Hid (Whole wr w.heap.size 27 #[.int .u16 0, .slice none 0 0, .slice none 0 0]) ∧
            ((o = none ∧ z = -1) ∨ (∃ u : Nat, o = some u ∧ z = u)) ∧ wv = .int .i64 z ∧ ((k ≤ s.size ∧ Hid (run 16 58 ([], none) (l.take k) = some (L, o))) ∨ (k = s.size + 1 ∧ Hid (words 16 58 l = some L) ∧ o = none))) (fun _ _ iv _ => s.size + 1 - (intOf iv).toNat)
        case atStart => exact ⟨0, [], none, none, 0, -1, by omega, rfl, rfl, (show w0.ownsRow (w.heap.size + 1) 3 1 (.slice none 0 0) 0 [] from World.ownsRow_nil _ _ _ _), HB0, hs0, hz0, .inl ⟨rfl, rfl⟩, rfl, .inl ⟨Nat.zero_le _, rfl⟩⟩
        case round =>
          obtain ⟨k, L, o, A2, c2, z, hk, rfl, rfl, hown, hbel, hsz, hz, ho, rfl, hst⟩ := hrel
          rcases hst with ⟨hks, hrun⟩ | ⟨rfl, hwords, rfl⟩
          · have HLL : L.length ≤ 1001 := by have h1 := run_len hrun.out; rw [List.length_take] at h1; omega
            have HU : Hid (∀ u, o = some u → u ≤ 65535) := fun u hu => (run_sound 16 58 (.inr rfl) _ _ hrun.out).2.2 u hu
            by_cases hlt : k < s.size
            · have hat := str_at s k hlt
              rw [hl.out] at hat
              have hlt1 : (k : Int) < (s.size : Int) := by omega
              have hle1 : (k : Int) ≤ (s.size : Int) := by omega
              have hneq : ((k : Int) == (s.size : Int)) = false := by rw [beq_eq_false_iff_ne]; omega
              obtain ⟨c, hce⟩ : ∃ c, s[k]'hlt = c := ⟨_, rfl⟩
              rw [hce] at hat
              have hrs := run_take_succ (b := 16) (sg := 58) hat hrun.out
              by_cases hc : c = 58
              · have hcI : (c.toNat : Int) = 58 := by rw [hc]; rfl
                have hcB : ((c.toNat : Int) == 58) = true := by rw [hcI]; rfl
                rcases ho with ⟨rfl, rfl⟩ | ⟨u, rfl, rfl⟩
                · have HNO : Hid (rp l = none) := rp_none_of HBSE.out (words_none_of (k := k + 1) (by rw [hrs]; unfold stp; rw [if_pos hc]))
                  clear hrs hat
                  go_wp2_with (first | (refine wpList_store_row rfl 27 _ _ rfl w.heap.size #[.int .u16 0, .slice none 0 0, .slice none 0 0] rfl rfl _ _ hz.out (by kernel_rfl) rfl (by simp [Value.oneCell']) ?_) | fail)
                  (try simp only [Exit.inBlock, Exit.then])
                  refine bodyPost_ret (results_row_tmp rfl _ _ w.heap.size 27 _ _ rfl (hz.out.setRow _) Tryd.underlying27 rfl (by kernel_rfl)) rfl ?_
                  exact ⟨below_setRow hbel (Nat.le_refl _) _, .inr ⟨HNO.out, rfl⟩⟩
                · have HR : Hid (run 16 58 ([], none) (l.take (k + 1)) = some (L ++ [u], none)) := by unfold Hid; rw [hrs]; unfold stp; rw [if_pos hc]
                  have hu0 : ¬ (u : Int) < 0 := by omega
                  clear hrs hat hrun HU
                  go_wp2_with (first
                    | (at_builtin; refine wpList_append_lies _ rfl (.tmp 43) (.tmp 45) 47 rfl (w.heap.size + 1) 3 _ 8 Tryd.underlying47 intinfoV rfl _ _ _ rfl (hown.out.alloc _) _ _ 1 1 [.int .i64 (u : Int)] rfl rfl (Lies.new1 _ _ _) (by intro x hx; rw [List.mem_singleton.1 hx]; rfl) (by have := HLL; omega) (by unfold maxLen; have := HLL; omega) (by simp; omega) ?_; intro A4 c4 w4 hown4 hgrow4 _)
                    | fail)
                  have hz4 := (hz.out.alloc (.cells #[.int .i64 (u : Int)] 3)).grown hgrow4 (fun e => whole_row_neV hz.out (by decide) hown.out e.symm)
                  have hb4 : Below w.heap.size w w4 := (hbel.alloc (by omega) (.cells #[.int .i64 (u : Int)] 3)).grown hgrow4 (by simp; omega) (fun q e => by have := (hown.out.lt q e).1; omega)
                  have hs4 : w.heap.size + 1 ≤ w4.heap.size := by have := hgrow4.size; simp only [World.size_alloc] at this; omega
                  have HO4 : Hid (w4.ownsRow (w.heap.size + 1) 3 1 (.slice A4 (L.length + 1) c4) (L.length + 1) (ints (L ++ [u]))) := by unfold Hid ints; rw [List.map_append]; exact hown4
                  clear hown4 hgrow4
                  go_wp2_with fail
                  go_roundw
                  case rel => exact ⟨k + 1, L ++ [u], none, A4, c4, -1, by omega, by go_num, by rw [List.length_append]; rfl, by rw [List.length_append]; exact HO4, hb4, hs4, hz4, .inl ⟨rfl, rfl⟩, rfl, .inl ⟨by omega, HR⟩⟩
                  case measure => simp [intOf] <;> omega
              · have hcI : ¬ (c.toNat : Int) = 58 := fun e => hc (UInt8.toNat_inj.1 (by show c.toNat = 58; omega))
                have hcB : ((c.toNat : Int) == 58) = false := beq_eq_false_iff_ne.2 hcI
                have hD := fun W => rdigit_any c W
                by_cases hd : 16 ≤ dval c
                · have HNO : Hid (rp l = none) := rp_none_of HBSE.out (words_none_of (k := k + 1) (by rw [hrs]; unfold stp; rw [if_neg hc, if_pos (.inl hd)]))
                  generalize dval c = d at *
                  have hdI : (16 : Int) ≤ (d : Int) := by omega
                  clear hrs hat hd
                  go_wp2_with fail
                  refine (hD _).mono ?_
                  rintro e w2 ⟨rfl, rfl⟩
                  go_wp2_with (first | (refine wpList_store_row rfl 27 _ _ rfl w.heap.size #[.int .u16 0, .slice none 0 0, .slice none 0 0] rfl rfl _ _ hz.out (by kernel_rfl) rfl (by simp [Value.oneCell']) ?_) | fail)
                  (try simp only [Exit.inBlock, Exit.then])
                  refine bodyPost_ret (results_row_tmp rfl _ _ w.heap.size 27 _ _ rfl (hz.out.setRow _) Tryd.underlying27 rfl (by kernel_rfl)) rfl ?_
                  exact ⟨below_setRow hbel (Nat.le_refl _) _, .inr ⟨HNO.out, rfl⟩⟩
                · have hdI : ¬ (16 : Int) ≤ ((dval c : Nat) : Int) := by omega
                  by_cases h0 : o = some 0
                  · have HNO : Hid (rp l = none) := rp_none_of HBSE.out (words_none_of (k := k + 1) (by rw [hrs]; unfold stp; rw [if_neg hc, if_pos (.inr h0)]))
                    have hz0 : z = 0 := by rcases ho with ⟨h1, _⟩ | ⟨u, h1, h2⟩; (rw [h1] at h0; cases h0); (rw [h1] at h0; cases h0; exact h2)
                    subst hz0
                    generalize dval c = d at *
                    clear hrs hat hd
                    go_wp2_with fail
                    refine (hD _).mono ?_
                    rintro e w2 ⟨rfl, rfl⟩
                    go_wp2_with (first | (refine wpList_store_row rfl 27 _ _ rfl w.heap.size #[.int .u16 0, .slice none 0 0, .slice none 0 0] rfl rfl _ _ hz.out (by kernel_rfl) rfl (by simp [Value.oneCell']) ?_) | fail)
                    (try simp only [Exit.inBlock, Exit.then])
                    refine bodyPost_ret (results_row_tmp rfl _ _ w.heap.size 27 _ _ rfl (hz.out.setRow _) Tryd.underlying27 rfl (by kernel_rfl)) rfl ?_
                    exact ⟨below_setRow hbel (Nat.le_refl _) _, .inr ⟨HNO.out, rfl⟩⟩
                  · have hz0 : ¬ z = 0 := by rcases ho with ⟨_, h2⟩ | ⟨u, h1, h2⟩; (omega); (intro e; exact h0 (by rw [h1]; congr 1; omega))
                    obtain ⟨u, hu⟩ : ∃ u : Nat, o.getD 0 = u := ⟨_, rfl⟩
                    have hmax : max z 0 = (u : Int) := by rcases ho with ⟨h1, h2⟩ | ⟨u', h1, h2⟩; (rw [h1] at hu; simp at hu; omega); (rw [h1] at hu; simp at hu; omega)
                    have hul : u ≤ 65535 := by rcases ho with ⟨h1, h2⟩ | ⟨u', h1, h2⟩; (rw [h1] at hu; simp at hu; omega); (have := HU.out u' h1; rw [h1] at hu; simp at hu; omega)
                    have hstp : stp 16 58 (L, o) c = if lim 16 < u * 16 + dval c then none else some (L, some (u * 16 + dval c)) := by
                      unfold stp
                      rw [if_neg hc, if_neg (by rintro (h | h); (exact hd h); (exact h0 h))]
                      show (if lim 16 < o.getD 0 * 16 + dval c then none else some (L, some (o.getD 0 * 16 + dval c))) = _
                      rw [hu]
                    rw [hstp] at hrs
                    generalize dval c = d at *
                    obtain ⟨p, hp⟩ : ∃ p : Nat, u * 16 + d = p := ⟨_, rfl⟩
                    rw [hp] at hrs
                    have hp1 : (u : Int) * 16 + (d : Int) = (p : Int) := by omega
                    have hp2 : (p : Int) ≤ 2000000 := by omega
                    have hzb : (z == 0) = false := beq_eq_false_iff_ne.2 hz0
                    have hdD : decide ((16 : Int) ≤ (d : Int)) = false := by rw [decide_eq_false_iff_not]; omega
                    have hor : ¬ ((16 : Int) ≤ (d : Int) ∨ (z == 0) = true) := by rw [hzb]; rintro (h | h); (omega); (cases h)
                    have hmax2 : (if z < 0 then (0 : Int) else z) = u := by split <;> omega
                    by_cases hle : p ≤ 65535
                    · have HR : Hid (run 16 58 ([], none) (l.take (k + 1)) = some (L, some p)) := by unfold Hid; rw [hrs, if_neg (by show ¬ 65535 < p; omega)]
                      have hleI : (p : Int) ≤ 65535 := by omega
                      have hleJ : (p : Int) ≤ 65535 := by omega
                      clear hrs hat hd hp hu hstp hrun HU
                      go_wp2_with fail
                      refine (hD _).mono ?_
                      rintro e w2 ⟨rfl, rfl⟩
                      go_wp2_with fail
                      go_roundw
                      case rel => exact ⟨k + 1, L, some p, A2, c2, p, by omega, by go_num, rfl, hown, hbel, hsz, hz, .inr ⟨p, rfl, rfl⟩, rfl, .inl ⟨by omega, HR⟩⟩
                      case measure => simp [intOf]; omega
                    · have HNO : Hid (rp l = none) := rp_none_of HBSE.out (words_none_of (k := k + 1) (by rw [hrs, if_pos (by show 65535 < p; omega)]))
                      have hleI : ¬ (p : Int) ≤ 65535 := by omega
                      have hleK : (65535 : Int) < (p : Int) := by omega
                      clear hrs hat hd hp hu hstp hrun HU
                      go_wp2_with fail
                      refine (hD _).mono ?_
                      rintro e w2 ⟨rfl, rfl⟩
                      go_wp2_with (first | (refine wpList_store_row rfl 27 _ _ rfl w.heap.size #[.int .u16 0, .slice none 0 0, .slice none 0 0] rfl rfl _ _ hz.out (by kernel_rfl) rfl (by simp [Value.oneCell']) ?_) | fail)
                      (try simp only [Exit.inBlock, Exit.then])
                      refine bodyPost_ret (results_row_tmp rfl _ _ w.heap.size 27 _ _ rfl (hz.out.setRow _) Tryd.underlying27 rfl (by kernel_rfl)) rfl ?_
                      exact ⟨below_setRow hbel (Nat.le_refl _) _, .inr ⟨HNO.out, rfl⟩⟩
            · obtain rfl : k = s.size := by omega
              have hft : l.take s.size = l := List.take_of_length_le (by rw [hln.out]; exact Nat.le_refl _)
              have HRL : Hid (run 16 58 ([], none) l = some (L, o)) := by have := hrun.out; rwa [hft] at this
              clear hft hrun HU
              rcases ho with ⟨rfl, rfl⟩ | ⟨u, rfl, rfl⟩
              · have HNO : Hid (rp l = none) := rp_none_of HBSE.out (by unfold words; rw [HRL.out]; rfl)
                go_wp2_with (first | (refine wpList_store_row rfl 27 _ _ rfl w.heap.size #[.int .u16 0, .slice none 0 0, .slice none 0 0] rfl rfl _ _ hz.out (by kernel_rfl) rfl (by simp [Value.oneCell']) ?_) | fail)
                (try simp only [Exit.inBlock, Exit.then])
                refine bodyPost_ret (results_row_tmp rfl _ _ w.heap.size 27 _ _ rfl (hz.out.setRow _) Tryd.underlying27 rfl (by kernel_rfl)) rfl ?_
                exact ⟨below_setRow hbel (Nat.le_refl _) _, .inr ⟨HNO.out, rfl⟩⟩
              · have HR : Hid (words 16 58 l = some (L ++ [u])) := by unfold Hid words; rw [HRL.out]; rfl
                have hu0 : ¬ (u : Int) < 0 := by omega
                obtain ⟨k, hke⟩ : ∃ k, k = s.size := ⟨_, rfl⟩
                clear hks
                go_wp2_with (first
                  | (at_builtin; refine wpList_append_lies _ rfl (.tmp 43) (.tmp 45) 47 rfl (w.heap.size + 1) 3 _ 8 Tryd.underlying47 intinfoV rfl _ _ _ rfl (hown.out.alloc _) _ _ 1 1 [.int .i64 (u : Int)] rfl rfl (Lies.new1 _ _ _) (by intro x hx; rw [List.mem_singleton.1 hx]; rfl) (by have := HLL; omega) (by unfold maxLen; have := HLL; omega) (by simp; omega) ?_; intro A4 c4 w4 hown4 hgrow4 _)
                  | fail)
                have hz4 := (hz.out.alloc (.cells #[.int .i64 (u : Int)] 3)).grown hgrow4 (fun e => whole_row_neV hz.out (by decide) hown.out e.symm)
                have hb4 : Below w.heap.size w w4 := (hbel.alloc (by omega) (.cells #[.int .i64 (u : Int)] 3)).grown hgrow4 (by simp; omega) (fun q e => by have := (hown.out.lt q e).1; omega)
                have hs4 : w.heap.size + 1 ≤ w4.heap.size := by have := hgrow4.size; simp only [World.size_alloc] at this; omega
                have HO4 : Hid (w4.ownsRow (w.heap.size + 1) 3 1 (.slice A4 (L.length + 1) c4) (L.length + 1) (ints (L ++ [u]))) := by unfold Hid ints; rw [List.map_append]; exact hown4
                clear hown4 hgrow4
                go_wp2_with fail
                go_roundw
                case rel => exact ⟨s.size + 1, L ++ [u], none, A4, c4, -1, by omega, by go_num, by rw [List.length_append]; rfl, by rw [List.length_append]; exact HO4, hb4, hs4, hz4, .inl ⟨rfl, rfl⟩, rfl, .inr ⟨by omega, HR, rfl⟩⟩
                case measure => simp [intOf] <;> omega
          · have hnle : ¬ ((s.size + 1 : Nat) : Int) ≤ (s.size : Int) := by omega
            have hnle2 : ¬ (s.size : Int) + 1 ≤ (s.size : Int) := by omega
            have HLL := Lib.hid (words_len hwords.out)
            have HUL : Hid (∀ u ∈ L, u ≤ 65535) := (words_sound 16 58 (.inr rfl) _ _ hwords.out).2.2
            have HLN : Hid (l.length ≤ 1000) := by have := hln.out; unfold Hid; omega
            have hbx := Whole.new wr 27 #[.int .u16 6, .slice none 0 0, .slice none 0 0]
            have hz5 := hz.out.alloc (.cells #[.int .u16 6, .slice none 0 0, .slice none 0 0] 27)
            have ho5 := hown.out.alloc (.cells #[.int .u16 6, .slice none 0 0, .slice none 0 0] 27)
            have hb5 := hbel.alloc (by omega) (.cells #[.int .u16 6, .slice none 0 0, .slice none 0 0] 27)
            have hs5 : wr.heap.size < (wr.alloc (.cells #[.int .u16 6, .slice none 0 0, .slice none 0 0] 27)).heap.size := by simp
            skip
            go_wp2_with fail
            generalize wr.alloc (.cells #[.int .u16 6, .slice none 0 0, .slice none 0 0] 27) = w5 at *
            obtain ⟨nb, hnb⟩ : ∃ nb, wr.heap.size = nb := ⟨_, rfl⟩
            rw [hnb] at hbx hs5 hsz ⊢
            clear hown hbel hz hk
            go_loopw [12] (fun iv wx => ∃ (j : Nat) (A3 : Option Addr) (c3 n3 : Nat), j ≤ L.length ∧ iv = .int .i64 j ∧ Hid (Whole wx nb 27 #[.int .u16 6, .slice A3 n3 c3, .slice none 0 0]) ∧ Hid (wx.ownsRow (w.heap.size + 1) 5 1 (.slice A3 n3 c3) n3 ((rdat 16 (L.take j)).map bv)) ∧ Hid (n3 = (rdat 16 (L.take j)).length) ∧
              Hid (wx.ownsRow (w.heap.size + 1) 3 1 (.slice A2 L.length c2) L.length (ints L)) ∧ Hid (Whole wx w.heap.size 27 #[.int .u16 0, .slice none 0 0, .slice none 0 0]) ∧ Below w.heap.size w wx ∧ nb < wx.heap.size) (fun iv _ => L.length - (intOf iv).toNat)
            case atStart => exact ⟨0, none, 0, 0, Nat.zero_le _, rfl, hbx, (show w5.ownsRow (w.heap.size + 1) 5 1 (.slice none 0 0) 0 [] from World.ownsRow_nil _ _ _ _), rfl, ho5, hz5, hb5, hs5⟩
            case round =>
              obtain ⟨j, A3, c3, n3, hj, rfl, hbxx, hrow, hn3, howi, hzx, hbx2, hsx⟩ := hrel
              by_cases hlt : j < L.length
              · obtain ⟨ad, u, rfl, hadb, hu, hcu⟩ := (Lies.own howi.out).of_map (f := fun (u : Nat) => Value.int .i64 (u : Int)) hlt
                have hjI : (j : Int) < (L.length : Int) := by omega
                have hjb : (j : Int) ≤ 1001 := by have := HLL.out; have := HLN.out; omega
                have HN3 := Lib.hid (show n3 ≤ 2002 by have h1 := hn3.out; rw [rdat_len] at h1; have := HLL.out; have := HLN.out; rw [List.length_take] at h1; split at h1 <;> omega)
                have hul := HUL.out u (List.mem_of_getElem? hu.out)
                have HT1 := Lib.hid (rdat_take (b := 16) (.inr rfl) hu.out)
                obtain ⟨i1, hi, hi0, hi1, hi2⟩ := info_parts u8info
                have hbX := hbxx.out
                have hrX := hrow.out
                have hcX := hcu
                have hlX := hadb
                have hzX := hzx.out
                have hoX := howi.out
                have hqX := hbx2
                have hsX := hbx2.size
      
                have hbAY := hbX.alloc (.cells #[.int .u8 (IntKind.u8.wrap (IntKind.i64.wrap ((u : Int) / 256)))] 5)
                have m0Y := hbX.cell 1
                have f0Y := hbX.frozen 1
                have mAY := hbAY.cell 1
                have fAY := hbAY.frozen 1
                have mAdY := hbAY.drew.cell 1
                have fAdY := hbAY.drew.frozen 1
                simp only [List.getElem?_toArray, List.getElem?_cons_zero, List.getElem?_cons_succ] at m0Y mAY mAdY
                have cAY : (wr.alloc (.cells #[.int .u8 (IntKind.u8.wrap (IntKind.i64.wrap ((u : Int) / 256)))] 5)).cell? (ad.add j) = some (.int .i64 (u : Int)) := (World.cell?_alloc_lt wr _ _ (by rw [blk_add]; exact hlX)).trans hcX
                have cAdY : (wr.alloc (.cells #[.int .u8 (IntKind.u8.wrap (IntKind.i64.wrap ((u : Int) / 256)))] 5)).drew.cell? (ad.add j) = some (.int .i64 (u : Int)) := cAY
                have hrneY := whole_row_neV hbX (by decide) hrX
                have hnewY : ∀ (i : Nat) (x : Value), ([.int .u8 (IntKind.u8.wrap (IntKind.i64.wrap ((u : Int) / 256)))] : List Value)[i]? = some x → (wr.alloc (.cells #[.int .u8 (IntKind.u8.wrap (IntKind.i64.wrap ((u : Int) / 256)))] 5)).drew.cell? ((⟨wr.heap.size, 0, none⟩ : Addr).add i) = some x := by
                  obtain ⟨ad', e', _, h'⟩ := Lies.new1 wr (.int .u8 (IntKind.u8.wrap (IntKind.i64.wrap ((u : Int) / 256)))) 5 (by simp)
                  cases e'
                  exact h'
                go_wp2_with fail
                go_region_law (go_loud (refine step_append_lies _ rfl (.tmp 89) (.tmp 96) 24 rfl (w.heap.size + 1) 5 i1 _ 1 1 Tryd.underlying24 hi hi0 hi1 hi2 rfl (by omega) _ _ _ rfl ((hrX.alloc _).drew) _ 1 1 [.int .u8 (IntKind.u8.wrap (IntKind.i64.wrap ((u : Int) / 256)))] rfl rfl hnewY (by intro x hx; rw [List.mem_singleton.1 hx]; rfl) (by omega) (by unfold maxLen; have := HN3.out; omega) (by have := HN3.out; omega) (by simp; omega) _ rfl ?_); intro gY capY wY ownY growY hblkY hgltY; have hbBY : Whole wY nb 27 _ := ((hbX.alloc _).drew).grown growY (fun e => hrneY e.symm); have p1Y := hbBY.cell 1; have q1Y := hbBY.frozen 1; simp only [List.getElem?_toArray, List.getElem?_cons_zero, List.getElem?_cons_succ] at p1Y)
      
                all_goals
                  have VY : Value := .slice (some ⟨gY, 0, none⟩) (n3 + 1) capY
                  clear VY
                  have hzY := (((hzX.alloc (.cells #[.int .u8 (IntKind.u8.wrap (IntKind.i64.wrap ((u : Int) / 256)))] 5)).drew).grown growY (fun e => whole_row_neV hzX (by decide) hrX e.symm)).far (p := ⟨nb, 1, none⟩) (by show w.heap.size ≠ nb; omega) (.slice (some ⟨gY, 0, none⟩) (n3 + 1) capY)
                  have hoY0 := ((hoX.alloc (.cells #[.int .u8 (IntKind.u8.wrap (IntKind.i64.wrap ((u : Int) / 256)))] 5)).drew).kept growY (rows_neV hoX hrX (by decide))
                  have hoY := hoY0.kept (grownBy_setCellV wY nb 1 (.slice (some ⟨gY, 0, none⟩) (n3 + 1) capY)) (.inr (whole_row_neV hbBY (by decide) hoY0))
                  have hqY := ((below_drew (hqX.alloc hsX (.cells #[.int .u8 (IntKind.u8.wrap (IntKind.i64.wrap ((u : Int) / 256)))] 5))).grown growY (by have := hsX; simp; omega) (fun q e => by have := (hrX.lt q e).1; omega)).setCell (p := ⟨nb, 1, none⟩) (by show w.heap.size ≤ nb; omega) (.slice (some ⟨gY, 0, none⟩) (n3 + 1) capY)
                  have hbY : Whole (wY.setCell ⟨nb, 1, none⟩ (.slice (some ⟨gY, 0, none⟩) (n3 + 1) capY)) nb 27 #[.int .u16 6, .slice (some ⟨gY, 0, none⟩) (n3 + 1) capY, .slice none 0 0] := hbBY.set_ 1 (.slice (some ⟨gY, 0, none⟩) (n3 + 1) capY)
                  have hrY := ownY.kept (grownBy_setCellV wY nb 1 (.slice (some ⟨gY, 0, none⟩) (n3 + 1) capY)) (.inr (whole_row_neV hbBY (by decide) ownY))
                  have hlY0 : nb < wY.heap.size := hbBY.lt
                  have hsY := hqY.size
                  clear hoY0 ownY growY hbBY p1Y q1Y
                all_goals
                  obtain ⟨adY, xY, eY, hlY, hxY, hcY⟩ := (Lies.own hoY).of_map (f := fun (u : Nat) => Value.int .i64 (u : Int)) hlt
                  cases eY
                  have hxu : xY = u := by have h1 := hxY.out; rw [hu.out] at h1; cases h1; rfl
                  rw [hxu] at hcY
                  clear hxu hxY
                  generalize wY.setCell ⟨nb, 1, none⟩ (.slice (some ⟨gY, 0, none⟩) (n3 + 1) capY) = wq at *
                  clear hbX hrX hcX hlX hzX hoX hqX hsX m0Y f0Y mAY fAY mAdY fAdY cAY cAdY hnewY hrneY hbAY
      
                  have hbAZ := hbY.alloc (.cells #[.int .u8 (IntKind.u8.wrap ((u : Int).tmod 256))] 5)
                  have m0Z := hbY.cell 1
                  have f0Z := hbY.frozen 1
                  have mAZ := hbAZ.cell 1
                  have fAZ := hbAZ.frozen 1
                  have mAdZ := hbAZ.drew.cell 1
                  have fAdZ := hbAZ.drew.frozen 1
                  simp only [List.getElem?_toArray, List.getElem?_cons_zero, List.getElem?_cons_succ] at m0Z mAZ mAdZ
                  have cAZ : (wq.alloc (.cells #[.int .u8 (IntKind.u8.wrap ((u : Int).tmod 256))] 5)).cell? (ad.add j) = some (.int .i64 (u : Int)) := (World.cell?_alloc_lt wq _ _ (by rw [blk_add]; exact hlY)).trans hcY
                  have cAdZ : (wq.alloc (.cells #[.int .u8 (IntKind.u8.wrap ((u : Int).tmod 256))] 5)).drew.cell? (ad.add j) = some (.int .i64 (u : Int)) := cAZ
                  have hrneZ := whole_row_neV hbY (by decide) hrY
                  have hnewZ : ∀ (i : Nat) (x : Value), ([.int .u8 (IntKind.u8.wrap ((u : Int).tmod 256))] : List Value)[i]? = some x → (wq.alloc (.cells #[.int .u8 (IntKind.u8.wrap ((u : Int).tmod 256))] 5)).drew.cell? ((⟨wq.heap.size, 0, none⟩ : Addr).add i) = some x := by
                    obtain ⟨ad', e', _, h'⟩ := Lies.new1 wq (.int .u8 (IntKind.u8.wrap ((u : Int).tmod 256))) 5 (by simp)
                    cases e'
                    exact h'
                  go_wp2_with fail
                  go_region_law (go_loud (refine step_append_lies _ rfl (.tmp 100) (.tmp 107) 24 rfl (w.heap.size + 1) 5 i1 _ 1 1 Tryd.underlying24 hi hi0 hi1 hi2 rfl (by omega) _ _ _ rfl ((hrY.alloc _).drew) _ 1 1 [.int .u8 (IntKind.u8.wrap ((u : Int).tmod 256))] rfl rfl hnewZ (by intro x hx; rw [List.mem_singleton.1 hx]; rfl) (by omega) (by unfold maxLen; have := HN3.out; omega) (by have := HN3.out; omega) (by simp; omega) _ rfl ?_); intro gZ capZ wZ ownZ growZ hblkZ hgltZ; have hbBZ : Whole wZ nb 27 _ := ((hbY.alloc _).drew).grown growZ (fun e => hrneZ e.symm); have p1Z := hbBZ.cell 1; have q1Z := hbBZ.frozen 1; simp only [List.getElem?_toArray, List.getElem?_cons_zero, List.getElem?_cons_succ] at p1Z)
      
                  all_goals
                    have VZ : Value := .slice (some ⟨gZ, 0, none⟩) ((n3 + 1) + 1) capZ
                    clear VZ
                    have hzZ := (((hzY.alloc (.cells #[.int .u8 (IntKind.u8.wrap ((u : Int).tmod 256))] 5)).drew).grown growZ (fun e => whole_row_neV hzY (by decide) hrY e.symm)).far (p := ⟨nb, 1, none⟩) (by show w.heap.size ≠ nb; omega) (.slice (some ⟨gZ, 0, none⟩) ((n3 + 1) + 1) capZ)
                    have hoZ0 := ((hoY.alloc (.cells #[.int .u8 (IntKind.u8.wrap ((u : Int).tmod 256))] 5)).drew).kept growZ (rows_neV hoY hrY (by decide))
                    have hoZ := hoZ0.kept (grownBy_setCellV wZ nb 1 (.slice (some ⟨gZ, 0, none⟩) ((n3 + 1) + 1) capZ)) (.inr (whole_row_neV hbBZ (by decide) hoZ0))
                    have hqZ := ((below_drew (hqY.alloc hsY (.cells #[.int .u8 (IntKind.u8.wrap ((u : Int).tmod 256))] 5))).grown growZ (by have := hsY; simp; omega) (fun q e => by have := (hrY.lt q e).1; omega)).setCell (p := ⟨nb, 1, none⟩) (by show w.heap.size ≤ nb; omega) (.slice (some ⟨gZ, 0, none⟩) ((n3 + 1) + 1) capZ)
                    have hbZ : Whole (wZ.setCell ⟨nb, 1, none⟩ (.slice (some ⟨gZ, 0, none⟩) ((n3 + 1) + 1) capZ)) nb 27 #[.int .u16 6, .slice (some ⟨gZ, 0, none⟩) ((n3 + 1) + 1) capZ, .slice none 0 0] := hbBZ.set_ 1 (.slice (some ⟨gZ, 0, none⟩) ((n3 + 1) + 1) capZ)
                    have hrZ := ownZ.kept (grownBy_setCellV wZ nb 1 (.slice (some ⟨gZ, 0, none⟩) ((n3 + 1) + 1) capZ)) (.inr (whole_row_neV hbBZ (by decide) ownZ))
                    have hlZ0 : nb < wZ.heap.size := hbBZ.lt
                    have hsZ := hqZ.size
                    clear hoZ0 ownZ growZ hbBZ p1Z q1Z
                  all_goals
                    rw [u8_rem, u8_quo _ hul] at hrZ
                    have HRY : Hid (((wZ.setCell ⟨nb, 1, none⟩ (.slice (some ⟨gZ, 0, none⟩) (n3 + 1 + 1) capZ)).ownsRow (w.heap.size + 1) 5 1 (.slice (some ⟨gZ, 0, none⟩) (n3 + 1 + 1) capZ) (n3 + 1 + 1) ((rdat 16 (L.take (j + 1))).map bv))) := by unfold Hid; rw [HT1.out, List.map_append]; simpa [bv] using hrZ
                    have HN4 : Hid (n3 + 1 + 1 = (rdat 16 (L.take (j + 1))).length) := by unfold Hid; rw [HT1.out, List.length_append, ← hn3.out]; rfl
                    clear hrZ
                    go_wp2_with fail
                    go_roundw
                    case rel => exact ⟨j + 1, some ⟨gZ, 0, none⟩, capZ, n3 + 1 + 1, by omega, by go_num, hbZ, HRY, HN4, hoZ, hzZ, hqZ, by simpa using hlZ0⟩
                    case measure => simp [intOf]; omega

              · obtain rfl : j = L.length := by omega
                have hft : L.take L.length = L := List.take_length
                have hrow1 := hrow.out
                have hn1 := hn3.out
                rw [hft] at hrow1 hn1
                subst hn1
                have HQV : Hid ((rdat 16 L).length ≤ 2002) := by have h1 := rdat_len 16 L; have := HLL.out; have := HLN.out; unfold Hid; split at h1 <;> omega
                have hRP : rp l = if (rdat 16 L).length = 16 then some (6, rdat 16 L) else none := by unfold rp; rw [HBSE.out.1, HBSE.out.2, hwords.out]; rfl
                clear hft hrow hn3
                generalize rdat 16 L = v at *
                have hIs := fun W => ris_any (.mk 6 v []) A3 c3 none 0 W (by show v.length ≤ _; have := HQV.out; omega) (by show (0 : Nat) ≤ _; omega)
                have hE2 : ndV (.mk 6 v []) A3 c3 none 0 = .agg #[.int .u16 6, .slice A3 v.length c3, .slice none 0 0] := rfl
                have HE2 := Lib.hid hE2
                rw [hE2] at hIs
                have HND : Hid (∀ W : World, W.heap.size = W.heap.size → True) := fun _ _ => trivial
                by_cases hA : v.length = 16
                · have hnof : decide (nof (.mk 6 v []) < 2) = true := by unfold nof fitA; simp [Nd.t, Nd.v, Nd.ks, hA]
                  have HRP : Hid (rp l = some (6, v)) := by unfold Hid; rw [hRP, if_pos hA]
                  rw [hnof] at hIs
                  have hcap := own_cap hrow1
                  have HRW := Lib.hid hrow1
                  clear hRP hA hnof hE2 HND hrow1
                  go_wp2_with (first | (refine wpList_load_row rfl 27 _ rfl nb rfl _ _ (0, 0) _ hbxx.out Tryd.underlying27 rfl (by kernel_rfl) ?_) | fail)
                  refine (hIs _).mono ?_
                  rintro e w7 ⟨rfl, b7⟩
                  have hbx7 := hbxx.out.below b7 hbxx.out.lt
                  have hz7 := hzx.out.below b7 hzx.out.lt
                  have hb7 := hbx2.trans (b7.mono hbx2.size)
                  have hrow7 := HRW.out.kept (row := none) ⟨b7.os, b7.tape, b7.output, b7.size, fun q hq _ => b7.block q hq⟩ (Classical.em _)
                  have hnd : ∀ cs6, Node (w7.setRow w.heap.size cs6) (w7.setRow w.heap.size cs6).heap.size A3 c3 none 0 (.mk 6 v []) := fun cs6 => by
                    rw [setRow_size]
                    refine ⟨(Lies.own hrow7).keepC fun ad e => setRow_other _ _ _ _ (fun e2 => ?_), hcap.2.1, hcap.2.2, Nodes.nil _ _ _, Nat.le_refl _, Nat.zero_le _⟩
                    subst e
                    have := (hrow7.lt ad.block rfl).1
                    omega
                  have HNN := Lib.hid hnd
                  clear hnd hrow7 b7
                  go_wp2_with (first
                    | (refine wpList_load_row rfl 27 _ rfl nb rfl _ _ (0, 0) _ hbx7 Tryd.underlying27 rfl (by kernel_rfl) ?_)
                    | (refine wpList_store_row rfl 27 _ _ rfl w.heap.size #[.int .u16 6, .slice A3 v.length c3, .slice none 0 0] rfl rfl _ _ hz7 (by kernel_rfl) rfl (by simp [Value.oneCell']) ?_)
                    | fail)
                  (try simp only [Exit.inBlock, Exit.then])
                  refine bodyPost_ret (results_row_tmp rfl _ _ w.heap.size 27 _ _ rfl (hz7.setRow _) Tryd.underlying27 rfl (by kernel_rfl)) rfl ?_
                  exact ⟨below_setRow hb7 (Nat.le_refl _) _, .inl ⟨6, v, A3, c3, HRP.out, by rw [HE2.out]; rfl, HNN.out _⟩⟩
                · have hnof : decide (nof (.mk 6 v []) < 2) = false := by unfold nof fitA; simp [Nd.t, Nd.v, Nd.ks, hA]
                  have HNO : Hid (rp l = none) := by unfold Hid; rw [hRP, if_neg hA]
                  rw [hnof] at hIs
                  clear hRP hA hnof hE2 HND hrow1
                  go_wp2_with (first | (refine wpList_load_row rfl 27 _ rfl nb rfl _ _ (0, 0) _ hbxx.out Tryd.underlying27 rfl (by kernel_rfl) ?_) | fail)
                  refine (hIs _).mono ?_
                  rintro e w7 ⟨rfl, b7⟩
                  have hz7 := hzx.out.below b7 hzx.out.lt
                  have hb7 := hbx2.trans (b7.mono hbx2.size)
                  clear b7
                  go_wp2_with (first | (refine wpList_store_row rfl 27 _ _ rfl w.heap.size #[.int .u16 0, .slice none 0 0, .slice none 0 0] rfl rfl _ _ hz7 (by kernel_rfl) rfl (by simp [Value.oneCell']) ?_) | fail)
                  (try simp only [Exit.inBlock, Exit.then])
                  refine bodyPost_ret (results_row_tmp rfl _ _ w.heap.size 27 _ _ rfl (hz7.setRow _) Tryd.underlying27 rfl (by kernel_rfl)) rfl ?_
                  exact ⟨below_setRow hb7 (Nat.le_refl _) _, .inr ⟨HNO.out, rfl⟩⟩
end Go.Proofs.YtemeeeiglifpaaaDoor

