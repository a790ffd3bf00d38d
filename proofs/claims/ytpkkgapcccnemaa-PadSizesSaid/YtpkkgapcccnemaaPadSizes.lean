/- Layer 3, the law PadSizes: the walk. -/
import Derived.Test.YtpkkgapcccnemaaPadE
import Derived.Test.YtpkkgapcccnemaaOpen
namespace Go.Proofs.Ytpkkgapcccnemaa
open Go.RowKit Go.ChangeShapes Go.WideShapes Go.ChangeAt

theorem intinfo : (Try.prog.info? 3).map (fun i => (i.zero, i.size, i.bytes)) = some (some (.int .i64 0), 1, 8) := by kernel_rfl
theorem Lies.half {w : World} {B : Nat} {A : Option Addr} {l : List UInt16} (h : Lies w B A (l.map hv)) {k : Nat} (hk : k < l.length) :
    ∃ ad x, A = some ad ∧ ad.block < B ∧ Hid (l[k]? = some x) ∧ w.cell? (ad.add k) = some (.int .u16 (x.toNat : Int)) := h.of_map hk
theorem open_halves {H : Type} {enc : TypeId × Value → H} {P : Program} {w : World} {held : Bool} {t e : TypeId} {fuel : Nat} {x : DataW H × List MemPlace} {A : Option Addr} {len cap : Nat}
    (ht : P.underlying t = some (.slice e)) (he : P.underlying e = some (.int .u16)) (hc : P.cellsOf e = 1)
    (h : DataW.trod enc P w 0 (fun _ => true) held fuel t [.slice A len cap] = some x) :
    ∃ l : List UInt16, len = l.length ∧ Lies w w.heap.size A (l.map hv) ∧ len ≤ cap ∧ cap ≤ maxLen := by
  obtain ⟨zs, h1, h2, h3, h4, h5⟩ := open_nums ht he hc h
  refine ⟨zs.map fun n => UInt16.ofNat n.toNat, by simpa using h1, ?_, h3, h4⟩
  have : (zs.map fun n => UInt16.ofNat n.toNat).map hv = zs.map (Value.int .u16) := by
    rw [List.map_map]
    refine List.map_congr_left fun n hn => ?_
    have := wf_u16 (h5 n hn)
    simp only [Function.comp, hv, UInt16.toNat_ofNat']
    congr 1
    omega
  rw [this]
  exact h2

def nat16 (l : List UInt16) : List Nat := l.map (·.toNat)
theorem low16 (l : List UInt16) : Low (nat16 l) := by
  intro i x hx
  unfold nat16 at hx
  rw [List.getElem?_map] at hx
  obtain ⟨y, _, rfl⟩ := Option.map_eq_some_iff.1 hx
  have := y.toNat_lt
  omega
theorem low16_0 (l : List UInt16) : Low (nat16 l ++ [0]) := by
  intro i x hx
  rcases Nat.lt_or_ge i (nat16 l).length with h | h
  · rw [List.getElem?_append_left h] at hx
    exact low16 l i x hx
  · rw [List.getElem?_append_right h] at hx
    have := List.mem_of_getElem? hx
    simp at this
    omega
theorem nat16_len (l : List UInt16) : (nat16 l).length = l.length := by simp [nat16]
theorem one_ints (l : List Nat) : ∀ u ∈ l.map iv, u.oneCell' = true := by
  intro u hu
  obtain ⟨c, _, rfl⟩ := List.mem_map.1 hu
  rfl

theorem padsizes_any (A : Option Addr) (c : Nat) (l : List UInt16) (w : World) (h : Lies w w.heap.size A (l.map hv)) :
    Calls Try.prog 5 #[.slice A l.length c] w fun e w' => e = .returned (.bool true) ∧ Below w.heap.size w w' := by
  by_cases hb : l.length ≤ 50
  · go_enter Try.func5, Try.ntmps5
    go_wp2_with fail
    refine (awake_any w).mono ?_
    rintro e w1 ⟨rfl, b1⟩
    go_wp2_with fail
    go_loopw [3, 4] (fun v i wr => ∃ (k : Nat) (A' : Option Addr) (c' : Nat), k ≤ l.length ∧ i = .int .i64 k ∧ v = .slice A' k c' ∧
        wr.ownsRow w.heap.size 3 1 (.slice A' k c') k (((nat16 l).take k).map iv) ∧ Below w.heap.size w wr) (fun _ i _ => l.length - (intOf i).toNat)
    case atStart => exact ⟨0, _, _, Nat.zero_le _, rfl, rfl, World.ownsRow_nil _ _ _ _, b1⟩
    case round =>
      obtain ⟨k, A2, c2, hk, rfl, rfl, hown, hbel⟩ := hrel
      by_cases hlt : k < l.length
      · obtain ⟨ad, x, rfl, _, hx, hc⟩ := (h.below hbel).half hlt
        have hx2 := x.toNat_lt
        have HT : Hid ((nat16 l).take (k + 1) = (nat16 l).take k ++ [x.toNat]) := take_some (by unfold nat16; rw [List.getElem?_map, hx.out]; rfl)
        have hb1 := Lib.hid hbel.size
        go_wp2_with (at_builtin; refine wpList_append_lies _ rfl (.tmp 20) (.tmp 26) 34 rfl w.heap.size 3 _ 8 Try.underlying34 intinfo rfl _ _ _ rfl (hown.alloc _) _ _ 1 1 _ rfl rfl (Lies.new1 _ _ _) (by intro u hu; rw [List.mem_singleton.1 hu]; rfl) (by omega) (by unfold maxLen; omega) (by simp; have := hb1.out; omega) ?_; intro A4 c4 w4 hown4 hgrow4 _)
        have hbel4 := below_own (hbel.alloc hbel.size _) (hown.alloc _) hgrow4 (Nat.le_refl _) (by simp; have := hbel.size; omega)
        have hown5 : w4.ownsRow w.heap.size 3 1 (.slice A4 (k + 1) c4) (k + 1) (((nat16 l).take (k + 1)).map iv) := by
          rw [HT.out, List.map_append, List.map_singleton]
          exact hown4
        have H5 := Lib.hid hown5
        clear hown5 hown4 hown hgrow4
        go_wp2
        go_roundw
        case rel => exact ⟨k + 1, A4, c4, by omega, by go_num, rfl, H5.out, hbel4⟩
        case measure => simp [intOf]; omega
      · have e1 : k = l.length := by omega
        subst e1
        rw [List.take_of_length_le (by rw [nat16_len]; omega)] at hown
        have HS : ∀ (A' : Option Addr) (c' : Nat) (w' : World), Lies w' w'.heap.size A' ((nat16 l).map iv) → Calls Try.prog 18 #[.slice A' l.length c'] w' fun e w'' => e = .returned (.int .i64 (sizes (nat16 l) : Nat)) ∧ Below w'.heap.size w' w'' := by
          intro A' c' w' hl
          have := sizes_any A' c' (nat16 l) w' hl (by rw [nat16_len]; omega) (low16 l)
          rw [nat16_len] at this
          exact this
        have HR : ∀ (A' : Option Addr) (c' : Nat) (w' : World), Lies w' w'.heap.size A' ((nat16 l).map iv) → Calls Try.prog 19 #[.slice A' l.length c'] w' fun e w'' => e = .returned (.int .i64 (sizes (nat16 l) : Nat)) ∧ ∃ q, w'' = w'.drewN q := by
          intro A' c' w' hl
          have := rsizes_any A' c' (nat16 l) w' hl (by rw [nat16_len]; omega) (low16 l)
          rw [nat16_len] at this
          exact this
        have HS0 : ∀ (A' : Option Addr) (c' : Nat) (w' : World), Lies w' w'.heap.size A' ((nat16 l ++ [0]).map iv) → Calls Try.prog 18 #[.slice A' (l.length + 1) c'] w' fun e w'' => e = .returned (.int .i64 (up (sizes (nat16 l)) : Nat)) ∧ Below w'.heap.size w' w'' := by
          intro A' c' w' hl
          have := sizes_any A' c' (nat16 l ++ [0]) w' hl (by simp [nat16_len]; omega) (low16_0 l)
          rw [sizes_snoc, List.length_append, nat16_len, Nat.add_zero] at this
          exact this
        have hs := sizes_le (low16 l) l.length (by rw [nat16_len]; omega)
        rw [List.take_of_length_le (by rw [nat16_len]; omega)] at hs
        have HU := up_any (sizes (nat16 l)) (by omega)
        generalize up (sizes (nat16 l)) = u at *
        generalize sizes (nat16 l) = s at *
        generalize hP : (nat16 l).map iv = P at *
        have HS0' : ∀ (A' : Option Addr) (c' : Nat) (w' : World), Lies w' w'.heap.size A' (P ++ [.int .i64 0]) → Calls Try.prog 18 #[.slice A' (l.length + 1) c'] w' fun e w'' => e = .returned (.int .i64 (u : Nat)) ∧ Below w'.heap.size w' w'' := by
          intro A' c' w' hl
          exact HS0 A' c' w' (by rw [List.map_append, hP]; exact hl)
        clear hP HS0
        go_wp2_with fail
        refine (HS A2 c2 wr (Lies.own hown)).mono ?_
        rintro e w2 ⟨rfl, b12⟩
        have own2 := own_below' hown b12
        have b2 := hbel.trans (b12.mono hbel.size)
        clear b12 hown hbel
        go_wp2_with fail
        refine (HR A2 c2 w2 (Lies.own own2)).mono ?_
        rintro e w3 ⟨rfl, q, hw3⟩
        have b3 : Below w.heap.size w w3 := by rw [hw3]; exact below_drewN b2 _
        have own3 : w3.ownsRow w.heap.size 3 1 (.slice A2 l.length c2) l.length P := by rw [hw3]; exact own2
        clear hw3 own2 b2
        go_wp2_with (at_builtin; refine wpList_append_lies_if _ rfl (.tmp 35) (.tmp 36) 34 rfl w.heap.size 3 _ 8 Try.underlying34 intinfo rfl _ _ _ rfl (own3.alloc _) _ _ 1 1 _ rfl rfl (Lies.new1 _ _ _) (by intro u hu; rw [List.mem_singleton.1 hu]; rfl) (by omega) (by unfold maxLen; omega) (by simp; have := b3.size; omega) ?_; intro A4 c4 w4 hown4 hgrow4 _)
        have b4 := below_own (b3.alloc b3.size _) (own3.alloc _) hgrow4 (Nat.le_refl _) (by simp; have := b3.size; omega)
        clear b3 own3 hgrow4
        refine (HS0' A4 c4 w4 (Lies.own hown4)).mono ?_
        rintro e w5 ⟨rfl, b45⟩
        have b5 := b4.trans (b45.mono b4.size)
        clear b4 b45 hown4
        go_wp2_with fail
        refine (HU w5).mono ?_
        rintro e w6 ⟨rfl, rfl⟩
        go_wp2_with fail
        go_ret
        exact ⟨rfl, b5⟩
  · have hn2 : (50 : Int) < (l.length : Int) := by omega
    go_enter Try.func5, Try.ntmps5
    go_wp2_with fail
    refine (awake_any w).mono ?_
    rintro e w1 ⟨rfl, b1⟩
    go_wp2_with fail
    refine (awake_any w1).mono ?_
    rintro e w2 ⟨rfl, b2⟩
    go_wp2_with fail
    go_ret
    exact ⟨rfl, b1.trans (b2.mono b1.size)⟩

theorem law_PadSizes {H : Type} {enc : TypeId × Value → H} {W : World} {base : Nat} {v0 : Value} {d0 : DataW H} {p0 : List MemPlace}
    (o0 : Value.okWide Try.prog W .any base 33 v0) (h0 : DataW.Trod enc Try.prog W 0 (fun _ => true) true 33 v0 d0 p0) (_s0 : Small Try.prog 33 d0) :
    Calls Try.prog 5 #[v0] W fun e w' => e = .returned (.bool true) ∧ Below W.heap.size W w' := by
  obtain ⟨A, n, c, rfl⟩ := okWide_slice Try.underlying33 o0
  obtain ⟨fuel, hf⟩ := h0
  obtain ⟨b, rfl, hl, hc, hcm⟩ := open_halves Try.underlying33 Try.underlying35 (by kernel_rfl) hf
  exact padsizes_any A c b W hl
end Go.Proofs.Ytpkkgapcccnemaa
