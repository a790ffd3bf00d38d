/- Layer 7: the law ShapeTypes. -/
import Derived.Test.YtemjiijfndnhbaaShapeE
import Derived.Test.YtemjiijfndnhbaaShapeR
import Derived.Test.YtemjiijfndnhbaaShapeS
import Derived.Test.YtemjiijfndnhbaaOpen
namespace Go.Proofs.Ytemjiijfndnhbaa
open Go.ChangeShapes Go.WideShapes Go.ChangeAt Go.RowKit

/-- the forms of a class in a list -/
def fil (c : Int) (L : List Form) : List Form := L.filter fun f => decide (f.cl = c)
theorem fil_take_yes {c : Int} {L : List Form} {k : Nat} {f : Form} (h : L[k]? = some f) (hc : f.cl = c) : fil c (L.take (k + 1)) = fil c (L.take k) ++ [f] := by
  unfold fil
  rw [take_some h, List.filter_append]
  simp [hc]
theorem fil_take_no {c : Int} {L : List Form} {k : Nat} {f : Form} (h : L[k]? = some f) (hc : ¬ f.cl = c) : fil c (L.take (k + 1)) = fil c (L.take k) := by
  unfold fil
  rw [take_some h, List.filter_append]
  simp [hc]
theorem fil_len (c : Int) (L : List Form) : (fil c L).length ≤ L.length := List.length_filter_le _ _
theorem fil_whole (c : Int) : fil c whole = tab c := by
  have hp : ∀ f ∈ pT, f.cl = 1 := by
    have : pT.all (fun f => f.cl == 1) = true := rfl
    intro f hf
    simpa using List.all_eq_true.1 this f hf
  have hc : ∀ f ∈ cT, f.cl = 2 := by
    have : cT.all (fun f => f.cl == 2) = true := rfl
    intro f hf
    simpa using List.all_eq_true.1 this f hf
  have ha : ∀ (L : List Form) (d : Int), (∀ f ∈ L, f.cl = d) → fil c L = if d = c then L else [] := by
    intro L d h
    unfold fil
    by_cases hd : d = c
    · rw [if_pos hd, List.filter_eq_self]
      intro f hf
      simpa using (h f hf).trans hd
    · rw [if_neg hd, List.filter_eq_nil_iff]
      intro f hf
      simpa [h f hf] using hd
  have happ : fil c whole = fil c pT ++ fil c cT := by unfold fil whole; rw [List.filter_append]
  rw [happ, ha pT 1 hp, ha cT 2 hc]
  unfold tab
  by_cases h1 : c = 1
  · subst h1; simp
  · by_cases h2 : c = 2
    · subst h2; simp
    · rw [if_neg (Ne.symm h1), if_neg (Ne.symm h2), if_neg h1, if_neg h2]; rfl
def tyl (L : List Form) : List UInt16 := L.map fun f => f.ty
theorem tys_eq (L : List Form) : tys L = (tyl L).map hv := by simp [tys, tyl]
theorem mono_of {us : List UInt16} (h : us.Pairwise fun x y => x.toNat < y.toNat) : Mono us := by
  intro i j x y hij hx hy
  obtain ⟨hi, rfl⟩ := List.getElem?_eq_some_iff.1 hx
  obtain ⟨hj, rfl⟩ := List.getElem?_eq_some_iff.1 hy
  by_cases he : i = j
  · subst he; omega
  · have := List.pairwise_iff_getElem.1 h i j hi hj (by omega)
    omega
theorem mono_p : Mono (tyl pT) := mono_of (by decide +kernel)
theorem mono_c : Mono (tyl cT) := mono_of (by decide +kernel)

/-- what the library's sort is owed -/
theorem sorts_any (c : Int) (A : Option Addr) (c' : Nat) (w : World) (h : Lies w w.heap.size A (tys (tab c))) :
    Calls Try.prog 14 #[.slice A (tab c).length c'] w fun e w' => e = .returned (.tuple #[]) ∧ Below w.heap.size w w' := by
  rw [tys_eq] at h
  by_cases h1 : c = 1
  · subst h1
    exact sort_any A c' w.heap.size (tyl pT) w 27 h mono_p rfl (.inr rfl) (Nat.le_refl _)
  · by_cases h2 : c = 2
    · subst h2
      exact sort_any A c' w.heap.size (tyl cT) w 19 h mono_c rfl (.inl rfl) (Nat.le_refl _)
    · have ht : tab c = [] := by unfold tab; rw [if_neg h1, if_neg h2]
      rw [ht]
      exact sort_none A c' w

set_option maxRecDepth 100000 in
set_option maxHeartbeats 8000000 in
theorem stypes_any (c : Int) (w : World) :
    Calls Try.prog 5 #[.int .i64 c] w fun e w' => e = .returned (.bool true) ∧ Below w.heap.size w w' := by
  have hT := rtab_any
  have hwl := whole_len
  have hTy := types_any c
  have hS := sorts_any c
  have hw := fil_whole c
  have hn := tab_len c
  have hE := fun A c' A' c'' B w h h' => equal16_any A c' B (tyl (tab c)) w A' c'' (tab c).length h h' (by simp [tyl]) (by omega)
  generalize whole = L at *
  simp only [← tys_eq] at hE
  generalize tab c = F at *
  go_enter Try.func5, Try.ntmps5
  go_wp2_with fail
  refine (awake_any w).mono ?_
  rintro e w1 ⟨rfl, b1⟩
  go_wp2_with fail
  refine (hT _).mono ?_
  rintro e w2 ⟨A, rfl, hl, b2⟩
  have hb2 := b1.trans (b2.mono b1.size)
  clear b1 b2
  go_wp2_with fail
  go_loopw [3, 5] (fun v i wr => ∃ (k : Nat) (A' : Option Addr) (m c' : Nat), k ≤ 46 ∧ i = .int .i64 k ∧ v = .slice A' m c' ∧ m ≤ k ∧ m = (fil c (L.take k)).length ∧
      Hid (wr.ownsRow w2.heap.size 22 1 (.slice A' m c') m (tys (fil c (L.take k)))) ∧ Below w2.heap.size w2 wr) (fun _ i _ => 46 - (intOf i).toNat)
  case atStart => exact ⟨0, none, 0, 0, by omega, rfl, rfl, Nat.le_refl _, rfl, World.ownsRow_nil _ _ _ _, Below.refl _ _⟩
  case round =>
    obtain ⟨k, A2, m, c2, hk, rfl, rfl, hmk, hm, hown, hbel⟩ := hrel
    have HM := Lib.hid hm
    clear hm
    have hsz := hbel.size
    by_cases hlt : k < 46
    · obtain ⟨ad, f, rfl, hb, hf, hcs, hc0, hc1, hc2⟩ := (hl.below hbel).form (by omega : k < L.length)
      by_cases hcl : f.cl = c
      · have HT := Lib.hid (fil_take_yes hf.out hcl)
        subst hcl
        go_wp2_with (first
          | (at_builtin; refine wpList_append_lies _ rfl (.tmp 22) (.tmp 28) 35 rfl w2.heap.size 22 _ 2 Try.underlying35 u16info rfl _ _ _ rfl (hown.out.alloc _) _ _ 1 1 [hv f.ty] rfl rfl (Lies.new1 _ _ _) (by intro u hu; rw [List.mem_singleton.1 hu]; rfl) (by omega) (by unfold maxLen; omega) (by simp; omega) ?_; intro A4 c4 w4 hown4 hgrow4 _))
        have H2 : Hid (w4.ownsRow w2.heap.size 22 1 (.slice A4 (m + 1) c4) (m + 1) (tys (fil f.cl (L.take (k + 1))))) := by
          unfold Hid
          rw [HT.out]
          unfold tys
          rw [List.map_append]
          exact hown4
        have H3 : Hid (m + 1 = (fil f.cl (L.take (k + 1))).length) := by
          unfold Hid
          rw [HT.out, List.length_append, HM.out]
          rfl
        have hb4 : Below w2.heap.size w2 w4 := (hbel.alloc hsz _).grown hgrow4 (by simp; omega) (fun q e => (hown.out.lt q e).1)
        clear hown4 hgrow4
        go_wp2_with fail
        go_roundw
        case rel => exact ⟨k + 1, A4, m + 1, c4, by omega, by go_num, rfl, by omega, H3.out, H2, hb4⟩
        case measure => simp [intOf]; omega
      · have HT := Lib.hid (fil_take_no hf.out hcl)
        go_wp2_with fail
        go_roundw
        case rel => exact ⟨k + 1, A2, m, c2, by omega, by go_num, rfl, by omega, by rw [HT.out]; exact HM.out, by rw [HT.out]; exact hown, hbel⟩
        case measure => simp [intOf]; omega
    · obtain rfl : k = 46 := by omega
      have HE : Hid (wr.ownsRow w2.heap.size 22 1 (.slice A2 m c2) m (tys F)) := by
        have := hown.out
        rwa [List.take_of_length_le (by omega), hw] at this
      obtain rfl : m = F.length := by
        have := HM.out
        rwa [List.take_of_length_le (by omega), hw] at this
      clear hown HM
      have hlr := Lies.own HE.out
      go_wp2_with fail
      refine (hS A2 c2 wr hlr).mono ?_
      rintro e w5 ⟨rfl, b5⟩
      have hl5 := (hlr.below b5).more b5.size
      have hb5 := hb2.trans ((hbel.mono hb2.size).trans (b5.mono (Nat.le_trans hb2.size hsz)))
      go_wp2_with fail
      refine (hTy _).mono ?_
      rintro e w6 ⟨A6, c6, rfl, own6, b6⟩
      have hl6 := (hl5.below b6).more b6.size
      have hl7 := Lies.own own6
      have hb6 := hb5.trans (b6.mono hb5.size)
      go_wp2_with fail
      refine (hE A6 c6 A2 c2 w6.heap.size w6 hl7 hl6).mono ?_
      rintro e w7 ⟨rfl, q, rfl⟩
      go_wp2_with fail
      go_ret
      exact ⟨rfl, below_drewN hb6 q⟩

theorem law_ShapeTypes {H : Type} {enc : TypeId × Value → H} {W : World} {base : Nat} {v0 : Value} {d0 : DataW H} {p0 : List MemPlace}
    (o0 : Value.okWide Try.prog W .any base 3 v0) (h0 : DataW.Trod enc Try.prog W 0 (fun _ => true) true 3 v0 d0 p0) (_s0 : Small Try.prog 3 d0) :
    Calls Try.prog 5 #[v0] W fun e w' => e = .returned (.bool true) ∧ Below W.heap.size W w' := by
  obtain ⟨c, rfl, _, _, _⟩ := open_int Try.underlying3 o0 h0
  exact stypes_any c W
end Go.Proofs.Ytemjiijfndnhbaa
