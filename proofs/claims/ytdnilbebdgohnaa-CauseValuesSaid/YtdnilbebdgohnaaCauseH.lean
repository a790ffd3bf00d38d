/- Layer 10, the reference: Value, Types. They write nothing that was there. -/
import Derived.Test.YtdnilbebdgohnaaCauseCD
import Derived.Test.YtdnilbebdgohnaaNodeUO
import Derived.Test.YtdnilbebdgohnaaNodeRB



namespace Go.Proofs.Ytdnilbebdgohnaa
open Go.RowKit

/-- what the reference says of a number: with false, whatever number -/
def RVal (w : World) (o : Option Nat) (e : Ending) (w' : World) : Prop := Below w.heap.size w w' ∧ ∃ y : Nat, e = .returned (.tuple #[.int .u32 (y : Int), .bool o.isSome]) ∧ ∀ z, o = some z → z = y
theorem num4_eq (a b c d : UInt8) : numOf [a, b, c, d] = a.toNat * 16777216 + b.toNat * 65536 + c.toNat * 256 + d.toNat := by
  rw [numOf_four]
  omega
theorem tests_num {t : UInt16} (ht : t ∈ numT) : (((t.toNat : Int) != 1) = false) ∨ (((t.toNat : Int) != 1) = true ∧ ((t.toNat : Int) != 3) = false) ∨ (((t.toNat : Int) != 1) = true ∧ ((t.toNat : Int) != 3) = true ∧ ((t.toNat : Int) != 9) = false) := by
  simp only [numT, List.mem_cons, List.not_mem_nil, or_false] at ht
  rcases ht with h | h | h <;> rw [h]
  · exact .inl rfl
  · exact .inr (.inl ⟨rfl, rfl⟩)
  · exact .inr (.inr ⟨rfl, rfl, rfl⟩)
theorem val_cases (n : Nd) (hok : okC numT n = true) : (((n.t.toNat : Int) == 1) = false ∧ valO n = some (numOf n.v)) ∨ (((n.t.toNat : Int) == 1) = true ∧ numOf n.v % 65536 = 0 ∧ valO n = some (numOf n.v / 65536)) ∨ (((n.t.toNat : Int) == 1) = true ∧ numOf n.v % 65536 ≠ 0 ∧ valO n = none) := by
  unfold valO
  rw [if_pos hok]
  by_cases h1 : n.t = 1
  · have e1 : ((n.t.toNat : Int) == 1) = true := by rw [h1]; rfl
    rw [if_pos h1]
    by_cases h2 : numOf n.v % 65536 = 0
    · rw [if_pos h2]; exact .inr (.inl ⟨e1, h2, rfl⟩)
    · rw [if_neg h2]; exact .inr (.inr ⟨e1, h2, rfl⟩)
  · rw [if_neg h1]
    refine .inl ⟨?_, rfl⟩
    rw [beq_eq_false_iff_ne]
    exact fun e => h1 (UInt16.toNat_inj.1 (by have : (1 : UInt16).toNat = 1 := rfl; omega))
set_option maxRecDepth 100000 in
set_option maxHeartbeats 2000000 in
theorem rvalue10_four (t : UInt16) (ht : t ∈ numT) (p q r s : UInt8) (A : Option Addr) (c : Nat) (K : Option Addr) (k : Nat) (w : World) (hL : Lies w w.heap.size A ([p, q, r, s].map bv)) :
    Calls Try.prog 15 #[.agg #[hv t, .slice A 4 c, .slice K 0 k]] w (RVal w (valO (.mk t [p, q, r, s] []))) := by
  have b0 : Below w.heap.size w (w.alloc (.cells #[hv t, .slice A 4 c, .slice K 0 k] 28)) := (Below.refl _ _).alloc (Nat.le_refl _) _
  have x0 := Whole.new w 28 #[hv t, .slice A 4 c, .slice K 0 k]
  obtain ⟨ad, hA, hab, hcell⟩ := (hL.below b0) (by simp)
  subst hA
  have c0 := hcell 0 (bv p) rfl
  have c1 := hcell 1 (bv q) rfl
  have c2 := hcell 2 (bv r) rfl
  have c3 := hcell 3 (bv s) rfl
  simp only [Addr.add, Nat.add_zero, Nat.reduceEqDiff, if_false, if_true] at c0 c1 c2 c3
  have HC := Lib.hid (val_cases (.mk t [p, q, r, s] []) (by rw [okC_num]; exact decide_eq_true ⟨ht, rfl, rfl⟩))
  have HX : Hid (numOf [p, q, r, s] = p.toNat * 16777216 + q.toNat * 65536 + r.toNat * 256 + s.toNat) := num4_eq p q r s
  have HT := Lib.hid (tests_num ht)
  have hp := p.toNat_lt
  have hq := q.toNat_lt
  have hr := r.toNat_lt
  have hs := s.toNat_lt
  obtain ⟨t0, t1, t2, _, _, _⟩ := x0.three
  generalize valO (.mk t [p, q, r, s] []) = o at *
  simp only [Nd.t, Nd.v] at HC
  generalize numOf [p, q, r, s] = x at *
  have HB := Lib.hid b0
  clear hcell hL ht b0 x0
  rcases HT.out with g1 | ⟨g1, g3⟩ | ⟨g1, g3, g9⟩
  all_goals
    go_enter Try.func15, Try.ntmps15
    go_upto_region 1 with fail
    generalize w.alloc (.cells #[hv t, .slice (some ad) 4 c, .slice K 0 k] 28) = w0 at *
    go_wp2_with fail
    go_region_held3 (fun V => V.cell? ⟨w.heap.size, 1, none⟩ = some (.slice (some ad) 4 c) ∧ V.cell? ad = some (bv p) ∧ V.cell? ⟨ad.block, ad.off + 1, none⟩ = some (bv q) ∧ V.cell? ⟨ad.block, ad.off + 2, none⟩ = some (bv r) ∧ V.cell? ⟨ad.block, ad.off + 3, none⟩ = some (bv s)) (first | exact ⟨t1, c0, c1, c2, c3⟩ | go_keep) (fail)
    have hE : IntKind.u32.wrap (IntKind.u32.wrap (IntKind.u32.wrap (IntKind.u32.wrap (IntKind.u32.wrap (p.toNat : Int) * 16777216) + IntKind.u32.wrap (IntKind.u32.wrap (q.toNat : Int) * 65536)) + IntKind.u32.wrap (IntKind.u32.wrap (r.toNat : Int) * 256)) + IntKind.u32.wrap (s.toNat : Int)) = (x : Int) := by
      rw [HX.out]
      simp only [IntKind.wrap_u32']
      omega
    rw [hE]
    have hxl : x < 4294967296 := by rw [HX.out]; omega
    clear hE c0 c1 c2 c3 hp hq hr hs
    rcases HC.out with ⟨hT, hr⟩ | ⟨hT, hm, hr⟩ | ⟨hT, hm, hr⟩
    · subst hr
      go_wp2_with fail
      go_ret2
      exact ⟨below_drew HB.out, x, rfl, fun z hz => (Option.some.inj hz).symm⟩
    · subst hr
      have hm' : (x : Int) % 65536 = 0 := by omega
      clear hm
      go_wp2_with fail
      go_ret2
      exact ⟨below_drew HB.out, x / 65536, rfl, fun z hz => (Option.some.inj hz).symm⟩
    · subst hr
      have hm' : ((x : Int) % 65536 == 0) = false := by rw [beq_eq_false_iff_ne]; omega
      clear hm
      go_wp2_with fail
      go_ret2
      exact ⟨below_drew HB.out, x / 65536, rfl, fun z hz => by cases hz⟩
set_option maxRecDepth 100000 in
set_option maxHeartbeats 2000000 in
theorem rvalue10_any (n : Nd) (A : Option Addr) (c : Nat) (K : Option Addr) (k : Nat) (w : World) (hN : Node w w.heap.size A c K k n) (hb : Bnd n) :
    Calls Try.prog 15 #[ndV n A c K k] w (RVal w (valO n)) := by
  have b0 : Below w.heap.size w (w.alloc (.cells #[hv n.t, .slice A n.v.length c, .slice K n.ks.length k] 28)) := (Below.refl _ _).alloc (Nat.le_refl _) _
  have x0 : NdBox (w.alloc (.cells #[hv n.t, .slice A n.v.length c, .slice K n.ks.length k] 28)) w.heap.size n A c K k := Whole.new w 28 #[hv n.t, .slice A n.v.length c, .slice K n.ks.length k]
  have t0 := x0.c0
  have t1 := x0.c1
  have t2 := x0.c2
  by_cases h4 : n.v.length = 4
  · by_cases hk0 : n.ks.length = 0
    · by_cases ht : n.t ∈ numT
      · obtain ⟨t, v, ks⟩ := n
        obtain ⟨p, q, r, s, hd⟩ := num4 h4
        have hd' : v = [p, q, r, s] := hd
        have hk' : ks = [] := List.eq_nil_of_length_eq_zero hk0
        subst hd'
        subst hk'
        exact rvalue10_four t ht p q r s A c K k w hN.data
      · have HV : Hid (valO n = none) := by unfold Hid valO; rw [okC_num, decide_eq_false (fun h => ht h.1)]; rfl
        have hq4 : ((n.v.length : Int) != 4) = false := by rw [h4]; rfl
        have hqk : ¬ (0 : Int) < (n.ks.length : Int) := by omega
        have h1 : ((n.t.toNat : Int) != 1) = true := by rw [bne_iff_ne]; exact fun e => ht (by rw [show n.t = 1 from UInt16.toNat_inj.1 (by have : (1 : UInt16).toNat = 1 := rfl; omega)]; decide)
        have h3 : ((n.t.toNat : Int) != 3) = true := by rw [bne_iff_ne]; exact fun e => ht (by rw [show n.t = 3 from UInt16.toNat_inj.1 (by have : (3 : UInt16).toNat = 3 := rfl; omega)]; decide)
        have h9 : ((n.t.toNat : Int) != 9) = true := by rw [bne_iff_ne]; exact fun e => ht (by rw [show n.t = 9 from UInt16.toNat_inj.1 (by have : (9 : UInt16).toNat = 9 := rfl; omega)]; decide)
        have hqn : ¬ 0 < n.ks.length := by omega
        clear h4 hk0 ht hqk
        unfold ndV
        go_enter Try.func15, Try.ntmps15
        go_wp2_with fail
        go_ret2
        rw [HV.out]
        exact ⟨b0, 0, rfl, fun z hz => by cases hz⟩
    · have HV : Hid (valO n = none) := by unfold Hid valO; rw [okC_num, decide_eq_false (fun h => hk0 (by rw [h.2.2]; rfl))]; rfl
      have hq4 : ((n.v.length : Int) != 4) = false := by rw [h4]; rfl
      have hqk : (0 : Int) < (n.ks.length : Int) := by omega
      have hqn : 0 < n.ks.length := by omega
      clear h4 hk0 hqk
      unfold ndV
      go_enter Try.func15, Try.ntmps15
      go_wp2_with fail
      go_ret2
      rw [HV.out]
      exact ⟨b0, 0, rfl, fun z hz => by cases hz⟩
  · have hq4 : ((n.v.length : Int) != 4) = true := by rw [bne_iff_ne]; omega
    have HV : Hid (valO n = none) := by unfold Hid valO; rw [okC_num, decide_eq_false (fun h => h4 h.2.1)]; rfl
    clear h4
    unfold ndV
    go_enter Try.func15, Try.ntmps15
    go_wp2_with fail
    go_ret2
    rw [HV.out]
    exact ⟨b0, 0, rfl, fun z hz => by cases hz⟩
end Go.Proofs.Ytdnilbebdgohnaa

