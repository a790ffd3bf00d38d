/- Layer 12: what an argument that is a chunk reads as. No condition of its own. -/
/- Layer 12: the bytes of a right chunk are read as that chunk; what is wrong about flags is found. Mathematics alone. -/
import Derived.Test.YthkbcpbgoefanaaGreatDoorQNS
import Derived.Test.YthkbcpbgoefanaaGreatDoorQA
import Derived.Test.YthkbcpbgoefanaaGreatDoorQNodeUO
import Derived.Test.YthkbcpbgoefanaaGreatDoorQCA
import Derived.ProofKit
import Derived.OpenShut
import Derived.LaidMore
import Derived.LaidHandle
import Derived.Lay
import Derived.Stop.Joined
import Derived.Test.YthkbcpbgoefanaaGreatDoorQChunkL
import Derived.Test.YthkbcpbgoefanaaGreatDoorQCM
import Derived.Test.YthkbcpbgoefanaaGreatDoorQCG
import Derived.Test.YthkbcpbgoefanaaGreatDoorQChunkQ
import Derived.Test.YthkbcpbgoefanaaGreatDoorQNodePQ
import Derived.Test.YthkbcpbgoefanaaGreatDoorQNodeRAC
import Derived.Test.YthkbcpbgoefanaaGreatDoorQNodePX
import Derived.Test.YthkbcpbgoefanaaGreatDoorQW
namespace Go.Proofs.YthkbcpbgoefanaaGreatDoor
open Go.ChangeShapes Go.WideShapes Go.ChangeAt Go.RowKit

section
variable {H : Type} {enc : TypeId × Value → H} {P : Program} {w : World} {held : Bool} {t : TypeId} {fuel : Nat} {x : DataW H × List MemPlace}
theorem trod_struct4 {f0 f1 f2 f3 : Field} {cs : List Value} (ht : P.underlying t = some (.struct #[f0, f1, f2, f3])) (h : DataW.trod enc P w 0 (fun _ => true) held fuel t cs = some x) :
    ∃ y0 y1 y2 y3 n, x = (.agg [y0.1, y1.1, y2.1, y3.1], y0.2 ++ (y1.2 ++ (y2.2 ++ y3.2))) ∧ cs.length = P.cellsOf t ∧ DataW.trod enc P w 0 (fun _ => true) held n f0.type ((cs.drop f0.offset).take (P.cellsOf f0.type)) = some y0 ∧
      DataW.trod enc P w 0 (fun _ => true) held n f1.type ((cs.drop f1.offset).take (P.cellsOf f1.type)) = some y1 ∧ DataW.trod enc P w 0 (fun _ => true) held n f2.type ((cs.drop f2.offset).take (P.cellsOf f2.type)) = some y2 ∧
      DataW.trod enc P w 0 (fun _ => true) held n f3.type ((cs.drop f3.offset).take (P.cellsOf f3.type)) = some y3 := by
  obtain ⟨xs, n, hn, rfl, hl, hlen, hf⟩ := DataW.trod_struct ht h
  match xs, hlen with
  | [y0, y1, y2, y3], _ => exact ⟨y0, y1, y2, y3, n, by simp, hl, by simpa using hf 0 f0 rfl, by simpa using hf 1 f1 rfl, by simpa using hf 2 f2 rfl, by simpa using hf 3 f3 rfl⟩
end
theorem bv_of12 {z : Int} (h : 0 ≤ z ∧ z < 256) : Value.int .u8 z = bv (UInt8.ofNat z.toNat) := by
  rw [bv, UInt8.toNat_ofNat']
  congr 1
  omega
section
variable {H : Type} {enc : TypeId × Value → H} {w : World} {base : Nat} {v : Value} {d : DataW H} {p : List MemPlace}
set_option maxRecDepth 100000 in
set_option maxHeartbeats 1000000 in
/-- an argument that is a chunk -/
theorem open_chunk (o : Value.okWide Tryz.prog w .any base 25 v) (h : DataW.Trod enc Tryz.prog w 0 (fun _ => true) true 25 v d p) (s : Small Tryz.prog 25 d) :
    ∃ (x : Ck) (A : Option Addr) (c : Nat) (K : Option Addr) (k : Nat), v = ckV x A c K k ∧ Chunk w w.heap.size A c K k x ∧ ∀ n ∈ x.ks, Bnd n := by
  obtain ⟨cs, rfl, hsz⟩ := okWide_struct Tryz.underlying25 o
  obtain ⟨fuel, hf⟩ := h
  have c4 : Tryz.prog.cellsOf 25 = 4 := by kernel_rfl
  rw [c4] at hsz
  have hf' : DataW.trod enc Tryz.prog w 0 (fun _ => true) true fuel 25 cs.toList = some (d, p) := hf
  have hl4 : cs.toList.length = 4 := by simpa using hsz
  obtain ⟨u, hu⟩ : ∃ u, cs.toList = u := ⟨_, rfl⟩
  rw [hu] at hf' hl4
  match u, hl4 with
  | [u0, u1, u2, u3], _ =>
    obtain ⟨y0, y1, y2, y3, n', hyx, _, f0, f1, f2, f3⟩ := trod_struct4 Tryz.underlying25 hf'
    have e0 : Tryz.prog.cellsOf 5 = 1 := by kernel_rfl
    have e1 : Tryz.prog.cellsOf 22 = 1 := by kernel_rfl
    have e2 : Tryz.prog.cellsOf 23 = 1 := by kernel_rfl
    have f0' : DataW.trod enc Tryz.prog w 0 (fun _ => true) true n' 5 (([u0, u1, u2, u3].drop 0).take (Tryz.prog.cellsOf 5)) = some y0 := f0
    have f1' : DataW.trod enc Tryz.prog w 0 (fun _ => true) true n' 5 (([u0, u1, u2, u3].drop 1).take (Tryz.prog.cellsOf 5)) = some y1 := f1
    have f2' : DataW.trod enc Tryz.prog w 0 (fun _ => true) true n' 22 (([u0, u1, u2, u3].drop 2).take (Tryz.prog.cellsOf 22)) = some y2 := f2
    have f3' : DataW.trod enc Tryz.prog w 0 (fun _ => true) true n' 23 (([u0, u1, u2, u3].drop 3).take (Tryz.prog.cellsOf 23)) = some y3 := f3
    rw [e0] at f0' f1'
    rw [e1] at f2'
    rw [e2] at f3'
    have f2'' : DataW.trod enc Tryz.prog w 0 (fun _ => true) true n' 22 [u2] = some y2 := f2'
    have f3'' : DataW.trod enc Tryz.prog w 0 (fun _ => true) true n' 23 [u3] = some y3 := f3'
    obtain ⟨z0, g0, _, wz0⟩ := DataW.trod_int Tryz.underlying5 f0'
    obtain ⟨z1, g1, _, wz1⟩ := DataW.trod_int Tryz.underlying5 f1'
    have g0' : u0 = .int .u8 z0 := (List.cons.inj g0).1
    have g1' : u1 = .int .u8 z1 := (List.cons.inj g1).1
    obtain ⟨A', l', c', hv'⟩ := slice_of_trod Tryz.underlying22 f2''
    obtain ⟨K', m', k', hz'⟩ := slice_of_trod Tryz.underlying23 f3''
    rw [hv'] at f2''
    rw [hz'] at f3''
    obtain ⟨pp, rfl, q2, q3, q4⟩ := open_bytes Tryz.underlying22 Tryz.underlying5 (by kernel_rfl) f2''
    have hw : ∀ m, m ∈ DataW.weightsEach Tryz.prog [5, 5, 22, 23] [y0.1, y1.1, y2.1, y3.1] → m ≤ reachBytes := fun m hm => by
      have e := congrArg Prod.fst hyx
      refine s m ?_
      have e' : d = .agg [y0.1, y1.1, y2.1, y3.1] := e
      rw [e']
      simp only [DataW.weights, Tryz.underlying25]
      exact hm
    have hs3 : Small Tryz.prog 23 y3.1 := fun m hm => hw m (by
      simp only [DataW.weightsEach, List.mem_append]
      exact .inr (.inr (.inr (.inl hm))))
    obtain ⟨ks, rfl, r1, r2, r3, r4⟩ := opensN_all n' y3 K' m' k' f3'' hs3
    refine ⟨⟨UInt8.ofNat z0.toNat, UInt8.ofNat z1.toNat, pp, ks⟩, A', c', K', k', ?_, ⟨q2, q3, q4, r1, r2, r3⟩, r4⟩
    show Value.agg cs = .agg _
    congr 1
    refine Array.ext' ?_
    rw [hu, g0', g1', hv', hz', bv_of12 (wf_u8 wz0), bv_of12 (wf_u8 wz1)]
end
end Go.Proofs.YthkbcpbgoefanaaGreatDoor

namespace Go.Proofs.YthkbcpbgoefanaaGreatDoor
open Go.RowKit

theorem u8_ofNat12 (n : Nat) : (UInt8.ofNat n).toNat = n % 256 := by rw [UInt8.toNat_ofNat']
theorem headB12 (t f : UInt8) (n : Nat) (hn : 4 + n < 65536) : ∃ a b : UInt8, headB (u16of (256 * t.toNat + f.toNat)) n = [t, f, a, b] ∧ 256 * a.toNat + b.toNat = 4 + n := by
  have ht := t.toNat_lt
  have hf := f.toNat_lt
  have hT : (u16of (256 * t.toNat + f.toNat)).toNat = 256 * t.toNat + f.toNat := by unfold u16of; rw [UInt16.toNat_ofNat']; omega
  refine ⟨UInt8.ofNat ((4 + n) / 256), UInt8.ofNat (4 + n), ?_, ?_⟩
  · unfold headB
    rw [hT]
    have e0 : beByte 8 (u32of (256 * t.toNat + f.toNat)) = t := UInt8.toNat_inj.1 (by rw [beByte_toNat, u32of_toNat (by omega)]; omega)
    have e1 : beByte 0 (u32of (256 * t.toNat + f.toNat)) = f := UInt8.toNat_inj.1 (by rw [beByte_toNat, u32of_toNat (by omega)]; omega)
    have e2 : beByte 8 (u32of (4 + n)) = UInt8.ofNat ((4 + n) / 256) := UInt8.toNat_inj.1 (by rw [beByte_toNat, u32of_toNat (by omega), u8_ofNat12])
    have e3 : beByte 0 (u32of (4 + n)) = UInt8.ofNat (4 + n) := UInt8.toNat_inj.1 (by rw [beByte_toNat, u32of_toNat (by omega), u8_ofNat12]; simp)
    show [beByte 8 (u32of (256 * t.toNat + f.toNat)), beByte 0 (u32of (256 * t.toNat + f.toNat)), beByte 8 (u32of (4 + n)), beByte 0 (u32of (4 + n))] = _
    rw [e0, e1, e2, e3]
  · rw [u8_ofNat12, u8_ofNat12]
    omega
theorem ckB_cons (x : Ck) (hz : csz x ≤ 65535) : ∃ a b : UInt8, ckB x = x.t :: x.fl :: a :: b :: (x.d ++ jn (frs x.ks)) ∧ 256 * a.toNat + b.toNat = csz x := by
  have hl : csz x = 4 + (x.d ++ jn (frs x.ks)).length := by unfold csz; rw [List.length_append, jnf_len]; omega
  obtain ⟨a, b, h1, h2⟩ := headB12 x.t x.fl (x.d ++ jn (frs x.ks)).length (by omega)
  refine ⟨a, b, ?_, by rw [h2, hl]⟩
  unfold ckB frB
  simp only []
  rw [h1]
  rfl
theorem ckB_len (x : Ck) : (ckB x).length = csz x := by
  unfold ckB csz
  rw [frB_len]
  unfold frL
  simp only [List.length_append, jnf_len]
  omega
theorem ckB_whole (x : Ck) (hz : csz x ≤ 65535) : whB (ckB x) = true := by
  obtain ⟨a, b, h1, h2⟩ := ckB_cons x hz
  have hl := ckB_len x
  unfold whB
  have h4 : 4 ≤ (ckB x).length := by rw [h1]; simp
  rw [decide_eq_true h4, Bool.true_and, decide_eq_true_iff, hl, ← h2, h1]
  rfl
/-- where the kids begin -/
theorem ckB_fr (x : Ck) (hz : csz x ≤ 65535) (hd : daB x = false) (hk : kin x.t = false → x.ks = []) : frO (ckB x) = 4 + x.d.length := by
  obtain ⟨a, b, h1, h2⟩ := ckB_cons x hz
  have hl := ckB_len x
  have h0 : (ckB x).getD 0 0 = x.t := by rw [h1]; rfl
  unfold frO
  rw [h0, hl]
  by_cases hi : kin x.t = true
  · rw [if_pos hi]
    have hki : (kdOf x.t).ki ≠ 0 := by
      intro e
      unfold kin at hi
      rw [e] at hi
      exact absurd hi (by decide)
    have hkn : kn x.t = true := by
      cases h : kn x.t with
      | true => rfl
      | false => exact absurd (by rw [kdOf_zero h]; rfl) hki
    obtain ⟨q1, q2, _⟩ := kfits_of (da_fits hd hkn)
    obtain ⟨_, _, _, _, _, q3⟩ := kT_all _ (kdOf_mem hkn).1
    have q4 := q3 hki
    have q5 : (kdOf x.t).lo.toNat = x.d.length := by omega
    rw [q5]
    unfold csz
    omega
  · rw [if_neg hi]
    have := hk (by simpa using hi)
    unfold csz
    rw [this]
    simp [lens, sizes]
theorem ckB_front (x : Ck) (hz : csz x ≤ 65535) (hd : daB x = false) (hk : kin x.t = false → x.ks = []) : frontC (ckB x) = ⟨x.t, x.fl, x.d, []⟩ ∧ (ckB x).getD 0 0 = x.t ∧ (ckB x).getD 1 0 = x.fl ∧ ((ckB x).drop 4).take (frO (ckB x) - 4) = x.d ∧ (ckB x).drop (frO (ckB x)) = jn (frs x.ks) := by
  have hf := ckB_fr x hz hd hk
  obtain ⟨a, b, h1, h2⟩ := ckB_cons x hz
  have h0 : (ckB x).getD 0 0 = x.t := by rw [h1]; rfl
  have h3 : (ckB x).getD 1 0 = x.fl := by rw [h1]; rfl
  have h4 : ((ckB x).drop 4).take (frO (ckB x) - 4) = x.d := by
    rw [hf, h1, show 4 + x.d.length - 4 = x.d.length by omega]
    show (x.d ++ jn (frs x.ks)).take x.d.length = x.d
    rw [List.take_left]
  refine ⟨?_, h0, h3, h4, ?_⟩
  · unfold frontC
    rw [h0, h3, h4]
  · rw [hf, h1, Nat.add_comm]
    show (x.d ++ jn (frs x.ks)).drop x.d.length = _
    rw [List.drop_left]
theorem kid_nil {x : Ck} (h : kidB x = false) (hi : kin x.t = false) : x.ks = [] := by
  unfold kidB kidP at h
  unfold kin at hi
  simp only [Bool.or_eq_false_iff, decide_eq_false_iff_not] at h hi
  obtain ⟨_, h2, _⟩ := h
  have h3 : (kins (kdOf x.t).ki).2.2 = 0 := by simpa using hi
  rw [h3] at h2
  exact List.eq_nil_of_length_eq_zero (by omega)
theorem ck4_kids (x : Ck) (l : List Nd) : ck4 ⟨x.t, x.fl, x.d, l⟩ = ck4 x := rfl
theorem cpa_ckB (x : Ck) (h : chkC x = 0) : cpa (ckB x) = .ok x := by
  obtain ⟨c1, c2, c3, c4, c5, c6, c7⟩ := chk_parts h
  obtain ⟨f1, f2, f3, f4, f5⟩ := ckB_front x c7 c2 (kid_nil c3)
  have hck : ck4 x = none := by unfold ck4; rw [c1, c2, c4, c5]; rfl
  unfold cpa
  rw [ckB_whole x c7, if_neg (by simp), f1, ck4_kids, hck, f2, f3, f4, f5]
  simp only []
  rw [pa_good 4 (kc x.t) x.ks (chk_of_chkL c6)]
  simp only []
  rw [if_neg (by unfold kidB at c3; rw [c3]; simp)]
/-- what is told of the result -/
def CR.err : CR → Option (Nat × Nat)
  | .ok _ => none
  | .bad c a => some (c, a)
theorem kdOf_self : ∀ f ∈ kT, klook f.ty = some f := by
  intro f hf
  obtain ⟨k, hk, rfl⟩ := List.mem_iff_getElem.1 hf
  have hl : kT.length = 23 := rfl
  have hall : ∀ k, k < 23 → (kT.find? (fun g => decide (g.ty = (kT.map (·.ty))[k]?.getD 0))) = kT[k]? := by
    intro k hk
    have h : k = 0 ∨ k = 1 ∨ k = 2 ∨ k = 3 ∨ k = 4 ∨ k = 5 ∨ k = 6 ∨ k = 7 ∨ k = 8 ∨ k = 9 ∨ k = 10 ∨ k = 11 ∨ k = 12 ∨ k = 13 ∨ k = 14 ∨ k = 15 ∨ k = 16 ∨ k = 17 ∨ k = 18 ∨ k = 19 ∨ k = 20 ∨ k = 21 ∨ k = 22 := by omega
    rcases h with rfl | rfl | rfl | rfl | rfl | rfl | rfl | rfl | rfl | rfl | rfl | rfl | rfl | rfl | rfl | rfl | rfl | rfl | rfl | rfl | rfl | rfl | rfl <;> rfl
  have h1 := hall k (by omega)
  rw [List.getElem?_map, List.getElem?_eq_getElem hk] at h1
  exact h1
theorem fits_least : ∀ f ∈ kT, kfitsB f f.lo = true := by decide +kernel
/-- a chunk of a known type with the least data, zeros, without kids -/
def ckz (f : Kd) (fl : UInt8) : Ck := ⟨f.ty, fl, List.replicate f.lo.toNat 0, []⟩
theorem ckz_fine (f : Kd) (hf : f ∈ kT) (fl : UInt8) : CkFine (ckz f fl) := by
  obtain ⟨h1, _⟩ := kT_all f hf
  exact ⟨by unfold ckz; simp; omega, by simp [ckz], by intro k hk; cases hk⟩
theorem ckz_sz (f : Kd) (hf : f ∈ kT) (fl : UInt8) : csz (ckz f fl) ≤ 65535 := by
  obtain ⟨h1, _⟩ := kT_all f hf
  unfold csz ckz
  simp [lens, sizes]
  omega
theorem ckz_kd (f : Kd) (hf : f ∈ kT) (fl : UInt8) : kdOf (ckz f fl).t = f ∧ kn (ckz f fl).t = true := by
  have h := kdOf_self f hf
  unfold kdOf kn ckz
  simp only []
  rw [h]
  exact ⟨rfl, rfl⟩
theorem ckz_fl (f : Kd) (hf : f ∈ kT) (fl : UInt8) : flB (ckz f fl) = mskB fl.toNat f.ms.toNat := by
  obtain ⟨h1, h2⟩ := ckz_kd f hf fl
  unfold flB
  rw [h1, h2]
  rfl
theorem ckz_da (f : Kd) (hf : f ∈ kT) (fl : UInt8) : daB (ckz f fl) = false := by
  obtain ⟨h1, h2⟩ := ckz_kd f hf fl
  obtain ⟨h3, _⟩ := kT_all f hf
  unfold daB
  rw [h1, h2]
  have e : ((ckz f fl).d.length : Int) = f.lo := by unfold ckz; simp; omega
  rw [e, fits_least f hf]
  rfl
theorem chkL_nil12 (c : Int) : chkL c [] = 0 := rfl
theorem chk_six (f : Kd) (hf : f ∈ kT) (fl : UInt8) : decide (chkC (ckz f fl) = 6) = mskB fl.toNat f.ms.toNat := by
  have h1 := ckz_fl f hf fl
  cases hm : mskB fl.toNat f.ms.toNat with
  | true =>
    rw [hm] at h1
    unfold chkC
    rw [h1]
    rfl
  | false =>
    rw [hm] at h1
    refine decide_eq_false fun e => ?_
    unfold chkC at e
    rw [h1] at e
    rw [show (ckz f fl).ks = [] from rfl, chkL_nil12] at e
    simp only [Bool.false_eq_true, if_false] at e
    split at e
    · cases e
    · split at e
      · cases e
      · split at e
        · cases e
        · split at e
          · cases e
          · simp at e
            split at e <;> cases e
theorem told_six (f : Kd) (hf : f ∈ kT) (fl : UInt8) : tolB (cpa (ckB (ckz f fl))).err 6 1 = mskB fl.toNat f.ms.toNat := by
  have h1 := ckz_fl f hf fl
  have hz := ckz_sz f hf fl
  obtain ⟨f1, f2, f3, f4, f5⟩ := ckB_front (ckz f fl) hz (ckz_da f hf fl) (fun _ => rfl)
  unfold cpa
  rw [ckB_whole _ hz, if_neg (by simp), f1, ck4_kids]
  cases hm : mskB fl.toNat f.ms.toNat with
  | true =>
    rw [hm] at h1
    have : ck4 (ckz f fl) = some (6, 1) := by unfold ck4; rw [h1]; rfl
    rw [this]
    rfl
  | false =>
    rw [hm] at h1
    have hp : ∀ p, ck4 (ckz f fl) = some p → p.1 ≠ 6 := by
      intro p hp
      unfold ck4 at hp
      rw [h1] at hp
      simp only [Bool.false_eq_true, if_false] at hp
      split at hp
      · cases hp; decide
      · split at hp
        · cases hp; decide
        · split at hp
          · cases hp; exact (by decide : (11 : Nat) ≠ 6)
          · cases hp
    cases hc : ck4 (ckz f fl) with
    | some p =>
      have := hp p hc
      simp only [CR.err, tolB]
      rw [decide_eq_false this]
      simp
    | none =>
      simp only []
      rw [f5, show (ckz f fl).ks = [] from rfl, pa_good 4 _ [] (by intro n hn; cases hn)]
      simp only []
      split
      · rfl
      · rfl
theorem cpa_code {b : List UInt8} {code a : Nat} (h : cpa b = .bad code a) : code ≠ 0 := by
  unfold cpa at h
  split at h
  · cases h; decide
  · cases hc : ck4 (frontC b) with
    | some p =>
      rw [hc] at h
      simp only [CR.bad.injEq] at h
      obtain ⟨rfl, rfl⟩ := h
      unfold ck4 at hc
      split at hc
      · cases hc; decide
      · split at hc
        · cases hc; decide
        · split at hc
          · cases hc; decide
          · split at hc
            · cases hc; exact (by decide : (11 : Nat) ≠ 0)
            · cases hc
    | none =>
      rw [hc] at h
      simp only [] at h
      cases hp : pa 4 (kc (b.getD 0 0)) (b.drop (frO b)) with
      | bad code2 k =>
        rw [hp] at h
        simp only [CR.bad.injEq] at h
        rw [← h.1]
        exact pa_code hp
      | ok ns =>
        rw [hp] at h
        simp only [] at h
        split at h
        · cases h; decide
        · cases h
theorem cpa_back {b : List UInt8} {x : Ck} (h : cpa b = .ok x) : ckB x = b ∧ chkC x = 0 := by
  unfold cpa at h
  split at h
  · cases h
  · rename_i hw
    have hw' : whB b = true := by simpa using hw
    obtain ⟨h4, h2⟩ : 4 ≤ b.length ∧ num2 b 2 = b.length := by unfold whB at hw'; simpa using hw'
    have hfb := fr_bounds h4
    have hn2 := num2_lt b 2
    cases hc : ck4 (frontC b) with
    | some p => rw [hc] at h; cases h
    | none =>
      rw [hc] at h
      simp only [] at h
      cases hp : pa 4 (kc (b.getD 0 0)) (b.drop (frO b)) with
      | bad code2 k => rw [hp] at h; cases h
      | ok ns =>
        rw [hp] at h
        simp only [] at h
        split at h
        · cases h
        · rename_i hk
          simp only [CR.ok.injEq] at h
          subst h
          obtain ⟨hj, hck⟩ := pa_back hp
          have hd : ((b.drop 4).take (frO b - 4)).length = frO b - 4 := by rw [List.length_take, List.length_drop]; omega
          have hjl : (jn (frs ns)).length = b.length - frO b := by rw [hj, List.length_drop]
          have hcz : csz ⟨b.getD 0 0, b.getD 1 0, (b.drop 4).take (frO b - 4), ns⟩ = b.length := by
            unfold csz
            simp only []
            rw [hd, ← jnf_len, hjl]
            omega
          have hcc : chkC ⟨b.getD 0 0, b.getD 1 0, (b.drop 4).take (frO b - 4), ns⟩ = 0 := by
            have e1 : flB (frontC b) = false ∧ daB (frontC b) = false ∧ cntC (frontC b) = false ∧ cvalO (frontC b) = none := by
              unfold ck4 at hc
              split at hc
              · cases hc
              · split at hc
                · cases hc
                · split at hc
                  · cases hc
                  · split at hc
                    · cases hc
                    · rename_i a1 a2 a3 _ a4
                      exact ⟨by simpa using a1, by simpa using a2, by simpa using a3, a4⟩
            have f1 : flB ⟨b.getD 0 0, b.getD 1 0, (b.drop 4).take (frO b - 4), ns⟩ = false := e1.1
            have f2 : daB ⟨b.getD 0 0, b.getD 1 0, (b.drop 4).take (frO b - 4), ns⟩ = false := e1.2.1
            have f3 : cntC ⟨b.getD 0 0, b.getD 1 0, (b.drop 4).take (frO b - 4), ns⟩ = false := e1.2.2.1
            have f4 : cvalO ⟨b.getD 0 0, b.getD 1 0, (b.drop 4).take (frO b - 4), ns⟩ = none := e1.2.2.2
            have f5 : kidB ⟨b.getD 0 0, b.getD 1 0, (b.drop 4).take (frO b - 4), ns⟩ = false := by
              have : kidP (kdOf (b.getD 0 0)).ki ns = false := by simpa using hk
              exact this
            unfold chkC
            rw [f1, f2, f3, f4, f5, hcz]
            simp only [Bool.false_eq_true, if_false]
            rw [chkL_zero hck, if_neg (by simp), if_neg (by omega)]
          refine ⟨?_, hcc⟩
          obtain ⟨p, q, e1, e2⟩ := ckB_cons ⟨b.getD 0 0, b.getD 1 0, (b.drop 4).take (frO b - 4), ns⟩ (by rw [hcz]; omega)
          rw [e1, hj]
          rw [hcz, ← h2] at e2
          unfold num2 at e2
          have l2 := (b.getD 2 0).toNat_lt
          have l3 := (b.getD (2 + 1) 0).toNat_lt
          have lp := p.toNat_lt
          have lq := q.toNat_lt
          have g2 : p = b.getD 2 0 := UInt8.toNat_inj.1 (by omega)
          have g3 : q = b.getD 3 0 := UInt8.toNat_inj.1 (by show q.toNat = (b.getD (2 + 1) 0).toNat; omega)
          rw [g2, g3]
          have hsp : (b.drop 4).take (frO b - 4) ++ b.drop (frO b) = b.drop 4 := by
            have := List.take_append_drop (frO b - 4) (b.drop 4)
            rw [List.drop_drop, show 4 + (frO b - 4) = frO b by omega] at this
            exact this
          show b.getD 0 0 :: b.getD 1 0 :: b.getD 2 0 :: b.getD 3 0 :: ((b.drop 4).take (frO b - 4) ++ b.drop (frO b)) = b
          rw [hsp]
          match b, h4 with
          | u :: v :: y :: z :: l, _ => rfl
end Go.Proofs.YthkbcpbgoefanaaGreatDoor

