/- Layer 15: the numbers of an initial chunk, its chunk, what is read of one. Mathematics alone. -/
import Derived.Test.YtdcppcoldaaldaaGreatDoorQDJ
import Derived.Test.YtdcppcoldaaldaaGreatDoorQCI


namespace Go.Proofs.YtdcppcoldaaldaaGreatDoor
open Go.RowKit

structure Vl where
  tg : UInt32
  wd : UInt32
  ou : UInt16
  ii : UInt16
  ts : UInt32
abbrev vlCells (v : Vl) : Array Value := #[uv v.tg, uv v.wd, hv v.ou, hv v.ii, uv v.ts]
abbrev vlV (v : Vl) : Value := .agg #[uv v.tg, uv v.wd, hv v.ou, hv v.ii, uv v.ts]
def vl0 : Vl := ⟨0, 0, 0, 0, 0⟩
/-- the data of the chunk of numbers -/
def vlB (v : Vl) : List UInt8 := puts 4 [v.tg, v.wd] ++ puts 2 [u32of v.ou.toNat, u32of v.ii.toNat] ++ puts 4 [v.ts]
theorem vlB_len (v : Vl) : (vlB v).length = 16 := by unfold vlB; simp [puts_len]
/-- the numbers in data -/
def vlOf (d : List UInt8) : Vl := ⟨nrd d 0 4, nrd d 4 4, UInt16.ofNat (nrd d 8 2).toNat, UInt16.ofNat (nrd d 10 2).toNat, nrd d 12 4⟩
theorem vlOf_vlB (v : Vl) : vlOf (vlB v) = v := by
  obtain ⟨a, b, o, i, t⟩ := v
  have e0 : nrd (vlB ⟨a, b, o, i, t⟩) 0 4 = a := nrd_be4 a
  have e1 : nrd (vlB ⟨a, b, o, i, t⟩) 4 4 = b := nrd_be4 b
  have e2 : UInt16.ofNat (nrd (vlB ⟨a, b, o, i, t⟩) 8 2).toNat = o := st_back o
  have e3 : UInt16.ofNat (nrd (vlB ⟨a, b, o, i, t⟩) 10 2).toNat = i := st_back i
  have e4 : nrd (vlB ⟨a, b, o, i, t⟩) 12 4 = t := nrd_be4 t
  unfold vlOf
  rw [e0, e1, e2, e3, e4]
/-- the chunk of numbers and parameters -/
def ckI (an : Bool) (v : Vl) (ks : List Nd) : Ck := ⟨if an then 2 else 1, 0, vlB v, ks⟩
def isI (x : Ck) : Bool := (decide (x.t = 1) || decide (x.t = 2)) && decide (chkC x = 0)
theorem kdI1 : (kdOf 1).lo = 16 ∧ (kdOf 1).hi = 16 ∧ parB 1 = true ∧ kn 1 = true := by decide +kernel
theorem kdI2 : (kdOf 2).lo = 16 ∧ (kdOf 2).hi = 16 ∧ parB 2 = true ∧ kn 2 = true := by decide +kernel
theorem isI_parts {x : Ck} (h : isI x = true) : (x.t = 1 ∨ x.t = 2) ∧ chkC x = 0 ∧ x.d.length = 16 ∧ parB x.t = true := by
  unfold isI at h
  simp only [Bool.and_eq_true, Bool.or_eq_true, decide_eq_true_eq] at h
  obtain ⟨h1, h2⟩ := h
  obtain ⟨_, h3, _⟩ := chk_parts h2
  refine ⟨h1, h2, ?_, ?_⟩
  · have hk : kn x.t = true := by rcases h1 with e | e <;> rw [e]; exact kdI1.2.2.2; exact kdI2.2.2.2
    obtain ⟨a1, a2, _⟩ := kfits_of (da_fits h3 hk)
    rcases h1 with e | e <;> rw [e] at a1 a2
    · rw [kdI1.1] at a1; rw [kdI1.2.1] at a2; omega
    · rw [kdI2.1] at a1; rw [kdI2.2.1] at a2; omega
  · rcases h1 with e | e <;> rw [e]; exact kdI1.2.2.1; exact kdI2.2.2.1
/-- the parameters with a type -/
def fndI (x : Ck) (t : UInt16) : List Nd := if isI x then x.ks.filter (fun n => decide (n.t = t)) else []
/-- whether there is a cookie, and which -/
def ckyB (x : Ck) : Bool := decide (x.t = 2) && !(fndI x 7).isEmpty
def ckyL (x : Ck) : List UInt8 := if ckyB x then ((fndI x 7).headD (.mk 0 [] [])).v else []
def extL (x : Ck) : List UInt8 := ((fndI x 32776).map Nd.v).flatten
def ofVl (x : Ck) : Vl := if isI x then vlOf x.d else vl0
theorem be4_two (o i : UInt16) : be 4 (u32of o.toNat * 65536 + u32of i.toNat) = be 2 (u32of o.toNat) ++ be 2 (u32of i.toNat) := by
  have h1 := o.toNat_lt
  have h2 := i.toNat_lt
  have e1 : (u32of o.toNat).toNat = o.toNat := u32of_toNat (by omega)
  have e2 : (u32of i.toNat).toNat = i.toNat := u32of_toNat (by omega)
  have e3 : (u32of o.toNat * 65536 + u32of i.toNat).toNat = o.toNat * 65536 + i.toNat := by
    rw [UInt32.toNat_add, UInt32.toNat_mul, e1, e2, show (65536 : UInt32).toNat = 65536 from rfl]
    omega
  have hb : ∀ s x, beByte s x = UInt8.ofNat (x.toNat / 2 ^ s % 256) := fun s x => UInt8.toNat_inj.1 (by rw [beByte_toNat, UInt8.toNat_ofNat']; omega)
  show [beByte 24 _, beByte 16 _, beByte 8 _, beByte 0 _] = [beByte 8 _, beByte 0 _, beByte 8 _, beByte 0 _]
  simp only [hb, e1, e2, e3]
  have a1 : (o.toNat * 65536 + i.toNat) / 2 ^ 24 % 256 = o.toNat / 2 ^ 8 % 256 := by omega
  have a2 : (o.toNat * 65536 + i.toNat) / 2 ^ 16 % 256 = o.toNat / 2 ^ 0 % 256 := by omega
  have a3 : (o.toNat * 65536 + i.toNat) / 2 ^ 8 % 256 = i.toNat / 2 ^ 8 % 256 := by omega
  have a4 : (o.toNat * 65536 + i.toNat) / 2 ^ 0 % 256 = i.toNat / 2 ^ 0 % 256 := by omega
  rw [a1, a2, a3, a4]
/-- the same bytes, as the reference puts them -/
theorem vlB_four (v : Vl) : puts 4 [v.tg, v.wd, u32of v.ou.toNat * 65536 + u32of v.ii.toNat, v.ts] = vlB v := by
  unfold vlB puts
  simp only [List.flatMap_cons, List.flatMap_nil, List.append_nil, be4_two, List.append_assoc]
/-- and as the reference reads them -/
theorem two_ofI (d : List UInt8) (h : d.length = 16) : (numAt 4 d 2).toNat / 65536 = (nrd d 8 2).toNat ∧ (numAt 4 d 2).toNat % 65536 = (nrd d 10 2).toNat ∧ numAt 4 d 0 = nrd d 0 4 ∧ numAt 4 d 1 = nrd d 4 4 ∧ numAt 4 d 3 = nrd d 12 4 := by
  match d, h with
  | [a0, a1, a2, a3, b0, b1, b2, b3, c0, c1, c2, c3, d0, d1, d2, d3], _ =>
    have l0 := c0.toNat_lt
    have l1 := c1.toNat_lt
    have l2 := c2.toNat_lt
    have l3 := c3.toNat_lt
    have f1 : (numAt 4 [a0, a1, a2, a3, b0, b1, b2, b3, c0, c1, c2, c3, d0, d1, d2, d3] 2).toNat = ((c0.toNat * 256 + c1.toNat) * 256 + c2.toNat) * 256 + c3.toNat := by
      rw [numAt_toNat]; exact numOf_four c0 c1 c2 c3
    have f2 : (nrd [a0, a1, a2, a3, b0, b1, b2, b3, c0, c1, c2, c3, d0, d1, d2, d3] 8 2).toNat = c0.toNat * 256 + c1.toNat := by
      rw [nrd_toNat]; exact numOf_pair c0 c1
    have f3 : (nrd [a0, a1, a2, a3, b0, b1, b2, b3, c0, c1, c2, c3, d0, d1, d2, d3] 10 2).toNat = c2.toNat * 256 + c3.toNat := by
      rw [nrd_toNat]; exact numOf_pair c2 c3
    exact ⟨by rw [f1, f2]; omega, by rw [f1, f3]; omega, rfl, rfl, rfl⟩
theorem vlOf_ref (d : List UInt8) (h : d.length = 16) : (⟨numAt 4 d 0, numAt 4 d 1, UInt16.ofNat ((numAt 4 d 2).toNat / 65536), UInt16.ofNat ((numAt 4 d 2).toNat % 65536), numAt 4 d 3⟩ : Vl) = vlOf d := by
  obtain ⟨h1, h2, h3, h4, h5⟩ := two_ofI d h
  unfold vlOf
  rw [h1, h2, h3, h4, h5]
/-- the numbers of the chunk of numbers -/
theorem ofVl_ckI {an : Bool} {v : Vl} {ks : List Nd} (h : chkC (ckI an v ks) = 0) : isI (ckI an v ks) = true ∧ ofVl (ckI an v ks) = v := by
  have e : isI (ckI an v ks) = true := by
    unfold isI
    rw [h]
    cases an <;> simp [ckI]
  refine ⟨e, ?_⟩
  unfold ofVl
  rw [e, if_pos rfl]
  exact vlOf_vlB v
theorem Whole.cs5 {W : World} {g : Nat} {t : TypeId} {a b c d e : Value} (hW : Whole W g t #[a, b, c, d, e]) : W.cell? ⟨g, 0, none⟩ = some a ∧ W.cell? ⟨g, 1, none⟩ = some b ∧ W.cell? ⟨g, 2, none⟩ = some c ∧ W.cell? ⟨g, 3, none⟩ = some d ∧ W.cell? ⟨g, 4, none⟩ = some e := by
  refine ⟨?_, ?_, ?_, ?_, ?_⟩ <;> (rw [hW.cell]; rfl)
end Go.Proofs.YtdcppcoldaaldaaGreatDoor


