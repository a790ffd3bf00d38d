/- Layer 8: nodes inside each other (a tower): its bytes, whether it is right, what its bytes are read as; the law NodeDepths. -/
import Derived.Test.YtofpckmanihknaaDoorNodeX
import Derived.Test.YtofpckmanihknaaDoorNodeS
namespace Go.Proofs.YtofpckmanihknaaDoor
open Go.ChangeShapes Go.WideShapes Go.ChangeAt Go.RowKit

def tw (T : UInt16) : Nat → Nd
  | 0 => .mk T [] []
  | k + 1 => .mk 8 [] [tw T k]
theorem tw_v (T : UInt16) (k : Nat) : (tw T k).v = [] := by cases k <;> rfl
theorem tw_vlen (T : UInt16) (k : Nat) : (tw T k).vlen = 4 * k := by
  induction k with
  | zero => simp [tw, Nd.vlen, lens, sizes]
  | succ k ih =>
    rw [tw, Nd.vlen_eq]
    simp only [Nd.v, Nd.ks, lens_map, List.map_cons, List.map_nil, ih, sizes_one, List.length_nil]
    omega
theorem tw_fine (T : UInt16) (k : Nat) (h : k ≤ 100) : Fine (tw T k) := by
  induction k with
  | zero => exact fine_leaf T
  | succ k ih => exact .mk (by rw [tw_vlen]; omega) (by simp [tw, Nd.ks]) (by intro x hx; simp [tw, Nd.ks] at hx; subst hx; exact ih (by omega))
theorem tw_fit (T : UInt16) (k : Nat) (h : k ≤ 100) : FitN (tw T k) := by
  induction k with
  | zero => exact .mk (by rw [tw_vlen]; omega) (by simp [tw, Nd.ks])
  | succ k ih => exact .mk (by rw [tw_vlen]; omega) (by intro x hx; simp [tw, Nd.ks] at hx; subst hx; exact ih (by omega))
theorem tw_len (T : UInt16) (k : Nat) : (jn (frs [tw T k])).length = 4 * k + 4 := by
  rw [jnf_len, lens_map, List.map_cons, List.map_nil, sizes_one, tw_vlen]
  omega
theorem fit8 : fitK 1 8 0 = true := by decide +kernel
theorem cnt8 : cntB 1 8 [] = true := by decide +kernel
theorem ki8 : (formOf 1 8).ki = 1 := by decide +kernel
theorem ins8 (n : Nd) : insB 1 [n] = true := by
  unfold insB
  simp [show (ins 1).2.1 = 1 by decide, show (ins 1).2.2 = 1 by decide]
theorem in8 : (ins 1).1 = 1 := by decide
/-- types that are not known -/
theorem look_mid {T : UInt16} (h1 : 16384 ≤ T.toNat) (h2 : T.toNat < 32768) : look (tab 1) T = none := by
  have hp : pT.all (fun f => decide (f.ty.toNat < 16384) || decide (32768 ≤ f.ty.toNat)) = true := by decide +kernel
  unfold look
  rw [List.find?_eq_none]
  intro f hf
  have ht : tab 1 = pT := rfl
  rw [ht] at hf
  have := List.all_eq_true.1 hp f hf
  simp only [Bool.or_eq_true, decide_eq_true_eq] at this
  intro e
  have e2 : f.ty = T := by simpa using e
  rw [e2] at this
  omega
theorem chk_leaf {T : UInt16} (hl : look (tab 1) T = none) (f : Nat) : chk (f + 1) 1 (tw T 0) = 0 := by
  have h1 : fitK 1 T 0 = true := by unfold fitK; rw [hl]
  have h2 : (formOf 1 T).ki = 0 := by unfold formOf; rw [hl]; rfl
  have h3 : insB 0 [] = true := by decide
  have h4 : cntB 1 T [] = true := by simp [cntB]
  rw [chk_succ, tw_vlen]
  simp only [tw, Nd.t, Nd.v, Nd.ks, List.length_nil, h1, h2, h3, h4, List.map_nil]
  simp [fst0]
theorem chk_tw {T : UInt16} (hl : look (tab 1) T = none) : ∀ (k f : Nat), k ≤ 100 → chk f 1 (tw T k) = if k < f then 0 else 9
  | 0, 0, _ => by simp [chk]
  | 0, f + 1, _ => by rw [chk_leaf hl, if_pos (by omega)]
  | k + 1, 0, _ => by simp [chk]
  | k + 1, f + 1, hk => by
    rw [chk_succ, tw_vlen]
    simp only [tw, Nd.t, Nd.v, Nd.ks, List.length_nil, fit8, ki8, ins8, cnt8, in8, List.map_cons, List.map_nil, chk_tw hl k f (by omega)]
    have h3 : ¬ 65531 < 4 * (k + 1) := by omega
    by_cases h : k < f
    · have h2 : k + 1 < f + 1 := by omega
      simp [h, h3, fst0]
    · have h2 : ¬ k + 1 < f + 1 := by omega
      simp [h, fst0]
theorem chkL_one (c : Int) (n : Nd) : chkL c [n] = chk 4 c n := by
  unfold chkL fst0
  by_cases h : chk 4 c n = 0 <;> simp [h]
/-! ### read -/
theorem pal_one (R : Fr → NR) (n : Nd) (hf : Fit n.fr) : pal R (jn (frs [n])) = match R n.fr with | .bad c a => .bad c a | .ok m => .ok [m] := by
  have hfs : frs [n] = [n.fr] := rfl
  have hs := spl_jn [n.fr] (by intro f h; rw [List.mem_singleton.1 h]; exact hf)
  have hlen : (jn [n.fr]).length = frL n.fr := by
    rw [jn_len, List.map_cons, List.map_nil, sizes_one]
  have h2 : (yla (jn [n.fr]) 0).map Prod.snd = [n.fr] := by
    unfold spl at hs
    split at hs
    · simpa using hs
    · split at hs <;> cases hs
  unfold pal
  rw [hfs, hs]
  match hl : yla (jn [n.fr]) 0, h2 with
  | [], h2 => simp at h2
  | [p], h2 =>
    obtain ⟨k, f⟩ := p
    simp only [List.map_cons, List.map_nil, List.cons.injEq, and_true] at h2
    subst h2
    have hk := yla_in (b := jn [n.fr]) (p := (k, n.fr)) (by rw [hl]; simp)
    rw [hlen] at hk
    have hk : k + frL n.fr ≤ frL n.fr := hk
    obtain rfl : k = 0 := by omega
    cases hr : R n.fr <;> simp [stepL, hr]
  | p :: q :: r, h2 => simp at h2
theorem pa_bad {T : UInt16} : ∀ (f k : Nat), f ≤ k → k ≤ 100 → pa f 1 (jn (frs [tw T k])) = .bad 9 (4 * f) := by
  intro f
  induction f with
  | zero =>
    intro k _ hk
    unfold pa
    rw [pal_one _ _ (by show (tw T k).val.length ≤ 65531; rw [val_len, tw_vlen]; omega)]
    rfl
  | succ f ih =>
    intro k hf hk
    obtain ⟨k, rfl⟩ : ∃ j, k = j + 1 := ⟨k - 1, by omega⟩
    have hp := ih k (by omega) (by omega)
    have hv : (tw T (k + 1)).fr.v = jn (frs [tw T k]) := by
      show (tw T (k + 1)).val = _
      rw [Nd.val_eq]
      rfl
    have ht : (tw T (k + 1)).fr.t = 8 := rfl
    have hfr : ∀ n, frontOf 1 8 n = 0 := fun n => by
      unfold frontOf
      rw [ki8]
      have : (formOf 1 8).lo.toNat = 0 := by decide +kernel
      rw [if_neg (by omega), this]
    unfold pa
    rw [pal_one _ _ (by show (tw T (k + 1)).val.length ≤ 65531; rw [val_len, tw_vlen]; omega), rd_succ]
    unfold rdStep
    rw [ht, hv]
    simp only [hfr, List.take_zero, List.drop_zero, fit8, cnt8, ki8, in8, hp]
    simp
    omega
/-! ### in memory -/
theorem nodeS_one {V : World} {S S' : Nat → Prop} {g : Nat} {n : Nd} {A K : Option Addr} {c k : Nat} (h : Whole V g 27 #[hv n.t, .slice A n.v.length c, .slice K n.ks.length k]) (hN : NodeS V S A c K k n) (hg : S' g) (hs : ∀ b, S b → S' b) (t : UInt16) :
    NodeS V S' none 0 (some ⟨g, 0, none⟩) 1 (.mk t [] [n]) := by
  have hN' : NodeS V S' A c K k n := hN.turn (fun _ _ => rfl) hs
  refine ⟨fun hne => absurd rfl hne, Nat.le_refl _, by simp [maxLen], ?_, Nat.le_refl _, by simp [maxLen]⟩
  refine .mk [hv n.t, .slice A n.v.length c, .slice K n.ks.length k] (fun _ => K) (fun _ => k) (fun _ => ⟨_, rfl, hg, fun j x hx => ?_⟩) rfl (fun i m hm => ?_) (fun i m hm => ?_)
  · rw [add_row, h.cell]
    simpa using hx
  · match i, hm with
    | 0, hm => simp only [Nd.ks, List.getElem?_cons_zero, Option.some.injEq] at hm; subst hm; exact ⟨rfl, ⟨_, rfl, A, c, rfl, hN'.data, hN'.dc, hN'.dm⟩, rfl, hN'.kc, hN'.km⟩
    | i + 1, hm => simp [Nd.ks] at hm
  · match i, hm with
    | 0, hm => simp only [Nd.ks, List.getElem?_cons_zero, Option.some.injEq] at hm; subst hm; exact hN'.kids
    | i + 1, hm => simp [Nd.ks] at hm
/-- a variable in block B that holds the tower, what is inside lies above it -/
def TwBox (W : World) (B : Nat) (n : Nd) (K : Option Addr) (k : Nat) : Prop := Whole W B 27 #[hv n.t, .slice none 0 0, .slice K n.ks.length k] ∧ NodeS W (fun b => B < b ∧ b < W.heap.size) none 0 K k n
theorem tw_next {W : World} {B : Nat} {T : UInt16} {i : Nat} {K : Option Addr} {k : Nat} (h : TwBox W B (tw T i) K k) :
    TwBox ((((W.setCell ⟨B, 0, none⟩ (.int .u16 8)).setCell ⟨B, 1, none⟩ (.slice none 0 0)).setCell ⟨B, 2, none⟩ (.slice (some ⟨W.heap.size, 0, none⟩) 1 1)).alloc (.cells #[hv (tw T i).t, .slice none 0 0, .slice K (tw T i).ks.length k] 27)) B (tw T (i + 1)) (some ⟨W.heap.size, 0, none⟩) 1 := by
  obtain ⟨hW, hN⟩ := h
  have hlt := hW.lt
  have hsz : (((W.setCell ⟨B, 0, none⟩ (.int .u16 8)).setCell ⟨B, 1, none⟩ (.slice none 0 0)).setCell ⟨B, 2, none⟩ (.slice (some ⟨W.heap.size, 0, none⟩) 1 1)).heap.size = W.heap.size := by simp [World.setCell]
  have hB := ((hW.set_ 0 (.int .u16 8)).set_ 1 (.slice none 0 0)).set_ 2 (.slice (some ⟨W.heap.size, 0, none⟩) 1 1)
  have hk : ∀ p : Addr, B < p.block ∧ p.block < W.heap.size → (((W.setCell ⟨B, 0, none⟩ (.int .u16 8)).setCell ⟨B, 1, none⟩ (.slice none 0 0)).setCell ⟨B, 2, none⟩ (.slice (some ⟨W.heap.size, 0, none⟩) 1 1)).cell? p = W.cell? p := fun p hp => by
    rw [World.cell?_setCell_other _ _ _ _ (fun e => by rw [← e] at hp; exact absurd hp.1 (Nat.lt_irrefl _)), World.cell?_setCell_other _ _ _ _ (fun e => by rw [← e] at hp; exact absurd hp.1 (Nat.lt_irrefl _)), World.cell?_setCell_other _ _ _ _ (fun e => by rw [← e] at hp; exact absurd hp.1 (Nat.lt_irrefl _))]
  generalize ((W.setCell ⟨B, 0, none⟩ (.int .u16 8)).setCell ⟨B, 1, none⟩ (.slice none 0 0)).setCell ⟨B, 2, none⟩ (.slice (some ⟨W.heap.size, 0, none⟩) 1 1) = V at *
  have hnew := Whole.new V 27 #[hv (tw T i).t, .slice none 0 0, .slice K (tw T i).ks.length k]
  rw [hsz] at hnew
  refine ⟨hB.alloc _, ?_⟩
  have hv0 := tw_v T i
  have hN2 := hN.turn (w' := V.alloc (.cells #[hv (tw T i).t, .slice none 0 0, .slice K (tw T i).ks.length k] 27)) (S' := fun b => B < b ∧ b < W.heap.size) (fun p hp => (World.cell?_alloc_lt _ _ _ (by rw [hsz]; exact hp.2)).trans (hk p hp)) (fun b hb => hb)
  have hvl : (tw T i).v.length = 0 := by rw [hv0]; rfl
  refine nodeS_one (n := tw T i) (A := none) (c := 0) (K := K) (k := k) (by rw [hvl]; exact hnew) hN2 ⟨hlt, ?_⟩ (fun b hb => ⟨hb.1, ?_⟩) 8
  · rw [World.size_alloc, hsz]; omega
  · have := hb.2
    rw [World.size_alloc, hsz]
    omega
end Go.Proofs.YtofpckmanihknaaDoor
