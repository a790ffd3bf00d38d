/- Layer 8, the reference: Count and Few, for whatever nodes. They write nothing that was there. -/
import Derived.Test.YtofpckmanihknaaDoorNodeFG
import Derived.Test.YtofpckmanihknaaDoorNodeAD
import Derived.Test.YtofpckmanihknaaDoorTlvD
import Derived.Deep.RegionHeld3
namespace Go.Proofs.YtofpckmanihknaaDoor
open Go.RowKit

/-! ### how many nodes there are -/
def cl (g : Nd → Nat) : Nat → List Nd → Nat
  | n, [] => n
  | n, x :: l => if n < 1000 then cl g (n + 1 + x.v.length / 1000 + g x) l else n
def cnt : Nat → List Nd → Nat
  | 0, _ => 1000
  | f + 1, l => cl (fun x => cnt f x.ks) 0 l
theorem cl_ge (g : Nd → Nat) : ∀ (l : List Nd) (n : Nat), n ≤ cl g n l
  | [], n => Nat.le_refl _
  | x :: l, n => by
    unfold cl
    split
    · exact Nat.le_trans (by omega) (cl_ge g l _)
    · exact Nat.le_refl _
theorem cl_few (g : Nd → Nat) : ∀ (l : List Nd) (n : Nat), cl g n l ≤ 200 → n + l.length ≤ 200 ∧ ∀ x ∈ l, g x ≤ 200 ∧ x.v.length ≤ 200999
  | [], n, h => ⟨h, by simp⟩
  | x :: l, n, h => by
    unfold cl at h
    split at h
    · have h1 := cl_ge g l (n + 1 + x.v.length / 1000 + g x)
      obtain ⟨h2, h3⟩ := cl_few g l _ h
      refine ⟨by simp; omega, fun y hy => ?_⟩
      rcases List.mem_cons.1 hy with rfl | hy
      · constructor <;> omega
      · exact h3 y hy
    · omega
/-- at most D in the data of each -/
inductive Bnd : Nd → Prop
  | mk {n : Nd} : n.v.length ≤ 140737488355328 → n.ks.length ≤ 9223372036854775807 → (∀ k ∈ n.ks, Bnd k) → Bnd n
theorem Bnd.vl {n : Nd} (h : Bnd n) : n.v.length ≤ 140737488355328 := by cases h; assumption
theorem Bnd.kl {n : Nd} (h : Bnd n) : n.ks.length ≤ 9223372036854775807 := by cases h; assumption
theorem Bnd.kid {n : Nd} (h : Bnd n) : ∀ k ∈ n.ks, Bnd k := by cases h; assumption
theorem cl_le (g : Nd → Nat) (G : Nat) (hg : ∀ x, Bnd x → g x ≤ G) : ∀ (l : List Nd) (n : Nat), (∀ x ∈ l, Bnd x) → n ≤ 140737489356 + G → cl g n l ≤ 140737489356 + G
  | [], n, _, h => h
  | x :: l, n, hb, h => by
    unfold cl
    split
    · have h1 := hg x (hb x (by simp))
      have h2 := (hb x (by simp)).vl
      exact cl_le g G hg l _ (fun y hy => hb y (by simp [hy])) (by omega)
    · exact h
theorem cnt_le : ∀ (f : Nat) (l : List Nd), (∀ x ∈ l, Bnd x) → cnt f l ≤ 1000 + f * 140737489356
  | 0, l, _ => by simp [cnt]
  | f + 1, l, h => by
    unfold cnt
    have := cl_le (fun x => cnt f x.ks) (1000 + f * 140737489356) (fun x hx => cnt_le f x.ks hx.kid) l 0 h (by omega)
    refine Nat.le_trans this ?_
    rw [Nat.add_mul]
    omega
/-- few nodes: few kids at all depths -/
theorem few_of : ∀ (f : Nat) (l : List Nd), cnt f l ≤ 200 → l.length ≤ 200 ∧ ∀ x ∈ l, Few1 x
  | 0, l, h => by simp [cnt] at h
  | f + 1, l, h => by
    unfold cnt at h
    obtain ⟨h1, h2⟩ := cl_few _ l 0 h
    refine ⟨by omega, fun x hx => ?_⟩
    obtain ⟨h3, h4⟩ := few_of f x.ks (h2 x hx).1
    exact .mk (by omega) h4

def CountOK (f : Nat) : Prop := ∀ (d : Nat) (ns : List Nd) (A : Option Addr) (c : Nat) (w : World), d + f = 21 → Nodes w w.heap.size A ns → ns.length ≤ 9223372036854775807 → (∀ n ∈ ns, Bnd n) →
  Calls Tryd.prog 40 #[.slice A ns.length c, .int .i64 (d : Int)] w fun e w' => e = .returned (.int .i64 (cnt f ns : Nat)) ∧ Below w.heap.size w w'
theorem count_zero : CountOK 0 := by
  intro d ns A c w hd h hl hb
  obtain rfl : d = 21 := by omega
  go_enter Tryd.func40, Tryd.ntmps40
  go_wp2_with fail
  go_ret
  exact ⟨rfl, Below.refl _ _⟩
set_option maxRecDepth 100000 in
set_option maxHeartbeats 8000000 in
theorem count_succ (f : Nat) (ih : CountOK f) : CountOK (f + 1) := by
  intro d ns A c w hd h hl hb
  have hd20 : ¬ (20 : Int) < (d : Int) := by omega
  have hd0 : (d : Int) ≤ 20 := by omega
  have hd1 : (0 : Int) ≤ (d : Int) := by omega
  have HIH := Lib.hid ih
  have HB := Lib.hid hb
  have HD := Lib.hid hd
  have HC := Lib.hid (show cnt (f + 1) ns = cl (fun x => cnt f x.ks) 0 ns from rfl)
  generalize cnt (f + 1) ns = total at *
  clear ih hb hd
  go_enter Tryd.func40, Tryd.ntmps40
  go_wp2_with fail
  go_loopw [5, 6] (fun v i wr => ∃ (k n : Nat), k ≤ ns.length ∧ i = .int .i64 k ∧ v = .int .i64 n ∧ Hid (total = cl (fun x => cnt f x.ks) n (ns.drop k)) ∧ n ≤ 4000000000000 ∧ Below w.heap.size w wr) (fun _ i _ => ns.length - (intOf i).toNat)
  case atStart => exact ⟨0, 0, Nat.zero_le _, rfl, rfl, HC.out, by omega, Below.refl _ _⟩
  case round =>
    obtain ⟨k, n, hk, rfl, rfl, htot, hn4, hbel⟩ := hrel
    by_cases hlt : k < ns.length
    · by_cases hn1 : n < 1000
      · obtain ⟨ad, A', c', K', k', x, rfl, hbk, hx', hc0, hc1, hc2, hN⟩ := (h.bel hbel).at_ hlt
        have hxm : x ∈ ns := List.mem_of_getElem? hx'.out
        have hbx := HB.out x hxm
        have hvl := hbx.vl
        obtain ⟨q, hq⟩ : ∃ q : Nat, Int.tdiv (x.v.length : Int) 1000 = (q : Int) ∧ q = x.v.length / 1000 := ⟨_, by rw [Int.tdiv_eq_ediv_of_nonneg (by omega)]; omega, rfl⟩
        obtain ⟨hq1, hq2⟩ := hq
        have hq3 : q ≤ 140737488356 := by omega
        have hcl := cnt_le f x.ks hbx.kid
        have hf20 : f ≤ 20 := by have := HD.out; omega
        have hcl2 : cnt f x.ks ≤ 3000000000000 := Nat.le_trans hcl (by omega)
        have hS := fun W (hW : Below wr.heap.size wr W) => HIH.out (d + 1) x.ks K' k' W (by have := HD.out; omega) ((hN.kids.bel (hW.mono hbel.size)).more (Nat.le_trans hbel.size hW.size)) hbx.kl hbx.kid
        have HQ2 := Lib.hid hq2
        have hnext : Hid (cl (fun x => cnt f x.ks) n (ns.drop k) = cl (fun x => cnt f x.ks) (n + 1 + q + cnt f x.ks) (ns.drop (k + 1))) := by
          rw [List.drop_eq_getElem_cons hlt, show ns[k] = x by have := hx'.out; rw [List.getElem?_eq_getElem hlt] at this; exact Option.some.inj this]
          unfold Hid
          rw [cl, if_pos hn1, hq2]
        simp only [Int.natCast_add, Int.cast_ofNat_Int] at hS
        have hklen : (x.ks.length : Int) = x.ks.length := rfl
        generalize cnt f x.ks = cc at *
        clear hq2 hcl hx' hbx hklen
        go_wp2_with fail
        have hpb : (ad.add (k * 3)).block < wr.heap.size := by rw [blk_add]; have := hbel.size; omega
        have HPB := Lib.hid hpb
        have hw1 : IntKind.i64.wrap ((d : Int) + 1) = (d : Int) + 1 := by rw [IntKind.wrap_i64]; omega
        have hw2 : IntKind.i64.wrap ((n : Int) + 1) = (n : Int) + 1 := by rw [IntKind.wrap_i64]; omega
        have hw3 : IntKind.i64.wrap (q : Int) = (q : Int) := by rw [IntKind.wrap_i64]; omega
        have hw4 : IntKind.i64.wrap ((n : Int) + 1 + (q : Int)) = (n : Int) + 1 + (q : Int) := by rw [IntKind.wrap_i64]; omega
        have hw5 : IntKind.i64.wrap ((n : Int) + 1 + (q : Int) + (cc : Int)) = (n : Int) + 1 + (q : Int) + (cc : Int) := by rw [IntKind.wrap_i64]; omega
        clear hn4 hN hvl hxm hbk hc0 HIH HB HC hd20 hf20 hpb
        go_region_held3 (fun W => W.cell? ⟨(ad.add (k * 3)).block, (ad.add (k * 3)).off + 1, none⟩ = some (.slice A' x.v.length c') ∧ W.cell? ⟨(ad.add (k * 3)).block, (ad.add (k * 3)).off + 2, none⟩ = some (.slice K' x.ks.length k')) (first | exact hS2 | go_keep) (first
          | (go_at_call 40; (with_reducible refine (hS wr.drew (below_drew (Below.refl _ _))).mono ?_); rintro e w2 ⟨rfl, b2⟩; have b3 : Below wr.heap.size wr w2 := below_undrew b2; have hS2 := And.intro ((b3.cell (p := ⟨(ad.add (k * 3)).block, (ad.add (k * 3)).off + 1, none⟩) HPB.out).trans hc1) ((b3.cell (p := ⟨(ad.add (k * 3)).block, (ad.add (k * 3)).off + 2, none⟩) HPB.out).trans hc2)))
        have hnn : n + 1 + q + cc ≤ 4000000000000 := by omega
        go_wp2_with fail
        go_roundw
        case rel => exact ⟨k + 1, n + 1 + q + cc, by omega, by go_num, by go_num, htot.out.trans hnext.out, hnn, hbel.trans (b3.mono hbel.size)⟩
        case measure => simp [intOf]; omega
      · have hx : total = n := by
          rw [htot.out, List.drop_eq_getElem_cons hlt, cl, if_neg hn1]
        have hn2 : (1000 : Int) ≤ (n : Int) := by omega
        have HX := Lib.hid hx
        clear hx htot
        go_wp2_with fail
        go_ret
        rw [HX.out]
        exact ⟨rfl, hbel⟩
    · obtain rfl : k = ns.length := by omega
      have hx : total = n := by
        rw [htot.out, List.drop_length, cl]
      have HX := Lib.hid hx
      clear hx htot
      go_wp2_with fail
      go_ret
      rw [HX.out]
      exact ⟨rfl, hbel⟩
theorem count_all : ∀ f, CountOK f
  | 0 => count_zero
  | f + 1 => count_succ f (count_all f)
theorem few_any (A : Option Addr) (c : Nat) (ns : List Nd) (w : World) (h : Nodes w w.heap.size A ns) (hl : ns.length ≤ 9223372036854775807) (hb : ∀ n ∈ ns, Bnd n) :
    Calls Tryd.prog 17 #[.slice A ns.length c] w fun e w' => e = .returned (.bool (decide (cnt 21 ns ≤ 200))) ∧ Below w.heap.size w w' := by
  have hC := count_all 21 0 ns A c w rfl h hl hb
  simp only [Int.cast_ofNat_Int] at hC
  generalize cnt 21 ns = total at *
  go_enter Tryd.func17, Tryd.ntmps17
  go_wp2_with fail
  refine hC.mono ?_
  rintro e w1 ⟨rfl, b1⟩
  go_wp2_with fail
  go_ret
  refine ⟨ret_bool ?_, b1⟩
  simp
  omega
end Go.Proofs.YtofpckmanihknaaDoor
