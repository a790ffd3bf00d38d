/- Layer 2: the text of the error with the code 7 in a part; awake. No condition of its own. -/
import Derived.Test.YtkcgmheljdkacaaDoorFaultD
import Derived.Deep.RegionHeld3
import Derived.Deep.RegionWith
namespace Go.Proofs.YtkcgmheljdkacaaDoor
open Go.RowKit Go.Extern.Stop Go.Stop Go.Extern

theorem small7 (w : World) : Calls Tryd.prog 53 #[.int .i64 7] w fun e w' => e = .returned (.string ⟨#[55]⟩) ∧ w = w' := by
  go_enter Tryd.func53, Tryd.ntmps53
  go_wp2
  go_ret
  exact ⟨rfl, rfl⟩
theorem itoa7 (w : World) : Calls Tryd.prog 50 #[.int .i64 7] w fun e w' => e = .returned (.string ⟨#[55]⟩) ∧ w = w' := by
  go_enter Tryd.func50, Tryd.ntmps50
  go_wp2_with (first | (go_at_call 53; refine (small7 _).mono ?_; rintro e w' ⟨rfl, rfl⟩) | go_in)
  go_ret
  exact ⟨rfl, rfl⟩
def err7 : ByteArray := ⟨#[101, 114, 114, 111, 114, 32, 55]⟩
theorem cerr7 (w : World) : Calls Tryd.prog 49 #[.int .i64 7] w fun e w' => e = .returned (.string err7) ∧ w = w' := by
  go_enter Tryd.func49, Tryd.ntmps49
  go_wp2_with fail
  refine (itoa7 _).mono ?_
  rintro e w1 ⟨rfl, rfl⟩
  go_wp2_with fail
  go_ret
  exact ⟨rfl, rfl⟩
theorem ferr7 (a : Int) (w : World) : Calls Tryd.prog 64 #[.agg #[.int .i64 7, .int .i64 a]] w fun e w' => e = .returned (.string err7) ∧ Below w.heap.size w w' := by
  go_enter Tryd.func64, Tryd.ntmps64
  go_wp2_with fail
  refine (cerr7 _).mono ?_
  rintro e w1 ⟨rfl, rfl⟩
  go_wp2_with fail
  go_ret
  exact ⟨rfl, (Below.refl _ _).alloc (Nat.le_refl _) _⟩

/-! ### the text of an error, 'K' what it asks of the world -/
structure Keeps (K : World → Prop) : Prop where
  alloc : ∀ w o, K w → K (w.alloc o)
  drew : ∀ w : World, K w → K w.drew

set_option maxHeartbeats 1000000 in
theorem werr_c {K : World → Prop} (hK : Keeps K) {x : Value} {s : ByteArray} (hc : ∀ w, K w → Calls Tryd.prog 49 #[x] w fun e w' => e = .returned (.string s) ∧ Below w.heap.size w w') (p : ByteArray) (hp : p.size + s.size ≤ 100000) (w : World) (hk : K w) :
    Calls Tryd.prog 66 #[.agg #[.string p, .iface 30 x]] w fun e w' => e = .returned (.string (p ++ ⟨#[58, 32]⟩ ++ s)) ∧ Below w.heap.size w w' := by
  have hm := mEr_c
  have ha1 : ∀ w, (Op.stringOp .add p ⟨#[58, 32]⟩).run Tryd.prog w = .ok (.string (p ++ ⟨#[58, 32]⟩)) w := fun w => run_string_add_sum w _ _ (by show p.size + 2 ≤ _; omega)
  have ha2 : ∀ w, (Op.stringOp .add (p ++ ⟨#[58, 32]⟩) s).run Tryd.prog w = .ok (.string (p ++ ⟨#[58, 32]⟩ ++ s)) w := fun w => run_string_add_sum w _ _ (by rw [ByteArray.size_append']; show p.size + 2 + s.size ≤ _; omega)
  have hk2 := (hK.drew _ (hK.alloc w (.cells #[.string p, .iface 30 x] 53) hk))
  go_enter Tryd.func66, Tryd.ntmps66
  go_wp2_with fail
  go_region_held3 (fun w' => w'.cell? ⟨w.heap.size, 0, none⟩ = some (.string p) ∧ w'.cell? ⟨w.heap.size, 1, none⟩ = some (.iface 30 x)) (go_keep) (first | (go_at_call 49; refine (hc _ hk2).mono ?_; rintro e w1 ⟨rfl, b1⟩; have g0 : w1.cell? ⟨w.heap.size, 0, none⟩ = some (.string p) := (b1.cell (p := ⟨w.heap.size, 0, none⟩) (by simp)).trans (by simp); have g1 : w1.cell? ⟨w.heap.size, 1, none⟩ = some (.iface 30 x) := (b1.cell (p := ⟨w.heap.size, 1, none⟩) (by simp)).trans (by simp)))
  go_wp2_with fail
  go_ret
  exact ⟨rfl, ((Below.refl _ _).alloc (Nat.le_refl _) _).drew.trans (b1.mono (by simp))⟩

set_option maxHeartbeats 1000000 in
theorem werr_f {K : World → Prop} (hK : Keeps K) {x : Value} {s : ByteArray} (hc : ∀ w, K w → Calls Tryd.prog 64 #[x] w fun e w' => e = .returned (.string s) ∧ Below w.heap.size w w') (p : ByteArray) (hp : p.size + s.size ≤ 100000) (w : World) (hk : K w) :
    Calls Tryd.prog 66 #[.agg #[.string p, .iface 48 x]] w fun e w' => e = .returned (.string (p ++ ⟨#[58, 32]⟩ ++ s)) ∧ Below w.heap.size w w' := by
  have hm := mEr_f
  have ha1 : ∀ w, (Op.stringOp .add p ⟨#[58, 32]⟩).run Tryd.prog w = .ok (.string (p ++ ⟨#[58, 32]⟩)) w := fun w => run_string_add_sum w _ _ (by show p.size + 2 ≤ _; omega)
  have ha2 : ∀ w, (Op.stringOp .add (p ++ ⟨#[58, 32]⟩) s).run Tryd.prog w = .ok (.string (p ++ ⟨#[58, 32]⟩ ++ s)) w := fun w => run_string_add_sum w _ _ (by rw [ByteArray.size_append']; show p.size + 2 + s.size ≤ _; omega)
  have hk2 := (hK.drew _ (hK.alloc w (.cells #[.string p, .iface 48 x] 53) hk))
  go_enter Tryd.func66, Tryd.ntmps66
  go_wp2_with fail
  go_region_held3 (fun w' => w'.cell? ⟨w.heap.size, 0, none⟩ = some (.string p) ∧ w'.cell? ⟨w.heap.size, 1, none⟩ = some (.iface 48 x)) (go_keep) (first | (go_at_call 64; refine (hc _ hk2).mono ?_; rintro e w1 ⟨rfl, b1⟩; have g0 : w1.cell? ⟨w.heap.size, 0, none⟩ = some (.string p) := (b1.cell (p := ⟨w.heap.size, 0, none⟩) (by simp)).trans (by simp); have g1 : w1.cell? ⟨w.heap.size, 1, none⟩ = some (.iface 48 x) := (b1.cell (p := ⟨w.heap.size, 1, none⟩) (by simp)).trans (by simp)))
  go_wp2_with fail
  go_ret
  exact ⟨rfl, ((Below.refl _ _).alloc (Nat.le_refl _) _).drew.trans (b1.mono (by simp))⟩

set_option maxHeartbeats 1000000 in
theorem werr_w {K : World → Prop} (hK : Keeps K) {x : Value} {s : ByteArray} (hc : ∀ w, K w → Calls Tryd.prog 66 #[x] w fun e w' => e = .returned (.string s) ∧ Below w.heap.size w w') (p : ByteArray) (hp : p.size + s.size ≤ 100000) (w : World) (hk : K w) :
    Calls Tryd.prog 66 #[.agg #[.string p, .iface 53 x]] w fun e w' => e = .returned (.string (p ++ ⟨#[58, 32]⟩ ++ s)) ∧ Below w.heap.size w w' := by
  have hm := mEr_w
  have ha1 : ∀ w, (Op.stringOp .add p ⟨#[58, 32]⟩).run Tryd.prog w = .ok (.string (p ++ ⟨#[58, 32]⟩)) w := fun w => run_string_add_sum w _ _ (by show p.size + 2 ≤ _; omega)
  have ha2 : ∀ w, (Op.stringOp .add (p ++ ⟨#[58, 32]⟩) s).run Tryd.prog w = .ok (.string (p ++ ⟨#[58, 32]⟩ ++ s)) w := fun w => run_string_add_sum w _ _ (by rw [ByteArray.size_append']; show p.size + 2 + s.size ≤ _; omega)
  have hk2 := (hK.drew _ (hK.alloc w (.cells #[.string p, .iface 53 x] 53) hk))
  go_enter Tryd.func66, Tryd.ntmps66
  go_wp2_with fail
  go_region_held3 (fun w' => w'.cell? ⟨w.heap.size, 0, none⟩ = some (.string p) ∧ w'.cell? ⟨w.heap.size, 1, none⟩ = some (.iface 53 x)) (go_keep) (first | (go_at_call 66; refine (hc _ hk2).mono ?_; rintro e w1 ⟨rfl, b1⟩; have g0 : w1.cell? ⟨w.heap.size, 0, none⟩ = some (.string p) := (b1.cell (p := ⟨w.heap.size, 0, none⟩) (by simp)).trans (by simp); have g1 : w1.cell? ⟨w.heap.size, 1, none⟩ = some (.iface 53 x) := (b1.cell (p := ⟨w.heap.size, 1, none⟩) (by simp)).trans (by simp)))
  go_wp2_with fail
  go_ret
  exact ⟨rfl, ((Below.refl _ _).alloc (Nat.le_refl _) _).drew.trans (b1.mono (by simp))⟩

/-! ### the names -/
def nmL : List ByteArray := [⟨#[]⟩, ⟨#[115, 104, 111, 114, 116]⟩, ⟨#[97, 108, 105, 103, 110]⟩, ⟨#[99, 104, 101, 99, 107, 115, 117, 109]⟩, ⟨#[108, 101, 110, 103, 116, 104]⟩, ⟨#[112, 97, 100, 100, 105, 110, 103]⟩, ⟨#[102, 108, 97, 103, 115]⟩, ⟨#[102, 111, 114, 109]⟩, ⟨#[99, 111, 117, 110, 116]⟩, ⟨#[100, 101, 112, 116, 104]⟩, ⟨#[112, 108, 97, 99, 101]⟩, ⟨#[118, 97, 108, 117, 101]⟩, ⟨#[115, 121, 110, 116, 97, 120]⟩]
def Names (w : World) : Prop := ∀ (i : Nat) (s : ByteArray), nmL[i]? = some s → w.cell? ⟨0, i, none⟩ = some (.string s)
theorem Names.lt {w : World} (h : Names w) : 0 < w.heap.size := World.block_lt_of_cell? w _ (h 0 _ rfl)
theorem Names.below {B : Nat} {w w' : World} (h : Names w) (hb : Below B w w') (hB : 0 < B) : Names w' := fun i s hs => (hb.cell (p := ⟨0, i, none⟩) hB).trans (h i s hs)
theorem Names.alloc {w : World} (h : Names w) (o : Obj) : Names (w.alloc o) := fun i s hs => (World.cell?_alloc_lt w o ⟨0, i, none⟩ h.lt).trans (h i s hs)

theorem Name_in (k : Nat) (s : ByteArray) (h1 : 1 ≤ k) (h2 : k ≤ 12) (hs : nmL[k]? = some s) (w : World) (hn : Names w) :
    Calls Tryd.prog 17 #[.int .i64 k] w fun e w' => e = .returned (.string s) ∧ w = w' := by
  have g := hn k s hs
  have g1 : ¬ (k : Int) < 1 := by omega
  have g2 : ¬ (12 : Int) < k := by omega
  have g3 : k < 13 := by omega
  clear hs hn
  go_enter Tryd.func17, Tryd.ntmps17
  go_wp2
  go_ret
  exact ⟨rfl, rfl⟩
theorem Name_out (c : Int) (h : c < 1 ∨ 12 < c) (w : World) :
    Calls Tryd.prog 17 #[.int .i64 c] w fun e w' => e = .returned (.string ⟨#[]⟩) ∧ w = w' := by
  by_cases h1 : c < 1
  · go_enter Tryd.func17, Tryd.ntmps17
    go_wp2
    go_ret
    exact ⟨rfl, rfl⟩
  · have h2 : 12 < c := by omega
    clear h
    go_enter Tryd.func17, Tryd.ntmps17
    go_wp2
    go_ret
    exact ⟨rfl, rfl⟩
set_option maxHeartbeats 4000000 in
theorem Rname_in (k : Nat) (s : ByteArray) (h1 : 1 ≤ k) (h2 : k ≤ 12) (hs : nmL[k]? = some s) (w : World) :
    Calls Tryd.prog 18 #[.int .i64 k] w fun e w' => e = .returned (.string s) ∧ Below w.heap.size w w' := by
  obtain rfl | rfl | rfl | rfl | rfl | rfl | rfl | rfl | rfl | rfl | rfl | rfl : k = 1 ∨ k = 2 ∨ k = 3 ∨ k = 4 ∨ k = 5 ∨ k = 6 ∨ k = 7 ∨ k = 8 ∨ k = 9 ∨ k = 10 ∨ k = 11 ∨ k = 12 := by omega
  all_goals
    obtain rfl := Option.some.inj hs
    clear hs h1 h2
    go_enter Tryd.func18, Tryd.ntmps18
    go_wp2
    go_ret
    exact ⟨rfl, (Below.refl _ _).alloc (Nat.le_refl _) _⟩
theorem Rname_out (c : Int) (h : c < 1 ∨ 12 < c) (w : World) :
    Calls Tryd.prog 18 #[.int .i64 c] w fun e w' => e = .returned (.string ⟨#[]⟩) ∧ Below w.heap.size w w' := by
  by_cases h1 : c < 1
  · go_enter Tryd.func18, Tryd.ntmps18
    go_wp2
    go_ret
    exact ⟨rfl, Below.refl _ _⟩
  · have h2 : 12 < c := by omega
    clear h
    go_enter Tryd.func18, Tryd.ntmps18
    go_wp2
    go_ret
    exact ⟨rfl, Below.refl _ _⟩
end Go.Proofs.YtkcgmheljdkacaaDoor
