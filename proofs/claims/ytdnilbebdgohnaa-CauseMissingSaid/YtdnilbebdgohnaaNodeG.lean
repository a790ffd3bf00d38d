/- Layer 8: whether two nodes are the same (Same, by the library's EqualFunc), for whatever nodes. They write nothing that was there. -/
import Derived.Test.YtdnilbebdgohnaaNodeB
import Derived.Test.YtdnilbebdgohnaaSame
import Derived.Laws.BytesArg


namespace Go.Proofs.Ytdnilbebdgohnaa
open Go.RowKit

mutual
def Nd.beq : Nd → Nd → Bool
  | .mk t v ks, .mk t' v' ks' => decide (t = t') && decide (v = v') && beqL ks ks'
def beqL : List Nd → List Nd → Bool
  | [], [] => true
  | a :: xs, b :: ys => a.beq b && beqL xs ys
  | [], _ :: _ => false
  | _ :: _, [] => false
end
theorem Nd.beq_eq (a : Nd) : ∀ b, a.beq b = true ↔ a = b :=
  Nd.ind (P := fun a => ∀ b, a.beq b = true ↔ a = b) (fun t v ks ih b => by
    have hl : ∀ (l m : List Nd), (∀ k ∈ l, ∀ b, k.beq b = true ↔ k = b) → (beqL l m = true ↔ l = m) := by
      intro l
      induction l with
      | nil => intro m _; cases m <;> simp [beqL]
      | cons x l ihl =>
        intro m hx
        cases m with
        | nil => simp [beqL]
        | cons y m =>
          simp only [beqL, Bool.and_eq_true, List.cons.injEq]
          rw [hx x List.mem_cons_self y, ihl m fun k hk => hx k (List.mem_cons_of_mem _ hk)]
    cases b with
    | mk t' v' ks' =>
      simp only [Nd.beq, Bool.and_eq_true, decide_eq_true_eq, Nd.mk.injEq, hl ks ks' ih]
      exact and_assoc) a
theorem beqL_eq (l : List Nd) : ∀ m, beqL l m = true ↔ l = m := by
  induction l with
  | nil => intro m; cases m <;> simp [beqL]
  | cons x l ih =>
    intro m
    cases m with
    | nil => simp [beqL]
    | cons y m =>
      simp only [beqL, Bool.and_eq_true, List.cons.injEq]
      rw [Nd.beq_eq x y, ih m]
theorem beqL_true {l m : List Nd} (h : l = m) : beqL l m = true := (beqL_eq l m).2 h
theorem beqL_false {l m : List Nd} (h : l ≠ m) : beqL l m = false := by
  cases hb : beqL l m with
  | false => rfl
  | true => exact absurd ((beqL_eq l m).1 hb) h
/-- so many inside, at whatever depth -/
inductive Few1 : Nd → Prop
  | mk {n : Nd} : n.ks.length ≤ 100000000 → (∀ k ∈ n.ks, Few1 k) → Few1 n
theorem Few1.kl {n : Nd} (h : Few1 n) : n.ks.length ≤ 100000000 := by cases h; assumption
theorem Few1.kid {n : Nd} (h : Few1 n) : ∀ k ∈ n.ks, Few1 k := by cases h; assumption
end Go.Proofs.Ytdnilbebdgohnaa

