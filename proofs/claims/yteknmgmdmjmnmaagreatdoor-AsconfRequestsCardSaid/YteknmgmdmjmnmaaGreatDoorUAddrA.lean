/- Layer 9: the texts of addresses: digits, words, reading word by word. No program, no condition of its own. -/

namespace Go.Proofs.YteknmgmdmjmnmaaGreatDoor
/-! ### the digits of a number -/
def dval (c : UInt8) : Nat := if 48 ≤ c.toNat ∧ c.toNat ≤ 57 then c.toNat - 48 else if 97 ≤ c.toNat ∧ c.toNat ≤ 102 then c.toNat - 87 else 99
/-! ### reading words digit by digit -/
def lim (b : Nat) : Nat := if b = 10 then 255 else 65535
abbrev St := List Nat × Option Nat
def stp (b : Nat) (sg : UInt8) (s : St) (c : UInt8) : Option St :=
  if c = sg then (match s.2 with | none => none | some w => some (s.1 ++ [w], none))
  else if b ≤ dval c ∨ s.2 = some 0 then none
  else if lim b < s.2.getD 0 * b + dval c then none else some (s.1, some (s.2.getD 0 * b + dval c))
def run (b : Nat) (sg : UInt8) : St → List UInt8 → Option St
  | s, [] => some s
  | s, c :: l => match stp b sg s c with | none => none | some s' => run b sg s' l
/-! ### the text of an address -/
end Go.Proofs.YteknmgmdmjmnmaaGreatDoor


