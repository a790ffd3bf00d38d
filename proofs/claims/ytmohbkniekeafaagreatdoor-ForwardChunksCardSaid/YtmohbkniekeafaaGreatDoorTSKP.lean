/- Layer 14: the reference's Make (written by tools/gen_sack_o.py). It writes nothing that was there. -/
/- Layer 14: the reference's data is the program's. -/
import Derived.Test.YtmohbkniekeafaaGreatDoorTSKA
import Derived.Test.YtmohbkniekeafaaGreatDoorTIN
import Derived.Test.YtmohbkniekeafaaGreatDoorTWireF
import Derived.Test.YtmohbkniekeafaaGreatDoorTNF
import Derived.Laws.StructEq
import Derived.BigGuard
import Derived.Deep.RegionHeld3
import Derived.Deep.Cut
import Derived.Test.YtmohbkniekeafaaGreatDoorTDJ
import Derived.Test.YtmohbkniekeafaaGreatDoorTDK
import Derived.Test.YtmohbkniekeafaaGreatDoorTDT
import Derived.Test.YtmohbkniekeafaaGreatDoorTDP
import Derived.Test.YtmohbkniekeafaaGreatDoorTW
import Derived.Laws.Tables
import Derived.Test.YtmohbkniekeafaaGreatDoorTCA







namespace Go.Proofs.YtmohbkniekeafaaGreatDoor
open Go.RowKit

set_option linter.unusedSimpArgs false
theorem puts_cat (k : Nat) (l m : List UInt32) : puts k (l ++ m) = puts k l ++ puts k m := by simp [puts]
/-- the word of the two counts -/
def cntW (g d : Nat) : UInt32 := u32of (g * 65536 + d)
end Go.Proofs.YtmohbkniekeafaaGreatDoor



namespace Go.Proofs.YtmohbkniekeafaaGreatDoor
open Go.RowKit

theorem byte_toNat (s : Nat) (x : UInt32) : (beByte s x).toNat = x.toNat / 2 ^ s % 256 := by
  unfold beByte
  rw [UInt8.toNat_ofNat']
theorem cnt_two (g d : Nat) (hg : g < 65536) (hd : d < 65536) : puts 4 [cntW g d] = puts 2 [u32of g, u32of d] := by
  have e : (cntW g d).toNat = g * 65536 + d := u32of_toNat (by omega)
  have eg : (u32of g).toNat = g := u32of_toNat (by omega)
  have ed : (u32of d).toNat = d := u32of_toNat (by omega)
  have hb : ∀ a b : UInt8, a.toNat = b.toNat → a = b := fun a b h => UInt8.toNat_inj.1 h
  have h4 : puts 4 [cntW g d] = [beByte 24 (cntW g d), beByte 16 (cntW g d), beByte 8 (cntW g d), beByte 0 (cntW g d)] := rfl
  have h2 : puts 2 [u32of g, u32of d] = [beByte 8 (u32of g), beByte 0 (u32of g), beByte 8 (u32of d), beByte 0 (u32of d)] := rfl
  rw [h4, h2]
  congr 1
  · apply hb; rw [byte_toNat, byte_toNat, e, eg]; omega
  congr 1
  · apply hb; rw [byte_toNat, byte_toNat, e, eg]; omega
  congr 1
  · apply hb; rw [byte_toNat, byte_toNat, e, ed]; omega
  congr 1
  · apply hb; rw [byte_toNat, byte_toNat, e, ed]; omega
end Go.Proofs.YtmohbkniekeafaaGreatDoor


