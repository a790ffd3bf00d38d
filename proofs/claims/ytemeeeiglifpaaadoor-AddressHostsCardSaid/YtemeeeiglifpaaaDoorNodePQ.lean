/- NodeP + NodeQ -/
import Derived.Test.YtemeeeiglifpaaaDoorNodeNO
import Derived.Test.YtemeeeiglifpaaaDoorNodeKL
import Derived.Test.YtemeeeiglifpaaaDoorTlvE
import Derived.Test.YtemeeeiglifpaaaDoorTlvF
import Derived.Test.YtemeeeiglifpaaaDoorNodeHJ
import Derived.Test.YtemeeeiglifpaaaDoorNodeAD
import Derived.Test.YtemeeeiglifpaaaDoorWireA
import Derived.Test.YtemeeeiglifpaaaDoorErrA




namespace Go.Proofs.YtemeeeiglifpaaaDoor
open Go.RowKit Go.Shelf

attribute [local go_sem] Oper.semAt_some

theorem callsIn_round {l m : Nat} {P : Program} {f : FuncId} {args : Array Value} {w : World} {R : Ending → World → Prop} (h : Calls P f args w R) : CallsIn (Fence.wide.inRound l) m P f args w R := by
  have h1 := (callsIn_wide (n := m)).2 h
  exact ⟨h1.1, fun cs _ => h1.2 cs (by simp [Fence.room, Fence.wide])⟩
section
variable {w V V2 W2 W4 Wf : World} {R : Fr → NR} {c d : Int} {Bl X g4 c4 c1 cd ck : Nat} {pre : List Yf} {x : Yf} {A1 Ad Ak : Option Addr} {ns0 : List Nd} {n : Nd} {us : List Value} {Ks : Nat → Option Addr} {cs : Nat → Nat} {z0 z1 z2 : Value}
end

end Go.Proofs.YtemeeeiglifpaaaDoor

