/- When a node is right: all sorts at once. -/
import Derived.Test.YtgiegjghldhppabGreatNdR0
import Derived.Test.YtgiegjghldhppabGreatNdR1
import Derived.Test.YtgiegjghldhppabGreatNdR2
import Derived.Test.YtgiegjghldhppabGreatNdR3
import Derived.Test.YtgiegjghldhppabGreatNdR4
import Derived.Test.YtgiegjghldhppabGreatNdR5
import Derived.Test.YtgiegjghldhppabGreatNdR6
import Derived.Test.YtgiegjghldhppabGreatNdR7
import Derived.Test.YtgiegjghldhppabGreatNdRW
namespace Go.Proofs.YtgiegjghldhppabGreat
open Go.RowKit
set_option linter.unusedVariables false

structure RightAll (n : Nat) : Prop where
  s0 : ErrOf 53 (Nd.err 0) n 0
  s1 : ErrOf 82 (Nd.err 1) n 1
  s2 : ErrOf 49 (Nd.err 2) n 2
  s3 : ErrOf 21 (Nd.err 3) n 3
  s4 : ErrOf 56 (Nd.err 4) n 4
  s5 : ErrOf 58 (Nd.err 5) n 5
  s6 : ErrOf 60 (Nd.err 6) n 6
  s7 : ErrOf 91 (Nd.err 7) n 7
theorem enters_right0 : Enters 53 := enters_of Tryz.func53 (by kernel_rfl) rfl
theorem enters_right1 : Enters 82 := enters_of Tryz.func82 (by kernel_rfl) rfl
theorem enters_right2 : Enters 49 := enters_of Tryz.func49 (by kernel_rfl) rfl
theorem enters_right3 : Enters 21 := enters_of Tryz.func21 (by kernel_rfl) rfl
theorem enters_right4 : Enters 56 := enters_of Tryz.func56 (by kernel_rfl) rfl
theorem enters_right5 : Enters 58 := enters_of Tryz.func58 (by kernel_rfl) rfl
theorem enters_right6 : Enters 60 := enters_of Tryz.func60 (by kernel_rfl) rfl
theorem enters_right7 : Enters 91 := enters_of Tryz.func91 (by kernel_rfl) rfl
theorem enters_inLet : Enters 98 := enters_of Tryz.func98 (by kernel_rfl) rfl
theorem right_all : ∀ n, RightAll n
  | 0 => ⟨fun _ _ _ _ _ _ _ h => h.elim, fun _ _ _ _ _ _ _ h => h.elim, fun _ _ _ _ _ _ _ h => h.elim, fun _ _ _ _ _ _ _ h => h.elim, fun _ _ _ _ _ _ _ h => h.elim, fun _ _ _ _ _ _ _ h => h.elim, fun _ _ _ _ _ _ _ h => h.elim, fun _ _ _ _ _ _ _ h => h.elim⟩
  | n + 1 =>
    have h := right_all n
    have q0 := eachR0 53 (Nd.err 0) n enters_right0 h.s0
    have q1 := eachR1 82 (Nd.err 1) n enters_right1 h.s1
    have q2 := eachR2 49 (Nd.err 2) n enters_right2 h.s2
    have q3 := eachR3 21 (Nd.err 3) n enters_right3 h.s3
    have q4 := eachR4 56 (Nd.err 4) n enters_right4 h.s4
    have q5 := eachR5 58 (Nd.err 5) n enters_right5 h.s5
    have q6 := eachR6 60 (Nd.err 6) n enters_right6 h.s6
    have q7 := eachR7 91 (Nd.err 7) n enters_right7 h.s7
    have qlet := eachR3 98 Nd.letE n enters_inLet (inLet_any n)
    ⟨right0 n q0, right1 n q1, right2 n (own2 n qlet) q1 q2 q3 q0, right3 n (own3 n) q0 q2 q4 q5 q6, right4 n q0, right5 n q3 q5 q6, right6 n q7 q6 q0, right7 n q0 q4 q6⟩
end Go.Proofs.YtgiegjghldhppabGreat
