/- When a node is right: all sorts at once. -/
import Derived.Test.YtgiegjghldhppabNdR0
import Derived.Test.YtgiegjghldhppabNdR1
import Derived.Test.YtgiegjghldhppabNdR2
import Derived.Test.YtgiegjghldhppabNdR3
import Derived.Test.YtgiegjghldhppabNdR4
import Derived.Test.YtgiegjghldhppabNdR5
import Derived.Test.YtgiegjghldhppabNdR6
import Derived.Test.YtgiegjghldhppabNdR7
import Derived.Test.YtgiegjghldhppabNdRW
namespace Go.Proofs.Ytgiegjghldhppab
open Go.RowKit
set_option linter.unusedVariables false

structure RightAll (n : Nat) : Prop where
  s0 : ErrOf 37 (Nd.err 0) n 0
  s1 : ErrOf 56 (Nd.err 1) n 1
  s2 : ErrOf 31 (Nd.err 2) n 2
  s3 : ErrOf 17 (Nd.err 3) n 3
  s4 : ErrOf 40 (Nd.err 4) n 4
  s5 : ErrOf 42 (Nd.err 5) n 5
  s6 : ErrOf 44 (Nd.err 6) n 6
  s7 : ErrOf 68 (Nd.err 7) n 7
theorem enters_right0 : Enters 37 := enters_of Try.func37 (by kernel_rfl) rfl
theorem enters_right1 : Enters 56 := enters_of Try.func56 (by kernel_rfl) rfl
theorem enters_right2 : Enters 31 := enters_of Try.func31 (by kernel_rfl) rfl
theorem enters_right3 : Enters 17 := enters_of Try.func17 (by kernel_rfl) rfl
theorem enters_right4 : Enters 40 := enters_of Try.func40 (by kernel_rfl) rfl
theorem enters_right5 : Enters 42 := enters_of Try.func42 (by kernel_rfl) rfl
theorem enters_right6 : Enters 44 := enters_of Try.func44 (by kernel_rfl) rfl
theorem enters_right7 : Enters 68 := enters_of Try.func68 (by kernel_rfl) rfl
theorem enters_inLet : Enters 70 := enters_of Try.func70 (by kernel_rfl) rfl
theorem right_all : ∀ n, RightAll n
  | 0 => ⟨fun _ _ _ _ _ _ _ h => h.elim, fun _ _ _ _ _ _ _ h => h.elim, fun _ _ _ _ _ _ _ h => h.elim, fun _ _ _ _ _ _ _ h => h.elim, fun _ _ _ _ _ _ _ h => h.elim, fun _ _ _ _ _ _ _ h => h.elim, fun _ _ _ _ _ _ _ h => h.elim, fun _ _ _ _ _ _ _ h => h.elim⟩
  | n + 1 =>
    have h := right_all n
    have q0 := eachR0 37 (Nd.err 0) n enters_right0 h.s0
    have q1 := eachR1 56 (Nd.err 1) n enters_right1 h.s1
    have q2 := eachR2 31 (Nd.err 2) n enters_right2 h.s2
    have q3 := eachR3 17 (Nd.err 3) n enters_right3 h.s3
    have q4 := eachR4 40 (Nd.err 4) n enters_right4 h.s4
    have q5 := eachR5 42 (Nd.err 5) n enters_right5 h.s5
    have q6 := eachR6 44 (Nd.err 6) n enters_right6 h.s6
    have q7 := eachR7 68 (Nd.err 7) n enters_right7 h.s7
    have qlet := eachR3 70 Nd.letE n enters_inLet (inLet_any n)
    ⟨right0 n q0, right1 n q1, right2 n (own2 n qlet) q1 q2 q3 q0, right3 n (own3 n) q0 q2 q4 q5 q6, right4 n q0, right5 n q3 q5 q6, right6 n q7 q6 q0, right7 n q0 q4 q6⟩
end Go.Proofs.Ytgiegjghldhppab
