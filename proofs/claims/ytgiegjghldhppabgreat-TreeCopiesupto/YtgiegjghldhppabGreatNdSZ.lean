/- Same and its kin, all sorts at once. -/
import Derived.Test.YtgiegjghldhppabGreatNdSA
import Derived.Test.YtgiegjghldhppabGreatNdSB
import Derived.Test.YtgiegjghldhppabGreatNdSC
import Derived.Test.YtgiegjghldhppabGreatNdSD
namespace Go.Proofs.YtgiegjghldhppabGreat
open Go.RowKit
set_option linter.unusedVariables false

structure SameAll (n : Nat) : Prop where
  s0 : SameOf 38 n 0
  s1 : SameOf 72 n 1
  s2 : SameOf 40 n 2
  s3 : SameOf 14 n 3
  s4 : SameOf 42 n 4
  s5 : SameOf 44 n 5
  s6 : SameOf 46 n 6
  s7 : SameOf 74 n 7
theorem same_all : ∀ n, SameAll n
  | 0 => ⟨fun _ _ _ _ _ h _ => h.elim, fun _ _ _ _ _ h _ => h.elim, fun _ _ _ _ _ h _ => h.elim, fun _ _ _ _ _ h _ => h.elim, fun _ _ _ _ _ h _ => h.elim, fun _ _ _ _ _ h _ => h.elim, fun _ _ _ _ _ h _ => h.elim, fun _ _ _ _ _ h _ => h.elim⟩
  | n + 1 =>
    have h := same_all n
    have q0 := eqFunc0 n h.s0
    have q1 := eqFunc1 n h.s1
    have q2 := eqFunc2 n h.s2
    have q3 := eqFunc3 n h.s3
    have q4 := eqFunc4 n h.s4
    have q5 := eqFunc5 n h.s5
    have q6 := eqFunc6 n h.s6
    have q7 := eqFunc7 n h.s7
    ⟨same0 n q0, same1 n q1, same2 n q1 q2 q3 q0, same3 n q0 q2 q4 q5 q6, same4 n q0, same5 n q3 q5 q6, same6 n q7 q6 q0, same7 n q0 q4 q6⟩

theorem sameDecs_any (n : Nat) (w : World) (v1 v2 : Value) (xs ys : List Nd) (h1 : AtL w Any n 3 v1 xs) (h2 : AtL w Any n 3 v2 ys) :
    Calls Tryz.prog 6 #[v1, v2] w fun e w' => e = .returned (.bool (Nd.eqL xs ys)) ∧ Below w.heap.size w w' := by
  have q := eqFunc3 n (same_all n).s3 w v1 v2 xs ys h1 h2
  go_enter Tryz.func6, Tryz.ntmps6
  go_wp2_with (go_at_call 13; refine q.mono ?_; rintro e w1 ⟨rfl, hb1⟩)
  go_ret
  exact ⟨rfl, hb1⟩

end Go.Proofs.YtgiegjghldhppabGreat
