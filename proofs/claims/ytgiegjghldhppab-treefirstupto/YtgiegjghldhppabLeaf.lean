/- What the small functions on bytes come to, the program's and the document's. -/
import Derived.WalkKit
import Derived.WalkSpells
import Derived.Lib.Walk
import Derived.Lib.Strings
import Derived.Lib.Bytealg
import Derived.Deep.QuietTactic
import Derived.BigQuiet
import Derived.Test.YtgiegjghldhppabProg
import Derived.Test.YtgiegjghldhppabPure
namespace Go.Proofs.Ytgiegjghldhppab
open Go.RowKit
set_option linter.unusedVariables false

theorem small_any (c : Int) (w : World) : Calls Try.prog 73 #[.int .u8 c] w fun e w' => e = .returned (.bool (Nm.low c)) ∧ w' = w := by
  go_enter Try.func73, Try.ntmps73
  go_wp2
  all_goals go_ret
  all_goals refine ⟨ret_bool ?_, rfl⟩
  all_goals (unfold Nm.low; first | (simp [*]; done) | (simp; omega))

theorem capital_any (c : Int) (w : World) : Calls Try.prog 74 #[.int .u8 c] w fun e w' => e = .returned (.bool (Nm.high c)) ∧ w' = w := by
  go_enter Try.func74, Try.ntmps74
  go_wp2
  all_goals go_ret
  all_goals refine ⟨ret_bool ?_, rfl⟩
  all_goals (unfold Nm.high; first | (simp [*]; done) | (simp; omega))

theorem digit_any (c : Int) (w : World) : Calls Try.prog 75 #[.int .u8 c] w fun e w' => e = .returned (.bool (Nm.dig c)) ∧ w' = w := by
  go_enter Try.func75, Try.ntmps75
  go_wp2
  all_goals go_ret
  all_goals refine ⟨ret_bool ?_, rfl⟩
  all_goals (unfold Nm.dig; first | (simp [*]; done) | (simp; omega))

theorem letter_any (c : Int) (w : World) : Calls Try.prog 79 #[.int .u8 c] w fun e w' => e = .returned (.bool (Nm.letter c)) ∧ w' = w := by
  cases h : Nm.low c with
  | true =>
    have H : Hid (Nm.letter c = true) := by show _ = _; unfold Nm.letter; rw [h]; rfl
    go_enter Try.func79, Try.ntmps79
    go_wp2_with (first | (go_at_call 73; refine (small_any _ _).mono ?_; rintro e w' ⟨rfl, rfl⟩) | (go_at_call 74; refine (capital_any _ _).mono ?_; rintro e w' ⟨rfl, rfl⟩))
    go_ret
    exact ⟨ret_bool H.out.symm, rfl⟩
  | false =>
    have H : Hid (Nm.letter c = Nm.high c) := by show _ = _; unfold Nm.letter; rw [h]; rfl
    go_enter Try.func79, Try.ntmps79
    go_wp2_with (first | (go_at_call 73; refine (small_any _ _).mono ?_; rintro e w' ⟨rfl, rfl⟩) | (go_at_call 74; refine (capital_any _ _).mono ?_; rintro e w' ⟨rfl, rfl⟩))
    go_ret
    exact ⟨ret_bool H.out.symm, rfl⟩
end Go.Proofs.Ytgiegjghldhppab
