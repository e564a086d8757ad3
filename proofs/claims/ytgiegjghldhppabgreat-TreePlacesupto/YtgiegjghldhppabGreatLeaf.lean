/- What the small functions on bytes come to, the program's and the document's. -/
import Derived.WalkKit
import Derived.WalkSpells
import Derived.Lib.Walk
import Derived.Lib.Strings
import Derived.Lib.Bytealg
import Derived.Deep.QuietTactic
import Derived.BigQuiet
import Derived.Test.YtgiegjghldhppabGreatProg
import Derived.Test.YtgiegjghldhppabGreatPure
namespace Go.Proofs.YtgiegjghldhppabGreat
open Go.RowKit
set_option linter.unusedVariables false

theorem small_any (c : Int) (w : World) : Calls Tryz.prog 100 #[.int .u8 c] w fun e w' => e = .returned (.bool (Nm.low c)) ∧ w' = w := by
  go_enter Tryz.func100, Tryz.ntmps100
  go_wp2
  all_goals go_ret
  all_goals refine ⟨ret_bool ?_, rfl⟩
  all_goals (unfold Nm.low; first | (simp [*]; done) | (simp; omega))

theorem capital_any (c : Int) (w : World) : Calls Tryz.prog 101 #[.int .u8 c] w fun e w' => e = .returned (.bool (Nm.high c)) ∧ w' = w := by
  go_enter Tryz.func101, Tryz.ntmps101
  go_wp2
  all_goals go_ret
  all_goals refine ⟨ret_bool ?_, rfl⟩
  all_goals (unfold Nm.high; first | (simp [*]; done) | (simp; omega))

theorem digit_any (c : Int) (w : World) : Calls Tryz.prog 102 #[.int .u8 c] w fun e w' => e = .returned (.bool (Nm.dig c)) ∧ w' = w := by
  go_enter Tryz.func102, Tryz.ntmps102
  go_wp2
  all_goals go_ret
  all_goals refine ⟨ret_bool ?_, rfl⟩
  all_goals (unfold Nm.dig; first | (simp [*]; done) | (simp; omega))

theorem letter_any (c : Int) (w : World) : Calls Tryz.prog 107 #[.int .u8 c] w fun e w' => e = .returned (.bool (Nm.letter c)) ∧ w' = w := by
  cases h : Nm.low c with
  | true =>
    have H : Hid (Nm.letter c = true) := by show _ = _; unfold Nm.letter; rw [h]; rfl
    go_enter Tryz.func107, Tryz.ntmps107
    go_wp2_with (first | (go_at_call 100; refine (small_any _ _).mono ?_; rintro e w' ⟨rfl, rfl⟩) | (go_at_call 101; refine (capital_any _ _).mono ?_; rintro e w' ⟨rfl, rfl⟩))
    go_ret
    exact ⟨ret_bool H.out.symm, rfl⟩
  | false =>
    have H : Hid (Nm.letter c = Nm.high c) := by show _ = _; unfold Nm.letter; rw [h]; rfl
    go_enter Tryz.func107, Tryz.ntmps107
    go_wp2_with (first | (go_at_call 100; refine (small_any _ _).mono ?_; rintro e w' ⟨rfl, rfl⟩) | (go_at_call 101; refine (capital_any _ _).mono ?_; rintro e w' ⟨rfl, rfl⟩))
    go_ret
    exact ⟨ret_bool H.out.symm, rfl⟩
end Go.Proofs.YtgiegjghldhppabGreat
