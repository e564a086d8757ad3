/- What Reserved comes to: the program's switch. -/
import Derived.Test.YtgiegjghldhppabGreatLeaf
namespace Go.Proofs.YtgiegjghldhppabGreat
open Go.RowKit
set_option linter.unusedVariables false

set_option maxRecDepth 100000 in
set_option maxHeartbeats 2000000 in
theorem reserved_any (s : ByteArray) (w : World) : Calls Tryz.prog 106 #[.string s] w fun e w' => e = .returned (.bool (Nm.reserved s)) ∧ w' = w := by
  go_enter Tryz.func106, Tryz.ntmps106
  go_wp2
  all_goals go_ret
  all_goals refine ⟨ret_bool ?_, rfl⟩
  all_goals (unfold Nm.reserved; simp only [Lib.toList_data] at *)
  all_goals (first | (simp_all [Nm.words]; done) | skip)
end Go.Proofs.YtgiegjghldhppabGreat
