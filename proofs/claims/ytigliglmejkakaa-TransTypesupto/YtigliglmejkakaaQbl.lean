/- The binary search in alive's three labels. -/
import Derived.Test.YtigliglmejkakaaQbk
namespace Go.Proofs.Ytigliglmejkakaa
open Go.RowKit Go.Shelf Go.Sort
set_option linter.unusedVariables false
set_option linter.unusedSimpArgs false

theorem cmp_bCbC (w : World) : Calls Try.prog 64 #[.string ⟨bC.toArray⟩, .string ⟨bC.toArray⟩] w fun e w' => e = .returned (.int .i64 (0)) ∧ w' = w := (cmp_any _ _ w).mono fun e w' ⟨h1, h2⟩ => ⟨h1.trans (by rw [show Lib.compareBytes (ByteArray.mk bC.toArray).data.toList (ByteArray.mk bC.toArray).data.toList = 0 from by decide +kernel]), h2⟩
theorem cmp_bNbN (w : World) : Calls Try.prog 64 #[.string ⟨bN.toArray⟩, .string ⟨bN.toArray⟩] w fun e w' => e = .returned (.int .i64 (0)) ∧ w' = w := (cmp_any _ _ w).mono fun e w' ⟨h1, h2⟩ => ⟨h1.trans (by rw [show Lib.compareBytes (ByteArray.mk bN.toArray).data.toList (ByteArray.mk bN.toArray).data.toList = 0 from by decide +kernel]), h2⟩
theorem cmp_bObO (w : World) : Calls Try.prog 64 #[.string ⟨bO.toArray⟩, .string ⟨bO.toArray⟩] w fun e w' => e = .returned (.int .i64 (0)) ∧ w' = w := (cmp_any _ _ w).mono fun e w' ⟨h1, h2⟩ => ⟨h1.trans (by rw [show Lib.compareBytes (ByteArray.mk bO.toArray).data.toList (ByteArray.mk bO.toArray).data.toList = 0 from by decide +kernel]), h2⟩
theorem cmp_bNbO (w : World) : Calls Try.prog 64 #[.string ⟨bN.toArray⟩, .string ⟨bO.toArray⟩] w fun e w' => e = .returned (.int .i64 (-1)) ∧ w' = w := (cmp_any _ _ w).mono fun e w' ⟨h1, h2⟩ => ⟨h1.trans (by rw [show Lib.compareBytes (ByteArray.mk bN.toArray).data.toList (ByteArray.mk bO.toArray).data.toList = -1 from by decide +kernel]), h2⟩
theorem cmp_bCbN (w : World) : Calls Try.prog 64 #[.string ⟨bC.toArray⟩, .string ⟨bN.toArray⟩] w fun e w' => e = .returned (.int .i64 (-1)) ∧ w' = w := (cmp_any _ _ w).mono fun e w' ⟨h1, h2⟩ => ⟨h1.trans (by rw [show Lib.compareBytes (ByteArray.mk bC.toArray).data.toList (ByteArray.mk bN.toArray).data.toList = -1 from by decide +kernel]), h2⟩
theorem cmp_bNbC (w : World) : Calls Try.prog 64 #[.string ⟨bN.toArray⟩, .string ⟨bC.toArray⟩] w fun e w' => e = .returned (.int .i64 (1)) ∧ w' = w := (cmp_any _ _ w).mono fun e w' ⟨h1, h2⟩ => ⟨h1.trans (by rw [show Lib.compareBytes (ByteArray.mk bN.toArray).data.toList (ByteArray.mk bC.toArray).data.toList = 1 from by decide +kernel]), h2⟩

set_option maxHeartbeats 1000000 in
set_option maxRecDepth 100000 in
theorem search_bO (w : World) (lb : Nat) (hH : Holds encStr w lb 0 #[bC, bN, bO]) : Calls Try.prog 63 #[.slice (some ⟨lb, 0, none⟩) 3 3, .string ⟨bO.toArray⟩, .func (.func 64) #[] #[]] w fun e w' => e = .returned (.tuple #[.int .i64 2, .bool true]) ∧ w' = w := by
  have c0 : w.cell? ⟨lb, 0, none⟩ = some (.string ⟨bC.toArray⟩) := (hH 0 (by decide)).1
  have c1 : w.cell? ⟨lb, 1, none⟩ = some (.string ⟨bN.toArray⟩) := (hH 1 (by decide)).1
  have c2 : w.cell? ⟨lb, 2, none⟩ = some (.string ⟨bO.toArray⟩) := (hH 2 (by decide)).1
  have m0 : Hid True := trivial
  have m1 : Hid True := trivial
  have m2 : Hid True := trivial
  have eC : ∀ args w, (callFunc 64 args).run Try.prog w = .ok (.enter 64 args) w := enters_of Try.func64 (by kernel_rfl) rfl
  clear hH
  go_enter Try.func63, Try.ntmps63
  go_wp2
  refine wp_loop_rounds 3 ?_
  rw [rounds_succ]
  go_wp2_with (go_at_call 64; have := m0; refine (cmp_bNbO _).mono ?_; rintro e w' ⟨rfl, hw⟩; rw [hw]; clear hw w' m0)
  rw [rounds_succ]
  go_wp2_with (go_at_call 64; have := m1; refine (cmp_bObO _).mono ?_; rintro e w' ⟨rfl, hw⟩; rw [hw]; clear hw w' m1)
  rw [rounds_succ]
  go_wp2_with (go_at_call 64; have := m2; refine (cmp_bObO _).mono ?_; rintro e w' ⟨rfl, hw⟩; rw [hw]; clear hw w' m2)
  go_ret2
  exact ⟨rfl, rfl⟩

set_option maxHeartbeats 1000000 in
set_option maxRecDepth 100000 in
theorem search_bN (w : World) (lb : Nat) (hH : Holds encStr w lb 0 #[bC, bN, bO]) : Calls Try.prog 63 #[.slice (some ⟨lb, 0, none⟩) 3 3, .string ⟨bN.toArray⟩, .func (.func 64) #[] #[]] w fun e w' => e = .returned (.tuple #[.int .i64 1, .bool true]) ∧ w' = w := by
  have c0 : w.cell? ⟨lb, 0, none⟩ = some (.string ⟨bC.toArray⟩) := (hH 0 (by decide)).1
  have c1 : w.cell? ⟨lb, 1, none⟩ = some (.string ⟨bN.toArray⟩) := (hH 1 (by decide)).1
  have c2 : w.cell? ⟨lb, 2, none⟩ = some (.string ⟨bO.toArray⟩) := (hH 2 (by decide)).1
  have m0 : Hid True := trivial
  have m1 : Hid True := trivial
  have m2 : Hid True := trivial
  have eC : ∀ args w, (callFunc 64 args).run Try.prog w = .ok (.enter 64 args) w := enters_of Try.func64 (by kernel_rfl) rfl
  clear hH
  go_enter Try.func63, Try.ntmps63
  go_wp2
  refine wp_loop_rounds 3 ?_
  rw [rounds_succ]
  go_wp2_with (go_at_call 64; have := m0; refine (cmp_bNbN _).mono ?_; rintro e w' ⟨rfl, hw⟩; rw [hw]; clear hw w' m0)
  rw [rounds_succ]
  go_wp2_with (go_at_call 64; have := m1; refine (cmp_bCbN _).mono ?_; rintro e w' ⟨rfl, hw⟩; rw [hw]; clear hw w' m1)
  rw [rounds_succ]
  go_wp2_with (go_at_call 64; have := m2; refine (cmp_bNbN _).mono ?_; rintro e w' ⟨rfl, hw⟩; rw [hw]; clear hw w' m2)
  go_ret2
  exact ⟨rfl, rfl⟩

set_option maxHeartbeats 1000000 in
set_option maxRecDepth 100000 in
theorem search_bC (w : World) (lb : Nat) (hH : Holds encStr w lb 0 #[bC, bN, bO]) : Calls Try.prog 63 #[.slice (some ⟨lb, 0, none⟩) 3 3, .string ⟨bC.toArray⟩, .func (.func 64) #[] #[]] w fun e w' => e = .returned (.tuple #[.int .i64 0, .bool true]) ∧ w' = w := by
  have c0 : w.cell? ⟨lb, 0, none⟩ = some (.string ⟨bC.toArray⟩) := (hH 0 (by decide)).1
  have c1 : w.cell? ⟨lb, 1, none⟩ = some (.string ⟨bN.toArray⟩) := (hH 1 (by decide)).1
  have c2 : w.cell? ⟨lb, 2, none⟩ = some (.string ⟨bO.toArray⟩) := (hH 2 (by decide)).1
  have m0 : Hid True := trivial
  have m1 : Hid True := trivial
  have m2 : Hid True := trivial
  have eC : ∀ args w, (callFunc 64 args).run Try.prog w = .ok (.enter 64 args) w := enters_of Try.func64 (by kernel_rfl) rfl
  clear hH
  go_enter Try.func63, Try.ntmps63
  go_wp2
  refine wp_loop_rounds 3 ?_
  rw [rounds_succ]
  go_wp2_with (go_at_call 64; have := m0; refine (cmp_bNbC _).mono ?_; rintro e w' ⟨rfl, hw⟩; rw [hw]; clear hw w' m0)
  rw [rounds_succ]
  go_wp2_with (go_at_call 64; have := m1; refine (cmp_bCbC _).mono ?_; rintro e w' ⟨rfl, hw⟩; rw [hw]; clear hw w' m1)
  rw [rounds_succ]
  go_wp2_with (go_at_call 64; have := m2; refine (cmp_bCbC _).mono ?_; rintro e w' ⟨rfl, hw⟩; rw [hw]; clear hw w' m2)
  go_ret2
  exact ⟨rfl, rfl⟩
end Go.Proofs.Ytigliglmejkakaa
