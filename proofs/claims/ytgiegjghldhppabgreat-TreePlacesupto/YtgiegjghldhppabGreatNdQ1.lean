/- The sorts of names. -/
import Derived.Deep.RegionHeld
import Derived.Test.YtgiegjghldhppabGreatNdQ
namespace Go.Proofs.YtgiegjghldhppabGreat
open Go.RowKit
set_option linter.unusedVariables false
set_option linter.unusedSimpArgs false

theorem Nd.firstE_right (a : Int) : Nd.firstE a 0 = a := by
  unfold Nd.firstE
  by_cases h : a = 0
  · rw [if_pos h, h]
  · rw [if_neg h]
def Nd.ownN (s : Nat) (nd : Nd) : Int := Nd.own s nd.sc nd.ks
theorem Nd.firstE_left (a : Int) : Nd.firstE 0 a = a := Nd.firstE_zero rfl
theorem follows_mixed : Tryz.prog.follows .mixedOrders = true := by kernel_rfl
theorem sort_tyvar : SortOf 87 Nm.tyvar := ⟨enters_of Tryz.func87 (by kernel_rfl) rfl, fun s w hs => tyvar_any s hs w⟩
theorem sort_lower : SortOf 83 Nm.lower := ⟨enters_of Tryz.func83 (by kernel_rfl) rfl, fun s w hs => lower_any s hs w⟩
theorem sort_upper : SortOf 85 Nm.upper := ⟨enters_of Tryz.func85 (by kernel_rfl) rfl, fun s w hs => upper_any s hs w⟩
end Go.Proofs.YtgiegjghldhppabGreat
