/- Right of two lists one behind the other. -/
import Derived.Test.YtgiegjghldhppabNdU
import Derived.Test.YtgiegjghldhppabNdK
namespace Go.Proofs.Ytgiegjghldhppab
open Go.RowKit
set_option linter.unusedVariables false

theorem Nd.meter_one {x : Nd} (h : x.cnt ≤ 4194304) : (Nd.meter [x]).d = (x.dep : Int) := by
  have h1 : Nd.cntL [x] ≤ 4194304 := by rw [Nd.cntL, Nd.cntL]; omega
  rw [Nd.meter_eq h1]
  show ((Nd.depL [x] : Nat) : Int) = _
  rw [Nd.depL, Nd.depL]; omega
theorem Nd.deepAt_none : ∀ (l : List Nd) (k : Nat), Nd.cntL l ≤ 4194304 → Nd.depL l ≤ 100 → Nd.deepAt k l = none
  | [], k, _, _ => rfl
  | x :: r, k, h1, h2 => by
    rw [Nd.cntL] at h1
    rw [Nd.depL] at h2
    rw [Nd.deepAt, Nd.meter_one (by omega), if_neg (by omega)]
    exact Nd.deepAt_none r (k + 1) (by omega) (by omega)
theorem Nd.deepAt_some : ∀ (l : List Nd) (k : Nat), Nd.cntL l ≤ 4194304 → 100 < Nd.depL l → ∃ j, Nd.deepAt k l = some j
  | [], k, _, h => by rw [Nd.depL] at h; omega
  | x :: r, k, h1, h2 => by
    rw [Nd.cntL] at h1
    rw [Nd.depL] at h2
    rw [Nd.deepAt, Nd.meter_one (by omega)]
    by_cases hx : 100 < x.dep
    · exact ⟨k, by rw [if_pos (by omega)]⟩
    · rw [if_neg (by omega)]
      exact Nd.deepAt_some r (k + 1) (by omega) (by omega)
theorem Nd.errAt_append_err : ∀ (a b : List Nd) (k : Nat), (Nd.errAt k a).2 ≠ 0 → Nd.errAt k (a ++ b) = Nd.errAt k a
  | [], b, k, h => absurd rfl h
  | x :: r, b, k, h => by
    rw [Nd.errAt] at h
    rw [List.cons_append, Nd.errAt, Nd.errAt]
    by_cases hx : Nd.err 3 x = 0
    · rw [if_pos hx] at h
      rw [if_pos hx, if_pos hx]
      exact Nd.errAt_append_err r b (k + 1) h
    · rw [if_neg hx, if_neg hx]
theorem Nd.errAt_append_ok : ∀ (a b : List Nd) (k : Nat), (Nd.errAt k a).2 = 0 → Nd.errAt k (a ++ b) = Nd.errAt (k + a.length) b
  | [], b, k, h => rfl
  | x :: r, b, k, h => by
    rw [Nd.errAt] at h
    rw [List.cons_append, Nd.errAt]
    by_cases hx : Nd.err 3 x = 0
    · rw [if_pos hx] at h
      rw [if_pos hx, Nd.errAt_append_ok r b (k + 1) h, List.length_cons]
      congr 1
      omega
    · rw [if_neg hx] at h
      exact absurd h hx
theorem Nd.errAt_shift : ∀ (b : List Nd) (k j : Nat), (Nd.errAt (k + j) b).2 = (Nd.errAt j b).2 ∧ ((Nd.errAt j b).2 ≠ 0 → (Nd.errAt (k + j) b).1 = (Nd.errAt j b).1 + k)
  | [], k, j => ⟨rfl, fun h => absurd rfl h⟩
  | x :: r, k, j => by
    rw [Nd.errAt, Nd.errAt]
    by_cases hx : Nd.err 3 x = 0
    · rw [if_pos hx, if_pos hx, Nat.add_assoc]
      exact Nd.errAt_shift r k (j + 1)
    · rw [if_neg hx, if_neg hx]
      exact ⟨rfl, fun _ => by show ((k + j : Nat) : Int) = (j : Int) + (k : Int); omega⟩
/-- Neither too deep nor too big: what Right is. -/
theorem Nd.rightL_small {l : List Nd} (h1 : Nd.cntL l ≤ 4096) (h2 : Nd.depL l ≤ 100) : Nd.rightL l = Nd.errAt 0 l := by
  refine Nd.rightL_err (Nd.deepAt_none l 0 (by omega) h2) ?_
  rw [Nd.meter_eq (by omega)]
  show ¬ (4096 : Int) < (Nd.cntL l : Int)
  omega
theorem Nd.rightL_deep2 {l : List Nd} (h1 : Nd.cntL l ≤ 4194304) (h2 : 100 < Nd.depL l) : (Nd.rightL l).2 = 4 := by
  obtain ⟨j, hj⟩ := Nd.deepAt_some l 0 h1 h2
  rw [Nd.rightL_deep hj]
theorem Nd.rightL_big2 {l : List Nd} (h1 : Nd.cntL l ≤ 4194304) (h2 : Nd.depL l ≤ 100) (h3 : 4096 < Nd.cntL l) : (Nd.rightL l).2 = 3 := by
  rw [Nd.rightL_big (Nd.deepAt_none l 0 h1 h2)]
  rw [Nd.meter_eq h1]
  show (4096 : Int) < (Nd.cntL l : Int)
  omega
end Go.Proofs.Ytgiegjghldhppab
