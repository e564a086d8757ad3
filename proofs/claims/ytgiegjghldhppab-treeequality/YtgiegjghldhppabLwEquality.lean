/- TreeEquality: the walk. -/
import Derived.Test.YtgiegjghldhppabNdA
namespace Go.Proofs.Ytgiegjghldhppab
open Go.RowKit
set_option linter.unusedVariables false

theorem Nd.eqL_comm (a b : List Nd) : Nd.eqL b a = Nd.eqL a b := by
  rw [Bool.eq_iff_iff, Nd.eqL_true, Nd.eqL_true]
  exact ⟨fun h => h.symm, fun h => h.symm⟩
/-- What Same says of two lists that lie in a world, in every world above it. -/
theorem same_at {w : World} {n m : Nat} {v1 v2 : Value} {xs ys : List Nd} (h1 : AtL w Any n 3 v1 xs) (h2 : AtL w Any m 3 v2 ys) (W : World) (hW : Below w.heap.size w W) :
    Calls Try.prog 6 #[v1, v2] W fun e w' => e = .returned (.bool (Nd.eqL xs ys)) ∧ Below W.heap.size W w' :=
  sameDecs_any (max n m) W v1 v2 xs ys ((h1.le (Nat.le_max_left n m)).below hW) ((h2.le (Nat.le_max_right n m)).below hW)

set_option maxHeartbeats 2000000 in
set_option maxRecDepth 100000 in
theorem equality_walk (w : World) (na nb nc : Nat) (va : Value) (La : List Nd) (ha : AtL w Any na 3 va La) (vb : Value) (Lb : List Nd) (hb : AtL w Any nb 3 vb Lb) (vc : Value) (Lc : List Nd) (hc : AtL w Any nc 3 vc Lc) :
    Calls Try.prog 3 #[va, vb, vc] w fun e w' => e = .returned (.bool true) ∧ Below w.heap.size w w' := by
  have qab : Hid (∀ W, Below w.heap.size w W → _) := fun W hW => same_at ha hb W hW
  have qba : Hid (∀ W, Below w.heap.size w W → _) := fun W hW => same_at hb ha W hW
  have qbc : Hid (∀ W, Below w.heap.size w W → _) := fun W hW => same_at hb hc W hW
  have qac : Hid (∀ W, Below w.heap.size w W → _) := fun W hW => same_at ha hc W hW
  rw [Nd.eqL_comm La Lb] at qba
  clear ha hb hc
  cases h1 : Nd.eqL La Lb with
  | false =>
    rw [h1] at qab qba
    go_enter Try.func3, Try.ntmps3
    go_wp2_with (first
      | (go_at_call 7; refine (alive_any _).mono ?_; rintro e w6 ⟨rfl, hb6⟩; have B6 := bl_tr B3 hb6)
      | (go_at_call 6; have _ := m2; refine (qab.out _ B2).mono ?_; rintro e w3 ⟨rfl, hb3⟩; have m3 := True.intro; have B3 := bl_tr B2 hb3; clear m2 hb3)
      | (go_at_call 6; have _ := m1; refine (qba.out _ B1).mono ?_; rintro e w2 ⟨rfl, hb2⟩; have m2 := True.intro; have B2 := bl_tr B1 hb2; clear m1 hb2)
      | (go_at_call 6; refine (qab.out _ (Below.refl _ _)).mono ?_; rintro e w1 ⟨rfl, B1⟩; have m1 := True.intro))
    go_ret
    exact ⟨rfl, B6⟩
  | true =>
    rw [h1] at qab qba
    have e1 := Nd.eqL_true.1 h1
    cases h2 : Nd.eqL Lb Lc with
    | false =>
      rw [h2] at qbc
      clear e1 h1 h2
      go_enter Try.func3, Try.ntmps3
      go_wp2_with (first
        | (go_at_call 7; refine (alive_any _).mono ?_; rintro e w6 ⟨rfl, hb6⟩; have B6 := bl_tr B4 hb6)
        | (go_at_call 6; have _ := m3; refine (qbc.out _ B3).mono ?_; rintro e w4 ⟨rfl, hb4⟩; have B4 := bl_tr B3 hb4; clear m3 hb4)
        | (go_at_call 6; have _ := m2; refine (qab.out _ B2).mono ?_; rintro e w3 ⟨rfl, hb3⟩; have m3 := True.intro; have B3 := bl_tr B2 hb3; clear m2 hb3)
        | (go_at_call 6; have _ := m1; refine (qba.out _ B1).mono ?_; rintro e w2 ⟨rfl, hb2⟩; have m2 := True.intro; have B2 := bl_tr B1 hb2; clear m1 hb2)
        | (go_at_call 6; refine (qab.out _ (Below.refl _ _)).mono ?_; rintro e w1 ⟨rfl, B1⟩; have m1 := True.intro))
      go_ret
      exact ⟨rfl, B6⟩
    | true =>
      have e2 := Nd.eqL_true.1 h2
      have h3 : Nd.eqL La Lc = true := Nd.eqL_true.2 (e1.trans e2)
      rw [h2] at qbc
      rw [h3] at qac
      clear e1 e2 h1 h2 h3
      go_enter Try.func3, Try.ntmps3
      go_wp2_with (first
        | (go_at_call 7; refine (alive_any _).mono ?_; rintro e w6 ⟨rfl, hb6⟩; have B6 := bl_tr B5 hb6)
        | (go_at_call 6; have _ := m4; refine (qac.out _ B4).mono ?_; rintro e w5 ⟨rfl, hb5⟩; have B5 := bl_tr B4 hb5; clear m4 hb5)
        | (go_at_call 6; have _ := m3; refine (qbc.out _ B3).mono ?_; rintro e w4 ⟨rfl, hb4⟩; have m4 := True.intro; have B4 := bl_tr B3 hb4; clear m3 hb4)
        | (go_at_call 6; have _ := m2; refine (qab.out _ B2).mono ?_; rintro e w3 ⟨rfl, hb3⟩; have m3 := True.intro; have B3 := bl_tr B2 hb3; clear m2 hb3)
        | (go_at_call 6; have _ := m1; refine (qba.out _ B1).mono ?_; rintro e w2 ⟨rfl, hb2⟩; have m2 := True.intro; have B2 := bl_tr B1 hb2; clear m1 hb2)
        | (go_at_call 6; refine (qab.out _ (Below.refl _ _)).mono ?_; rintro e w1 ⟨rfl, B1⟩; have m1 := True.intro))
      go_ret
      exact ⟨rfl, B6⟩
end Go.Proofs.Ytgiegjghldhppab
