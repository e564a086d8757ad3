/- What Tyvar comes to. -/
import Derived.Test.YtgiegjghldhppabGreatSpelt
namespace Go.Proofs.YtgiegjghldhppabGreat
open Go.RowKit
set_option linter.unusedVariables false

set_option maxHeartbeats 1000000 in
theorem tyvar_any (s : ByteArray) (hs : s.size ≤ maxLen) (w : World) : Calls Tryz.prog 87 #[.string s] w fun e w' => e = .returned (.bool (Nm.tyvar s)) ∧ w' = w := by
  unfold maxLen at hs
  rcases Nat.eq_zero_or_pos s.size with h0 | h0
  · obtain rfl := Nm.empty_of h0
    go_enter Tryz.func87, Tryz.ntmps87
    go_wp2
    go_ret
    exact ⟨rfl, rfl⟩
  · have he := Nm.not_empty h0
    by_cases h31 : 31 < s.size
    · have H : Hid (Nm.tyvar s = false) := by show _ = _; rw [Nm.tyvar_eq s h0, decide_eq_false (by omega)]; rfl
      go_enter Tryz.func87, Tryz.ntmps87
      go_wp2
      go_ret
      exact ⟨ret_bool H.out.symm, rfl⟩
    cases hl0 : Nm.low (s[0].toNat : Int) with
    | false =>
      have H : Hid (Nm.tyvar s = false) := by show _ = _; rw [Nm.tyvar_eq s h0, hl0]; simp
      go_enter Tryz.func87, Tryz.ntmps87
      go_wp2_with (first | (go_at_call 100; refine (small_any _ _).mono ?_; rintro e w' ⟨rfl, rfl⟩) | (go_at_call 102; refine (digit_any _ _).mono ?_; rintro e w' ⟨rfl, rfl⟩))
      go_ret
      exact ⟨ret_bool H.out.symm, rfl⟩
    | true =>
      have H : Hid (Nm.tyvar s = (s.data.toList.drop 1).all fun b => Nm.low (b.toNat : Int) || Nm.dig (b.toNat : Int)) := by show _ = _; rw [Nm.tyvar_eq s h0, hl0, decide_eq_true (by omega)]; rfl
      go_enter Tryz.func87, Tryz.ntmps87
      go_wp2_with (first | (go_at_call 100; refine (small_any _ _).mono ?_; rintro e w' ⟨rfl, rfl⟩) | (go_at_call 102; refine (digit_any _ _).mono ?_; rintro e w' ⟨rfl, rfl⟩))
      go_loop [3] (fun v => ∃ k : Nat, v = .int .i64 k ∧ 1 ≤ k ∧ k ≤ s.size ∧ Hid (Nm.tyvar s = (s.data.toList.drop k).all fun b => Nm.low (b.toNat : Int) || Nm.dig (b.toNat : Int))) (fun v => s.size - (intOf v).toNat)
      case atStart => exact ⟨1, rfl, Nat.le_refl _, h0, H⟩
      case round =>
        obtain ⟨k, rfl, hk1, hk, hx⟩ := hrel
        clear hl0 H
        by_cases hlt : k < s.size
        · have hx2 := hx.out
          rw [Nm.all_at s _ k hlt] at hx2
          cases hl : Nm.low (s[k].toNat : Int) with
          | true =>
            have HX : Hid (Nm.tyvar s = (s.data.toList.drop (k + 1)).all fun b => Nm.low (b.toNat : Int) || Nm.dig (b.toNat : Int)) := by show _ = _; rw [hx2, hl]; simp
            clear hx hx2
            go_wp2_with (first | (go_at_call 100; refine (small_any _ _).mono ?_; rintro e w' ⟨rfl, rfl⟩) | (go_at_call 102; refine (digit_any _ _).mono ?_; rintro e w' ⟨rfl, rfl⟩))
            go_round
            case rel => exact ⟨k + 1, by go_num, by omega, by omega, HX⟩
            case measure => simp [intOf]; omega
          | false =>
            cases hd : Nm.dig (s[k].toNat : Int) with
            | true =>
              have HX : Hid (Nm.tyvar s = (s.data.toList.drop (k + 1)).all fun b => Nm.low (b.toNat : Int) || Nm.dig (b.toNat : Int)) := by show _ = _; rw [hx2, hl, hd]; simp
              clear hx hx2
              go_wp2_with (first | (go_at_call 100; refine (small_any _ _).mono ?_; rintro e w' ⟨rfl, rfl⟩) | (go_at_call 102; refine (digit_any _ _).mono ?_; rintro e w' ⟨rfl, rfl⟩))
              go_round
              case rel => exact ⟨k + 1, by go_num, by omega, by omega, HX⟩
              case measure => simp [intOf]; omega
            | false =>
              have HX : Hid (Nm.tyvar s = false) := by show _ = _; rw [hx2, hl, hd]; simp
              clear hx hx2
              go_wp2_with (first | (go_at_call 100; refine (small_any _ _).mono ?_; rintro e w' ⟨rfl, rfl⟩) | (go_at_call 102; refine (digit_any _ _).mono ?_; rintro e w' ⟨rfl, rfl⟩))
              go_ret
              exact ⟨ret_bool HX.out.symm, rfl⟩
        · have HX : Hid (Nm.tyvar s = true) := by show _ = _; rw [hx.out, Nm.all_end s _ k (by omega)]
          clear hx
          go_wp2
          go_ret
          exact ⟨ret_bool HX.out.symm, rfl⟩
end Go.Proofs.YtgiegjghldhppabGreat
