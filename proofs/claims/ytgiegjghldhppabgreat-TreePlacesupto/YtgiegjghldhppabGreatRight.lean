/- What Right, Lower and Upper come to. -/
import Derived.Test.YtgiegjghldhppabGreatSpelt
import Derived.Test.YtgiegjghldhppabGreatReserved
namespace Go.Proofs.YtgiegjghldhppabGreat
open Go.RowKit
set_option linter.unusedVariables false

theorem Nm.right_spelt {s : ByteArray} (h : Nm.spelt s = false) : Nm.right s = 12 := by unfold Nm.right; rw [if_pos h]
theorem Nm.right_big {s : ByteArray} (h : Nm.spelt s = true) (hb : 32 < s.size) : Nm.right s = 3 := by unfold Nm.right; rw [if_neg (by simp [h]), if_pos hb]
theorem Nm.right_word {s : ByteArray} (h : Nm.spelt s = true) (hb : ¬ 32 < s.size) (hr : Nm.reserved s = true) : Nm.right s = 12 := by unfold Nm.right; rw [if_neg (by simp [h]), if_neg hb, if_pos hr]
theorem Nm.right_ok {s : ByteArray} (h : Nm.spelt s = true) (hb : ¬ 32 < s.size) (hr : Nm.reserved s = false) : Nm.right s = 0 := by unfold Nm.right; rw [if_neg (by simp [h]), if_neg hb, if_neg (by simp [hr])]
theorem Nm.right_zero {s : ByteArray} (h : Nm.right s = 0) : Nm.spelt s = true ∧ s.size ≤ 32 ∧ Nm.reserved s = false := by
  cases h1 : Nm.spelt s with
  | false => rw [Nm.right_spelt h1] at h; omega
  | true =>
    by_cases h2 : 32 < s.size
    · rw [Nm.right_big h1 h2] at h; omega
    · cases h3 : Nm.reserved s with
      | true => rw [Nm.right_word h1 h2 h3] at h; omega
      | false => exact ⟨rfl, by omega, rfl⟩

theorem right_any (s : ByteArray) (hs : s.size ≤ maxLen) (w : World) : Calls Tryz.prog 99 #[.string s] w fun e w' => e = .returned (.int .i64 (Nm.right s)) ∧ w' = w := by
  have hs' := hs
  unfold maxLen at hs'
  cases h1 : Nm.spelt s with
  | false =>
    have H : Hid (Nm.right s = 12) := Nm.right_spelt h1
    go_enter Tryz.func99, Tryz.ntmps99
    go_wp2_with (go_at_call 105; refine (spelt_any _ hs _).mono ?_; rintro e w' ⟨rfl, rfl⟩)
    go_ret
    exact ⟨ret_int H.out.symm, rfl⟩
  | true =>
    by_cases h2 : 32 < s.size
    · have H : Hid (Nm.right s = 3) := Nm.right_big h1 h2
      go_enter Tryz.func99, Tryz.ntmps99
      go_wp2_with (go_at_call 105; refine (spelt_any _ hs _).mono ?_; rintro e w' ⟨rfl, rfl⟩)
      go_ret
      exact ⟨ret_int H.out.symm, rfl⟩
    · cases h3 : Nm.reserved s with
      | true =>
        have H : Hid (Nm.right s = 12) := Nm.right_word h1 h2 h3
        go_enter Tryz.func99, Tryz.ntmps99
        go_wp2_with (first | (go_at_call 105; refine (spelt_any _ hs _).mono ?_; rintro e w' ⟨rfl, rfl⟩) | (go_at_call 106; refine (reserved_any _ _).mono ?_; rintro e w' ⟨rfl, rfl⟩))
        go_ret
        exact ⟨ret_int H.out.symm, rfl⟩
      | false =>
        have H : Hid (Nm.right s = 0) := Nm.right_ok h1 h2 h3
        go_enter Tryz.func99, Tryz.ntmps99
        go_wp2_with (first | (go_at_call 105; refine (spelt_any _ hs _).mono ?_; rintro e w' ⟨rfl, rfl⟩) | (go_at_call 106; refine (reserved_any _ _).mono ?_; rintro e w' ⟨rfl, rfl⟩))
        go_ret
        exact ⟨ret_int H.out.symm, rfl⟩

theorem lower_any (s : ByteArray) (hs : s.size ≤ maxLen) (w : World) : Calls Tryz.prog 83 #[.string s] w fun e w' => e = .returned (.bool (Nm.lower s)) ∧ w' = w := by
  by_cases h : Nm.right s = 0
  · have h0 := Nm.spelt_pos (Nm.right_zero h).1
    have hs' := hs
    unfold maxLen at hs'
    have H : Hid (Nm.lower s = Nm.low (s[0].toNat : Int)) := by show _ = _; unfold Nm.lower; rw [Nm.head_eq s h0, decide_eq_true h]; rfl
    have hr : (Nm.right s == 0) = true := by rw [h]; rfl
    clear h
    go_enter Tryz.func83, Tryz.ntmps83
    go_wp2_with (first | (go_at_call 99; refine (right_any _ hs _).mono ?_; rintro e w' ⟨rfl, rfl⟩) | (go_at_call 100; refine (small_any _ _).mono ?_; rintro e w' ⟨rfl, rfl⟩))
    go_ret
    exact ⟨ret_bool H.out.symm, rfl⟩
  · have H : Hid (Nm.lower s = false) := by show _ = _; unfold Nm.lower; rw [decide_eq_false h]; rfl
    have hr : (Nm.right s == 0) = false := by rw [beq_eq_false_iff_ne]; exact h
    clear h
    go_enter Tryz.func83, Tryz.ntmps83
    go_wp2_with (first | (go_at_call 99; refine (right_any _ hs _).mono ?_; rintro e w' ⟨rfl, rfl⟩) | (go_at_call 100; refine (small_any _ _).mono ?_; rintro e w' ⟨rfl, rfl⟩))
    go_ret
    exact ⟨ret_bool H.out.symm, rfl⟩

theorem upper_any (s : ByteArray) (hs : s.size ≤ maxLen) (w : World) : Calls Tryz.prog 85 #[.string s] w fun e w' => e = .returned (.bool (Nm.upper s)) ∧ w' = w := by
  by_cases h : Nm.right s = 0
  · have h0 := Nm.spelt_pos (Nm.right_zero h).1
    have hs' := hs
    unfold maxLen at hs'
    have H : Hid (Nm.upper s = Nm.high (s[0].toNat : Int)) := by show _ = _; unfold Nm.upper; rw [Nm.head_eq s h0, decide_eq_true h]; rfl
    have hr : (Nm.right s == 0) = true := by rw [h]; rfl
    clear h
    go_enter Tryz.func85, Tryz.ntmps85
    go_wp2_with (first | (go_at_call 99; refine (right_any _ hs _).mono ?_; rintro e w' ⟨rfl, rfl⟩) | (go_at_call 101; refine (capital_any _ _).mono ?_; rintro e w' ⟨rfl, rfl⟩))
    go_ret
    exact ⟨ret_bool H.out.symm, rfl⟩
  · have H : Hid (Nm.upper s = false) := by show _ = _; unfold Nm.upper; rw [decide_eq_false h]; rfl
    have hr : (Nm.right s == 0) = false := by rw [beq_eq_false_iff_ne]; exact h
    clear h
    go_enter Tryz.func85, Tryz.ntmps85
    go_wp2_with (first | (go_at_call 99; refine (right_any _ hs _).mono ?_; rintro e w' ⟨rfl, rfl⟩) | (go_at_call 101; refine (capital_any _ _).mono ?_; rintro e w' ⟨rfl, rfl⟩))
    go_ret
    exact ⟨ret_bool H.out.symm, rfl⟩

end Go.Proofs.YtgiegjghldhppabGreat
