/- What the program's small functions on bytes come to: small, blank, within, mark, begin. -/
import Derived.WalkKit
import Derived.WalkSpells
import Derived.Lib.Walk
import Derived.Lib.Strings
import Derived.Lib.Bytealg
import Derived.Deep.QuietTactic
import Derived.BigQuiet
import Derived.Test.YtfjcnncpmhfbnaaDoorProg
import Derived.Test.YtfjcnncpmhfbnaaDoorLexB
namespace Go.Proofs.YtfjcnncpmhfbnaaDoor
open Go.RowKit
set_option linter.unusedVariables false

theorem lxSmall_any (c : Int) (w : World) : Calls Tryd.prog 46 #[.int .u8 c] w fun e w' => e = .returned (.bool (Nm.low c)) ∧ w' = w := by
  go_enter Tryd.func46, Tryd.ntmps46
  go_wp2
  all_goals go_ret
  all_goals refine ⟨ret_bool ?_, rfl⟩
  all_goals (unfold Nm.low; first | (simp [*]; done) | (simp; omega))

theorem lxBlank_any (c : Int) (w : World) : Calls Tryd.prog 25 #[.int .u8 c] w fun e w' => e = .returned (.bool (Lx.blank c)) ∧ w' = w := by
  go_enter Tryd.func25, Tryd.ntmps25
  go_wp2
  all_goals go_ret
  all_goals refine ⟨ret_bool ?_, rfl⟩
  all_goals (unfold Lx.blank; first | (simp [*]; done) | (simp_all; done))

def Lx.bits (c : Int) : Int := if Nm.dig c = true then 54 else if Nm.low c = true then 38 else if Nm.body c = true then 6 else 0

theorem lxWithin_any (c : Int) (w : World) : Calls Tryd.prog 29 #[.int .u8 c] w fun e w' => e = .returned (.int .i64 (Lx.bits c)) ∧ w' = w := by
  cases hd : Nm.dig c with
  | true =>
    have h1 : 48 ≤ c ∧ c ≤ 57 := by unfold Nm.dig at hd; simpa using hd
    have H : Hid (Lx.bits c = 54) := by show _ = _; unfold Lx.bits; rw [hd]; rfl
    go_enter Tryd.func29, Tryd.ntmps29
    go_wp2_with (go_at_call 46; refine (lxSmall_any _ _).mono ?_; rintro e w' ⟨rfl, rfl⟩)
    all_goals go_ret
    all_goals exact ⟨ret_int H.out.symm, rfl⟩
  | false =>
    have h1 : ¬ (48 ≤ c ∧ c ≤ 57) := by unfold Nm.dig at hd; simpa using hd
    cases hl : Nm.low c with
    | true =>
      have H : Hid (Lx.bits c = 38) := by show _ = _; unfold Lx.bits; rw [hd, hl]; rfl
      go_enter Tryd.func29, Tryd.ntmps29
      go_wp2_with (go_at_call 46; refine (lxSmall_any _ _).mono ?_; rintro e w' ⟨rfl, rfl⟩)
      all_goals go_ret
      all_goals exact ⟨ret_int H.out.symm, rfl⟩
    | false =>
      cases hh : Nm.high c with
      | true =>
        have h2 : 65 ≤ c ∧ c ≤ 90 := by unfold Nm.high at hh; simpa using hh
        have H : Hid (Lx.bits c = 6) := by show _ = _; unfold Lx.bits; rw [hd, hl]; unfold Nm.body Nm.letter; rw [hd, hl, hh]; rfl
        go_enter Tryd.func29, Tryd.ntmps29
        go_wp2_with (go_at_call 46; refine (lxSmall_any _ _).mono ?_; rintro e w' ⟨rfl, rfl⟩)
        all_goals go_ret
        all_goals exact ⟨ret_int H.out.symm, rfl⟩
      | false =>
        have h2 : ¬ (65 ≤ c ∧ c ≤ 90) := by unfold Nm.high at hh; simpa using hh
        by_cases h3 : c = 95
        · have H : Hid (Lx.bits c = 6) := by show _ = _; unfold Lx.bits; rw [hd, hl]; unfold Nm.body Nm.letter; rw [hd, hl, hh]; simp [h3]
          go_enter Tryd.func29, Tryd.ntmps29
          go_wp2_with (go_at_call 46; refine (lxSmall_any _ _).mono ?_; rintro e w' ⟨rfl, rfl⟩)
          all_goals go_ret
          all_goals exact ⟨ret_int H.out.symm, rfl⟩
        · have H : Hid (Lx.bits c = 0) := by show _ = _; unfold Lx.bits; rw [hd, hl]; unfold Nm.body Nm.letter; rw [hd, hl, hh]; simp [h3]
          go_enter Tryd.func29, Tryd.ntmps29
          go_wp2_with (go_at_call 46; refine (lxSmall_any _ _).mono ?_; rintro e w' ⟨rfl, rfl⟩)
          all_goals go_ret
          all_goals exact ⟨ret_int H.out.symm, rfl⟩

theorem lxMark_any (s : ByteArray) (h0 : 0 < s.size) (w : World) : Calls Tryd.prog 47 #[.string s] w fun e w' => e = .returned (.int .i64 (Lx.markI (Lx.b s 0) (Lx.b s 1))) ∧ w' = w := by
  have hb := Lx.b_lt h0
  by_cases h1 : 1 < s.size
  · have hb1 := Lx.b_lt h1
    generalize Lx.b s 0 = c at *
    generalize Lx.b s 1 = d at *
    go_enter Tryd.func47, Tryd.ntmps47
    go_wp2
    all_goals go_ret
    all_goals (refine ⟨ret_int ?_, rfl⟩; unfold Lx.markI; simp_all)
  · rw [Lx.b_ge h1]
    generalize Lx.b s 0 = c at *
    go_enter Tryd.func47, Tryd.ntmps47
    go_wp2
    all_goals go_ret
    all_goals (refine ⟨ret_int ?_, rfl⟩; unfold Lx.markI; simp_all)

theorem ret_two {a b c d : Int} (h : a = c) (h2 : b = d) : Ending.returned (.tuple #[.int .i64 a, .int .i64 b]) = .returned (.tuple #[.int .i64 c, .int .i64 d]) := by rw [h, h2]

set_option maxHeartbeats 1000000 in
theorem lxBegin_any (s : ByteArray) (h0 : 0 < s.size) (w : World) : Calls Tryd.prog 28 #[.string s] w fun e w' => e = .returned (.tuple #[.int .i64 (Lx.beginI (Lx.b s 0) (Lx.b s 1)).1, .int .i64 (Lx.beginI (Lx.b s 0) (Lx.b s 1)).2]) ∧ w' = w := by
  have hb := Lx.b_lt h0
  cases hl : Nm.low (Lx.b s 0) with
  | true =>
    have H : Hid (Lx.beginI (Lx.b s 0) (Lx.b s 1) = (1, 1)) := by show _ = _; unfold Lx.beginI; rw [if_pos hl]
    go_enter Tryd.func28, Tryd.ntmps28
    go_wp2_with (first | (go_at_call 46; refine (lxSmall_any _ _).mono ?_; rintro e w' ⟨rfl, rfl⟩))
    go_ret2
    exact ⟨by rw [H.out]; rfl, rfl⟩
  | false =>
    cases hh : Nm.high (Lx.b s 0) with
    | true =>
      have H : Hid (Lx.beginI (Lx.b s 0) (Lx.b s 1) = (2, 1)) := by show _ = _; unfold Lx.beginI; rw [if_neg (by rw [hl]; simp), if_pos hh]
      have h1 : 65 ≤ Lx.b s 0 ∧ Lx.b s 0 ≤ 90 := by unfold Nm.high at hh; simpa using hh
      go_enter Tryd.func28, Tryd.ntmps28
      go_wp2_with (first | (go_at_call 46; refine (lxSmall_any _ _).mono ?_; rintro e w' ⟨rfl, rfl⟩))
      all_goals go_ret2
      all_goals exact ⟨by rw [H.out]; rfl, rfl⟩
    | false =>
      have h1 : ¬ (65 ≤ Lx.b s 0 ∧ Lx.b s 0 ≤ 90) := by unfold Nm.high at hh; simpa using hh
      cases hd : Nm.dig (Lx.b s 0) with
      | true =>
        have H : Hid (Lx.beginI (Lx.b s 0) (Lx.b s 1) = (4, 1)) := by show _ = _; unfold Lx.beginI; rw [if_neg (by rw [hl]; simp), if_neg (by rw [hh]; simp), if_pos hd]
        have h2 : 48 ≤ Lx.b s 0 ∧ Lx.b s 0 ≤ 57 := by unfold Nm.dig at hd; simpa using hd
        go_enter Tryd.func28, Tryd.ntmps28
        go_wp2_with (first | (go_at_call 46; refine (lxSmall_any _ _).mono ?_; rintro e w' ⟨rfl, rfl⟩))
        all_goals go_ret2
        all_goals exact ⟨by rw [H.out]; rfl, rfl⟩
      | false =>
        have h2 : ¬ (48 ≤ Lx.b s 0 ∧ Lx.b s 0 ≤ 57) := by unfold Nm.dig at hd; simpa using hd
        have H0 : Lx.beginI (Lx.b s 0) (Lx.b s 1) = if Lx.b s 0 = 39 ∧ Nm.low (Lx.b s 1) = true then (5, 2) else if Lx.markI (Lx.b s 0) (Lx.b s 1) = 0 then (0, 0) else (6, Lx.markI (Lx.b s 0) (Lx.b s 1)) := by
          unfold Lx.beginI; rw [if_neg (by rw [hl]; simp), if_neg (by rw [hh]; simp), if_neg (by rw [hd]; simp)]
        by_cases hq : Lx.b s 0 = 39 ∧ Nm.low (Lx.b s 1) = true
        · have H : Hid (Lx.beginI (Lx.b s 0) (Lx.b s 1) = (5, 2)) := by show _ = _; rw [H0, if_pos hq]
          have hs1 : 1 < s.size := by
            rcases Nat.lt_or_ge 1 s.size with h | h
            · exact h
            · have := hq.2; rw [Lx.b_ge (by omega)] at this; cases this
          have hb1 := Lx.b_lt hs1
          obtain ⟨hq1, hq2⟩ := hq
          clear H0
          go_enter Tryd.func28, Tryd.ntmps28
          go_wp2_with (first | (go_at_call 46; refine (lxSmall_any _ _).mono ?_; rintro e w' ⟨rfl, rfl⟩))
          all_goals go_ret2
          all_goals exact ⟨by rw [H.out]; rfl, rfl⟩
        · rw [if_neg hq] at H0
          by_cases hm : Lx.markI (Lx.b s 0) (Lx.b s 1) = 0
          · have H : Hid (Lx.beginI (Lx.b s 0) (Lx.b s 1) = (0, 0)) := by show _ = _; rw [H0, if_pos hm]
            clear H0
            by_cases hs1 : 1 < s.size
            · have hb1 := Lx.b_lt hs1
              cases hl1 : Nm.low (Lx.b s 1) with
              | true =>
                have hq1 : ¬ Lx.b s 0 = 39 := fun h => hq ⟨h, hl1⟩
                clear hq
                go_enter Tryd.func28, Tryd.ntmps28
                go_wp2_with (first | (go_at_call 46; refine (lxSmall_any _ _).mono ?_; rintro e w' ⟨rfl, rfl⟩) | (go_at_call 47; refine (lxMark_any _ h0 _).mono ?_; rintro e w' ⟨rfl, rfl⟩))
                all_goals go_ret2
                all_goals exact ⟨by rw [H.out]; rfl, rfl⟩
              | false =>
                clear hq
                go_enter Tryd.func28, Tryd.ntmps28
                go_wp2_with (first | (go_at_call 46; refine (lxSmall_any _ _).mono ?_; rintro e w' ⟨rfl, rfl⟩) | (go_at_call 47; refine (lxMark_any _ h0 _).mono ?_; rintro e w' ⟨rfl, rfl⟩))
                all_goals go_ret2
                all_goals exact ⟨by rw [H.out]; rfl, rfl⟩
            · clear hq
              go_enter Tryd.func28, Tryd.ntmps28
              go_wp2_with (first | (go_at_call 46; refine (lxSmall_any _ _).mono ?_; rintro e w' ⟨rfl, rfl⟩) | (go_at_call 47; refine (lxMark_any _ h0 _).mono ?_; rintro e w' ⟨rfl, rfl⟩))
              all_goals go_ret2
              all_goals exact ⟨by rw [H.out]; rfl, rfl⟩
          · have H : Hid (Lx.beginI (Lx.b s 0) (Lx.b s 1) = (6, Lx.markI (Lx.b s 0) (Lx.b s 1))) := by show _ = _; rw [H0, if_neg hm]
            clear H0
            have hm2 : (0 : Int) < (Lx.markI (Lx.b s 0) (Lx.b s 1) : Int) := by omega
            have hq1 : ¬ Lx.b s 0 = 39 := fun h => hm (by rw [h]; unfold Lx.markI; simp)
            clear hm hq
            go_enter Tryd.func28, Tryd.ntmps28
            go_wp2_with (first | (go_at_call 46; refine (lxSmall_any _ _).mono ?_; rintro e w' ⟨rfl, rfl⟩) | (go_at_call 47; refine (lxMark_any _ h0 _).mono ?_; rintro e w' ⟨rfl, rfl⟩))
            all_goals go_ret2
            all_goals exact ⟨by rw [H.out]; rfl, rfl⟩
end Go.Proofs.YtfjcnncpmhfbnaaDoor
