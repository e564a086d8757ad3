/- What spelt and Tyvar come to, and the document's own loops over a name's bytes. -/
import Derived.Test.YtgiegjghldhppabGreatLeaf
namespace Go.Proofs.YtgiegjghldhppabGreat
open Go.RowKit
set_option linter.unusedVariables false

theorem Nm.empty_of {s : ByteArray} (h : s.size = 0) : s = ⟨#[]⟩ := by
  have e : s.data.toList = [] := List.eq_nil_of_length_eq_zero (by rw [Nm.len]; exact h)
  rw [show s = ⟨s.data⟩ from rfl]; congr 1; exact Array.toList_inj.1 e
theorem Nm.not_empty {s : ByteArray} (h : 0 < s.size) : (s.toList == []) = false := by
  rw [beq_eq_false_iff_ne, Lib.toList_data]
  intro e
  have := Nm.len s
  rw [e] at this
  simp at this; omega

set_option maxHeartbeats 1000000 in
theorem spelt_any (s : ByteArray) (hs : s.size ≤ maxLen) (w : World) : Calls Tryz.prog 105 #[.string s] w fun e w' => e = .returned (.bool (Nm.spelt s)) ∧ w' = w := by
  unfold maxLen at hs
  rcases Nat.eq_zero_or_pos s.size with h0 | h0
  · obtain rfl := Nm.empty_of h0
    go_enter Tryz.func105, Tryz.ntmps105
    go_wp2
    go_ret
    exact ⟨rfl, rfl⟩
  · have he := Nm.not_empty h0
    cases hl0 : Nm.letter (s[0].toNat : Int) with
    | false =>
      have H : Hid (Nm.spelt s = false) := Nm.spelt_head h0 hl0
      go_enter Tryz.func105, Tryz.ntmps105
      go_wp2_with (go_at_call 107; refine (letter_any _ _).mono ?_; rintro e w' ⟨rfl, rfl⟩)
      go_ret
      exact ⟨ret_bool H.out.symm, rfl⟩
    | true =>
      have H : Hid (Nm.spelt s = (s.data.toList.drop 1).all fun b => Nm.body (b.toNat : Int)) := by show _ = _; rw [Nm.spelt_eq s h0, hl0]; rfl
      go_enter Tryz.func105, Tryz.ntmps105
      go_wp2_with (go_at_call 107; refine (letter_any _ _).mono ?_; rintro e w' ⟨rfl, rfl⟩)
      go_loop [3] (fun v => ∃ k : Nat, v = .int .i64 k ∧ 1 ≤ k ∧ k ≤ s.size ∧ Hid (Nm.spelt s = (s.data.toList.drop k).all fun b => Nm.body (b.toNat : Int))) (fun v => s.size - (intOf v).toNat)
      case atStart => exact ⟨1, rfl, Nat.le_refl _, h0, H⟩
      case round =>
        obtain ⟨k, rfl, hk1, hk, hx⟩ := hrel
        clear hl0 H
        by_cases hlt : k < s.size
        · have hx2 := hx.out
          rw [Nm.all_at s _ k hlt] at hx2
          have hbd : Nm.body (s[k].toNat : Int) = (Nm.letter (s[k].toNat : Int) || Nm.dig (s[k].toNat : Int) || decide ((s[k].toNat : Int) = 95)) := rfl
          cases hl : Nm.letter (s[k].toNat : Int) with
          | true =>
            have HX : Hid (Nm.spelt s = (s.data.toList.drop (k + 1)).all fun b => Nm.body (b.toNat : Int)) := by show _ = _; rw [hx2, hbd, hl]; simp
            clear hx hx2 hbd
            go_wp2_with (first | (go_at_call 107; refine (letter_any _ _).mono ?_; rintro e w' ⟨rfl, rfl⟩) | (go_at_call 102; refine (digit_any _ _).mono ?_; rintro e w' ⟨rfl, rfl⟩))
            go_round
            case rel => exact ⟨k + 1, by go_num, by omega, by omega, HX⟩
            case measure => simp [intOf]; omega
          | false =>
            cases hd : Nm.dig (s[k].toNat : Int) with
            | true =>
              have HX : Hid (Nm.spelt s = (s.data.toList.drop (k + 1)).all fun b => Nm.body (b.toNat : Int)) := by show _ = _; rw [hx2, hbd, hl, hd]; simp
              clear hx hx2 hbd
              go_wp2_with (first | (go_at_call 107; refine (letter_any _ _).mono ?_; rintro e w' ⟨rfl, rfl⟩) | (go_at_call 102; refine (digit_any _ _).mono ?_; rintro e w' ⟨rfl, rfl⟩))
              go_round
              case rel => exact ⟨k + 1, by go_num, by omega, by omega, HX⟩
              case measure => simp [intOf]; omega
            | false =>
              by_cases h95 : (s[k].toNat : Int) = 95
              · have HX : Hid (Nm.spelt s = (s.data.toList.drop (k + 1)).all fun b => Nm.body (b.toNat : Int)) := by show _ = _; rw [hx2, hbd, hl, hd]; simp [h95]
                have h95' : ((s[k].toNat : Int) == 95) = true := by rw [h95]; rfl
                clear hx hx2 hbd h95
                go_wp2_with (first | (go_at_call 107; refine (letter_any _ _).mono ?_; rintro e w' ⟨rfl, rfl⟩) | (go_at_call 102; refine (digit_any _ _).mono ?_; rintro e w' ⟨rfl, rfl⟩))
                go_round
                case rel => exact ⟨k + 1, by go_num, by omega, by omega, HX⟩
                case measure => simp [intOf]; omega
              · have HX : Hid (Nm.spelt s = false) := by show _ = _; rw [hx2, hbd, hl, hd]; simp [h95]
                have h95' : ((s[k].toNat : Int) == 95) = false := by rw [beq_eq_false_iff_ne]; exact h95
                clear hx hx2 hbd h95
                go_wp2_with (first | (go_at_call 107; refine (letter_any _ _).mono ?_; rintro e w' ⟨rfl, rfl⟩) | (go_at_call 102; refine (digit_any _ _).mono ?_; rintro e w' ⟨rfl, rfl⟩))
                go_ret
                exact ⟨ret_bool HX.out.symm, rfl⟩
        · have HX : Hid (Nm.spelt s = true) := by show _ = _; rw [hx.out, Nm.all_end s _ k (by omega)]
          clear hx
          go_wp2
          go_ret
          exact ⟨ret_bool HX.out.symm, rfl⟩
end Go.Proofs.YtgiegjghldhppabGreat
