/- Plain mathematics of the order of texts. -/
import Derived.Lib.Bytealg
import Derived.Below
namespace Go.Proofs.YtcccmbiocknknaaDoor
open Go.Lib
set_option linter.unusedVariables false

theorem Nm.cmp_refl : ∀ x : List UInt8, compareBytes x x = 0
  | [] => rfl
  | a :: as => by
    rw [compareBytes, if_neg (UInt8.lt_irrefl a), if_neg (UInt8.lt_irrefl a)]
    exact Nm.cmp_refl as
theorem Nm.u8_eq {a b : UInt8} (h1 : ¬ a < b) (h2 : ¬ b < a) : a = b := UInt8.le_antisymm (UInt8.not_lt.1 h2) (UInt8.not_lt.1 h1)
theorem Nm.cmp_eq : ∀ {x y : List UInt8}, compareBytes x y = 0 → x = y
  | [], [], _ => rfl
  | [], _ :: _, h => by simp [compareBytes] at h
  | _ :: _, [], h => by simp [compareBytes] at h
  | a :: as, b :: bs, h => by
    rw [compareBytes] at h
    split at h
    · simp at h
    · split at h
      · simp at h
      · rename_i h1 h2
        rw [Nm.u8_eq h1 h2, Nm.cmp_eq h]
theorem Nm.cmp_swap : ∀ x y : List UInt8, compareBytes y x = - compareBytes x y
  | [], [] => rfl
  | [], _ :: _ => by simp [compareBytes]
  | _ :: _, [] => by simp [compareBytes]
  | a :: as, b :: bs => by
    rw [compareBytes, compareBytes]
    by_cases h1 : a < b
    · rw [if_neg (UInt8.lt_asymm h1), if_pos h1, if_pos h1]; rfl
    · by_cases h2 : b < a
      · rw [if_pos h2, if_neg h1, if_pos h2]
      · rw [if_neg h2, if_neg h1, if_neg h1, if_neg h2, Nm.cmp_swap as bs]
theorem Nm.cmp_three : ∀ x y : List UInt8, compareBytes x y = -1 ∨ compareBytes x y = 0 ∨ compareBytes x y = 1
  | [], [] => .inr (.inl rfl)
  | [], _ :: _ => .inl (by simp [compareBytes])
  | _ :: _, [] => .inr (.inr (by simp [compareBytes]))
  | a :: as, b :: bs => by
    rw [compareBytes]
    split
    · exact .inl rfl
    · split
      · exact .inr (.inr rfl)
      · exact Nm.cmp_three as bs
theorem Nm.cmp_trans : ∀ {x y z : List UInt8}, compareBytes x y = -1 → compareBytes y z = -1 → compareBytes x z = -1
  | [], [], _, h, _ => by simp [compareBytes] at h
  | [], _ :: _, [], _, h => by simp [compareBytes] at h
  | [], _ :: _, _ :: _, _, _ => by simp [compareBytes]
  | _ :: _, [], _, h, _ => by simp [compareBytes] at h
  | _ :: _, _ :: _, [], _, h => by simp [compareBytes] at h
  | a :: as, b :: bs, c :: cs, h1, h2 => by
    rw [compareBytes] at h1 h2 ⊢
    by_cases hab : a < b
    · by_cases hbc : b < c
      · rw [if_pos (UInt8.lt_trans hab hbc)]
      · rw [if_neg hbc] at h2
        by_cases hcb : c < b
        · rw [if_pos hcb] at h2; simp at h2
        · rw [← Nm.u8_eq hbc hcb, if_pos hab]
    · rw [if_neg hab] at h1
      by_cases hba : b < a
      · rw [if_pos hba] at h1; simp at h1
      · rw [if_neg hba] at h1
        obtain rfl := Nm.u8_eq hab hba
        by_cases hbc : a < c
        · rw [if_pos hbc]
        · rw [if_neg hbc] at h2 ⊢
          by_cases hcb : c < a
          · rw [if_pos hcb] at h2; simp at h2
          · rw [if_neg hcb] at h2 ⊢
            exact Nm.cmp_trans h1 h2
/-- Less or the same goes through a third text. -/
theorem Nm.cmp_le {x y z : List UInt8} (h1 : compareBytes x y ≤ 0) (h2 : compareBytes y z ≤ 0) : compareBytes x z ≤ 0 := by
  rcases Nm.cmp_three x y with a | a | a
  · rcases Nm.cmp_three y z with b | b | b
    · rw [Nm.cmp_trans a b]; omega
    · rw [← Nm.cmp_eq b, a]; omega
    · omega
  · rw [Nm.cmp_eq a]; exact h2
  · omega
end Go.Proofs.YtcccmbiocknknaaDoor
