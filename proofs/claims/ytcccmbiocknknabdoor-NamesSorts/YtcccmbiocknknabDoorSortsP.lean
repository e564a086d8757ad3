/- Plain mathematics of sorts of names: a name with a byte more. -/
import Derived.Test.YtcccmbiocknknabDoorApartP
namespace Go.Proofs.YtcccmbiocknknabDoor
set_option linter.unusedVariables false

theorem Nm.sorts_ok {s : ByteArray} (h : Nm.right s = 0) : (Nm.lower s == Nm.upper s) = false := by
  have hs := (Nm.right_zero h).1
  have hp := Nm.spelt_pos hs
  have hl : Nm.letter (Nm.head s) = true := by
    cases e : Nm.letter (s[0].toNat : Int) with
    | true => rw [Nm.head_eq s hp, e]
    | false => rw [Nm.spelt_head hp e] at hs; cases hs
  cases h1 : Nm.lower s with
  | true => rw [Nm.low_high h1]; rfl
  | false =>
    have : Nm.low (Nm.head s) = false := by
      unfold Nm.lower at h1
      rw [decide_eq_true h, Bool.true_and] at h1
      exact h1
    have h2 : Nm.upper s = true := by
      unfold Nm.upper
      unfold Nm.letter at hl
      rw [this, Bool.false_or] at hl
      rw [decide_eq_true h, hl]; rfl
    rw [h2]; rfl
theorem Nm.sorts_no {s : ByteArray} (h : ¬ Nm.right s = 0) : Nm.lower s = false ∧ Nm.upper s = false := by
  unfold Nm.lower Nm.upper
  rw [decide_eq_false h]
  exact ⟨rfl, rfl⟩

/-- A text with a byte more. -/
theorem Nm.more_data (s : ByteArray) (b : UInt8) : (s ++ (⟨#[b]⟩ : ByteArray)).data.toList = s.data.toList ++ [b] := by rw [ByteArray.data_append, Array.toList_append]
theorem Nm.more_size (s : ByteArray) (b : UInt8) : (s ++ (⟨#[b]⟩ : ByteArray)).size = s.size + 1 := by rw [ByteArray.size_append]; rfl
theorem Nm.more_no {s : ByteArray} {b : UInt8} (h : Nm.body (b.toNat : Int) = false) : Nm.right (s ++ (⟨#[b]⟩ : ByteArray)) = 12 :=
  Nm.right_spelt (Nm.not_spelt (b := b) (by rw [Nm.more_data]; simp) h)
theorem Nm.more_ok {s : ByteArray} {b : UInt8} (hs : Nm.right s = 0) (h : Nm.body (b.toNat : Int) = true) (hl : s.size < 32) (hr : Nm.reserved (s ++ (⟨#[b]⟩ : ByteArray)) = false) : Nm.right (s ++ (⟨#[b]⟩ : ByteArray)) = 0 := by
  refine Nm.right_ok ?_ (by rw [Nm.more_size]; omega) hr
  have h1 := (Nm.right_zero hs).1
  unfold Nm.spelt at h1 ⊢
  rw [Nm.more_data]
  cases e : s.data.toList with
  | nil => rw [e] at h1; cases h1
  | cons c t =>
    rw [e] at h1
    simp only [Nm.speltL, Bool.and_eq_true] at h1
    rw [List.cons_append, Nm.speltL, h1.1, List.all_append, h1.2, List.all_cons, h]
    rfl
end Go.Proofs.YtcccmbiocknknabDoor
