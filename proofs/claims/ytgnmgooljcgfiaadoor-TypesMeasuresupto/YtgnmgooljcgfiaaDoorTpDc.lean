/- Decimal digits: mathematics for the document's Decimal. -/
import Derived.Lib.ItoaNum
import Derived.Test.YtgnmgooljcgfiaaDoorTpA
namespace Go.Proofs.YtgnmgooljcgfiaaDoor
open Go.RowKit
set_option linter.unusedVariables false

/-- The last digit. -/
def lastDigit (n : Int) : UInt8 := UInt8.ofNat (48 + n.natAbs % 10)
theorem dec_snoc {u : Nat} (h : ¬ u < 10) : Lib.decDigits u = Lib.decDigits (u / 10) ++ [UInt8.ofNat (48 + u % 10)] := by rw [Lib.decDigits, dif_neg h]
theorem itoa_more {n : Int} (h : n.tdiv 10 ≠ 0) : Lib.itoa n = Lib.itoa (n.tdiv 10) ++ [lastDigit n] := by
  unfold Lib.itoa lastDigit
  rcases Int.lt_or_le n 0 with hn | hn
  · have e : n.tdiv 10 = -((n.natAbs / 10 : Nat) : Int) := by
      obtain ⟨m, rfl⟩ : ∃ m : Nat, n = -(m : Int) := ⟨n.natAbs, by omega⟩
      rw [Int.neg_tdiv, Int.natAbs_neg, Int.natAbs_natCast]
      rfl
    rw [e] at h ⊢
    have h10 : ¬ n.natAbs < 10 := by omega
    rw [if_pos hn, if_pos (by omega), dec_snoc h10]
    rw [show (-((n.natAbs / 10 : Nat) : Int)).natAbs = n.natAbs / 10 by omega]
    rfl
  · have e : n.tdiv 10 = ((n.toNat / 10 : Nat) : Int) := by
      obtain ⟨m, rfl⟩ : ∃ m : Nat, n = (m : Int) := ⟨n.toNat, by omega⟩
      rfl
    rw [e] at h ⊢
    have h10 : ¬ n.toNat < 10 := by omega
    rw [if_neg (by omega), if_neg (by omega), dec_snoc h10]
    rw [show n.natAbs = n.toNat by omega]
    rfl
theorem itoa_less {n : Int} (h : n.tdiv 10 = 0) : Lib.itoa n = (if n < 0 then [45] else []) ++ [lastDigit n] := by
  unfold Lib.itoa lastDigit
  rcases Int.lt_or_le n 0 with hn | hn
  · have e : n.tdiv 10 = -((n.natAbs / 10 : Nat) : Int) := by
      obtain ⟨m, rfl⟩ : ∃ m : Nat, n = -(m : Int) := ⟨n.natAbs, by omega⟩
      rw [Int.neg_tdiv, Int.natAbs_neg, Int.natAbs_natCast]
      rfl
    have h10 : n.natAbs < 10 := by omega
    rw [if_pos hn, if_pos hn, Lib.decDigits_one h10, Nat.mod_eq_of_lt h10]
    rfl
  · have e : n.tdiv 10 = ((n.toNat / 10 : Nat) : Int) := by
      obtain ⟨m, rfl⟩ : ∃ m : Nat, n = (m : Int) := ⟨n.toNat, by omega⟩
      rfl
    have h10 : n.toNat < 10 := by omega
    rw [if_neg (by omega), if_neg (by omega), Lib.decDigits_one h10, show n.natAbs = n.toNat by omega, Nat.mod_eq_of_lt h10]
    rfl
end Go.Proofs.YtgnmgooljcgfiaaDoor
