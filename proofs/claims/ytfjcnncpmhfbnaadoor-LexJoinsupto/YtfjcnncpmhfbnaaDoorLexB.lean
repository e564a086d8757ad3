/- Plain mathematics of tokens: a text's bytes as numbers, and what the model's strings come to as lists. -/
import Derived.Test.YtfjcnncpmhfbnaaDoorLexP
import Derived.WalkKit
namespace Go.Proofs.YtfjcnncpmhfbnaaDoor
set_option linter.unusedVariables false

theorem Lx.u8 (c : UInt8) (n : Nat) (hn : n < 256) : c = UInt8.ofNat n ↔ (c.toNat : Int) = (n : Int) := by
  constructor
  · rintro rfl
    rw [UInt8.toNat_ofNat']; omega
  · intro h
    apply UInt8.toNat_inj.1
    rw [UInt8.toNat_ofNat']; omega
/-- The byte at a place; -1: there is none. -/
def Lx.b (s : ByteArray) (k : Nat) : Int := if h : k < s.size then (s[k].toNat : Int) else -1
theorem Lx.b_lt {s : ByteArray} {k : Nat} (h : k < s.size) : (s[k].toNat : Int) = Lx.b s k := by unfold Lx.b; rw [dif_pos h]
theorem Lx.b_ge {s : ByteArray} {k : Nat} (h : ¬ k < s.size) : Lx.b s k = -1 := by unfold Lx.b; rw [dif_neg h]
theorem Lx.b_head (s : ByteArray) (k : Nat) (n : Nat) (hn : n < 256) : (s.data.toList.drop k).head? = some (UInt8.ofNat n) ↔ Lx.b s k = (n : Int) := by
  by_cases h : k < s.size
  · rw [Nm.drop_cons s k h, ← Lx.b_lt h, List.head?_cons, ← Lx.u8 s[k] n hn]; simp
  · rw [Lx.b_ge h, List.drop_eq_nil_of_le (by rw [Nm.len]; omega)]
    constructor
    · intro h; cases h
    · intro h; omega
theorem Lx.b_any (s : ByteArray) (k : Nat) (f : Int → Bool) (hf : f (-1) = false) : ((s.data.toList.drop k).head?.any fun b => f (b.toNat : Int)) = f (Lx.b s k) := by
  by_cases h : k < s.size
  · rw [Nm.drop_cons s k h, ← Lx.b_lt h]; rfl
  · rw [Lx.b_ge h, List.drop_eq_nil_of_le (by rw [Nm.len]; omega), hf]; rfl

def Lx.markI (c d : Int) : Nat := if (c = 58 ∨ c = 61 ∨ c = 45) ∧ d = 62 then 2
  else if c = 40 ∨ c = 41 ∨ c = 44 ∨ c = 59 ∨ c = 58 ∨ c = 61 ∨ c = 42 ∨ c = 43 ∨ c = 45 ∨ c = 47 ∨ c = 60 ∨ c = 124 ∨ c = 95 ∨ c = 46 then 1 else 0
theorem Lx.mark_at (s : ByteArray) (k : Nat) (h : k < s.size) : Lx.mark (s.data.toList.drop k) = Lx.markI (Lx.b s k) (Lx.b s (k + 1)) := by
  have e := Nm.drop_cons s k h
  rw [e]
  have h1 := Lx.b_head s (k + 1) 62 (by decide)
  have e2 : ∀ n, n < 256 → (s[k] = UInt8.ofNat n ↔ Lx.b s k = (n : Int)) := fun n hn => by rw [← Lx.b_lt h]; exact Lx.u8 s[k] n hn
  have e3 : (([40, 41, 44, 59, 58, 61, 42, 43, 45, 47, 60, 124, 95, 46] : List UInt8).contains s[k] = true) ↔ (Lx.b s k = 40 ∨ Lx.b s k = 41 ∨ Lx.b s k = 44 ∨ Lx.b s k = 59 ∨ Lx.b s k = 58 ∨ Lx.b s k = 61 ∨ Lx.b s k = 42 ∨ Lx.b s k = 43 ∨ Lx.b s k = 45 ∨ Lx.b s k = 47 ∨ Lx.b s k = 60 ∨ Lx.b s k = 124 ∨ Lx.b s k = 95 ∨ Lx.b s k = 46) := by
    rw [List.contains_iff_mem]
    simp only [List.mem_cons, List.not_mem_nil, or_false]
    exact or_congr (e2 40 (by decide)) (or_congr (e2 41 (by decide)) (or_congr (e2 44 (by decide)) (or_congr (e2 59 (by decide)) (or_congr (e2 58 (by decide)) (or_congr (e2 61 (by decide)) (or_congr (e2 42 (by decide)) (or_congr (e2 43 (by decide)) (or_congr (e2 45 (by decide)) (or_congr (e2 47 (by decide)) (or_congr (e2 60 (by decide)) (or_congr (e2 124 (by decide)) (or_congr (e2 95 (by decide)) (e2 46 (by decide))))))))))))))
  have e4 : ((s[k] = 58 ∨ s[k] = 61 ∨ s[k] = 45) ∧ (s.data.toList.drop (k + 1)).head? = some 62) ↔ ((Lx.b s k = 58 ∨ Lx.b s k = 61 ∨ Lx.b s k = 45) ∧ Lx.b s (k + 1) = 62) :=
    and_congr (or_congr (e2 58 (by decide)) (or_congr (e2 61 (by decide)) (e2 45 (by decide)))) h1
  rw [Lx.mark_cons]
  unfold Lx.markI
  simp only [e3, e4]

def Lx.beginI (c d : Int) : Nat × Nat := if Nm.low c = true then (1, 1) else if Nm.high c = true then (2, 1) else if Nm.dig c = true then (4, 1)
  else if c = 39 ∧ Nm.low d = true then (5, 2) else if Lx.markI c d = 0 then (0, 0) else (6, Lx.markI c d)
theorem Lx.begin_at (s : ByteArray) (k : Nat) (h : k < s.size) : Lx.begin (s.data.toList.drop k) = Lx.beginI (Lx.b s k) (Lx.b s (k + 1)) := by
  have hm := Lx.mark_at s k h
  have e := Nm.drop_cons s k h
  rw [e] at hm ⊢
  have h1 := Lx.b_any s (k + 1) Nm.low (by decide)
  have h2 : s[k] = 39 ↔ Lx.b s k = 39 := by rw [← Lx.b_lt h]; exact Lx.u8 s[k] 39 (by decide)
  rw [Lx.begin_cons]
  unfold Lx.beginI
  rw [hm, Lx.b_lt h]
  simp only [h1, h2]
theorem Lx.opens_at (s : ByteArray) (k : Nat) : Lx.opens (s.data.toList.drop k) = (decide (Lx.b s k = 40) && decide (Lx.b s (k + 1) = 42)) := by
  by_cases h : k < s.size
  · rw [Nm.drop_cons s k h]
    have a1 : s[k] = 40 ↔ Lx.b s k = 40 := by rw [← Lx.b_lt h]; exact Lx.u8 s[k] 40 (by decide)
    by_cases h2 : k + 1 < s.size
    · rw [Nm.drop_cons s (k + 1) h2]
      have a2 : s[k + 1] = 42 ↔ Lx.b s (k + 1) = 42 := by rw [← Lx.b_lt h2]; exact Lx.u8 s[k + 1] 42 (by decide)
      unfold Lx.opens
      rw [Bool.eq_iff_iff]
      simp [a1, a2]
    · rw [List.drop_eq_nil_of_le (i := k + 1) (by rw [Nm.len]; omega), Lx.b_ge h2]; simp [Lx.opens]
  · rw [Lx.b_ge h, List.drop_eq_nil_of_le (by rw [Nm.len]; omega)]; rfl
/-- A remark's next step. -/
theorem Lx.rem_at (s : ByteArray) (k d : Nat) (h : k + 1 < s.size) : Lx.rem (s.data.toList.drop k) d =
    if Lx.b s k = 40 ∧ Lx.b s (k + 1) = 42 then Lx.rem (s.data.toList.drop (k + 2)) (d + 1)
    else if Lx.b s k = 42 ∧ Lx.b s (k + 1) = 41 then (if d ≤ 1 then some (s.data.toList.drop (k + 2)) else Lx.rem (s.data.toList.drop (k + 2)) (d - 1))
    else Lx.rem (s.data.toList.drop (k + 1)) d := by
  have h0 : k < s.size := by omega
  have a1 : ∀ n, n < 256 → (s[k] = UInt8.ofNat n ↔ Lx.b s k = (n : Int)) := fun n hn => by rw [← Lx.b_lt h0]; exact Lx.u8 s[k] n hn
  have a2 : ∀ n, n < 256 → (s[k + 1] = UInt8.ofNat n ↔ Lx.b s (k + 1) = (n : Int)) := fun n hn => by rw [← Lx.b_lt h]; exact Lx.u8 s[k + 1] n hn
  have e1 : (s[k] = 40 ∧ s[k + 1] = 42) ↔ (Lx.b s k = 40 ∧ Lx.b s (k + 1) = 42) := and_congr (a1 40 (by decide)) (a2 42 (by decide))
  have e2 : (s[k] = 42 ∧ s[k + 1] = 41) ↔ (Lx.b s k = 42 ∧ Lx.b s (k + 1) = 41) := and_congr (a1 42 (by decide)) (a2 41 (by decide))
  rw [Nm.drop_cons s k h0, Nm.drop_cons s (k + 1) h, Lx.rem]
  simp only [e1, e2]
theorem Lx.rem_end (s : ByteArray) (k d : Nat) (h : s.size ≤ k + 1) : Lx.rem (s.data.toList.drop k) d = none := by
  by_cases h0 : k < s.size
  · rw [Nm.drop_cons s k h0, List.drop_eq_nil_of_le (i := k + 1) (by rw [Nm.len]; omega)]; rfl
  · rw [List.drop_eq_nil_of_le (by rw [Nm.len]; omega)]; rfl
theorem Lx.skip_at (s : ByteArray) (k : Nat) (h : k < s.size) : Lx.skip (s.data.toList.drop k) =
    if Lx.blank (Lx.b s k) = true then Lx.skip (s.data.toList.drop (k + 1))
    else if (decide (Lx.b s k = 40) && decide (Lx.b s (k + 1) = 42)) = true then
      (match Lx.rem (s.data.toList.drop k) 0 with
      | none => (s.data.toList.drop k, false)
      | some r => Lx.skip r)
    else (s.data.toList.drop k, true) := by
  have e := Nm.drop_cons s k h
  rw [← Lx.opens_at]
  have hb := Lx.b_lt h
  by_cases h1 : Lx.blank (Lx.b s k) = true
  · rw [if_pos h1, e, Lx.skip_blank (by rw [hb]; exact h1)]
  · rw [if_neg h1]
    by_cases h2 : Lx.opens (s.data.toList.drop k) = true
    · rw [if_pos h2]
      cases hR : Lx.rem (s.data.toList.drop k) 0 with
      | none => exact Lx.skip_open h2 hR
      | some r => exact Lx.skip_rem h2 hR
    · rw [if_neg h2, e, Lx.skip_stop (by rw [hb]; simpa using h1) (by rw [e] at h2; simpa using h2)]

/-- The rest of a text, as a list. -/
theorem Lx.rest (s : ByteArray) (k : Nat) : (s.extract k s.size).data.toList = s.data.toList.drop k := by
  rw [ByteArray.data_extract, Array.toList_extract, List.extract_eq_take_drop]
  rw [List.take_of_length_le (by rw [List.length_drop, Nm.len]; omega)]
theorem Lx.rest_size (s : ByteArray) (k : Nat) : (s.extract k s.size).size = s.size - k := by rw [ByteArray.size_extract, Nat.min_self]
end Go.Proofs.YtfjcnncpmhfbnaaDoor
