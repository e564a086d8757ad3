/- The text of a type, as plain mathematics. -/
import Derived.Lib.ItoaNum
import Derived.Test.YtgnmgooljcgfiaaDoorTpP
namespace Go.Proofs.YtgnmgooljcgfiaaDoor
set_option linter.unusedVariables false

def Tp.gen (n : Int) : List UInt8 := if n < 0 then [39, 63] else [39] ++ [UInt8.ofNat (97 + n.toNat % 26)] ++ (if 26 ≤ n then Lib.itoa (n / 26) else [])
def Tp.leaf (k n : Int) : List UInt8 :=
  if k = 1 then [105, 110, 116] else if k = 2 then [98, 111, 111, 108] else if k = 3 then [117, 110, 105, 116]
  else if k = 6 then [35] ++ Lib.itoa n else if k = 7 then [63] ++ Lib.itoa n else if k = 8 then Tp.gen n else [63]
def Tp.level (t : Tp) : Int := if t.k = 4 ∧ t.ks.length = 2 then 1 else if t.k = 5 ∧ t.ks.length = 2 then 2 else 3
def Tp.wrap (asked lv : Int) (s : List UInt8) : List UInt8 := if asked ≤ lv then s else [40] ++ s ++ [41]
def Tp.textOf (k n : Int) : List Tp → List (List UInt8) → List UInt8
  | [a, b], [s, t] => if k = 4 then Tp.wrap 2 a.level s ++ [32, 45, 62, 32] ++ Tp.wrap 1 b.level t else if k = 5 then Tp.wrap 2 a.level s ++ [32, 42, 32] ++ Tp.wrap 3 b.level t else Tp.leaf k n
  | _, _ => if k = 4 ∨ k = 5 then [63] else Tp.leaf k n
mutual
def Tp.text : Tp → List UInt8
  | .mk k n ks => Tp.textOf k n ks (Tp.textL ks)
def Tp.textL : List Tp → List (List UInt8)
  | [] => []
  | x :: r => Tp.text x :: Tp.textL r
end
theorem Tp.textL_len : ∀ l : List Tp, (Tp.textL l).length = l.length
  | [] => by rw [Tp.textL]; rfl
  | x :: r => by rw [Tp.textL, List.length_cons, Tp.textL_len r, List.length_cons]
theorem Tp.text_two {k n : Int} {a b : Tp} : Tp.text (.mk k n [a, b]) = if k = 4 then Tp.wrap 2 a.level a.text ++ [32, 45, 62, 32] ++ Tp.wrap 1 b.level b.text else if k = 5 then Tp.wrap 2 a.level a.text ++ [32, 42, 32] ++ Tp.wrap 3 b.level b.text else Tp.leaf k n := by
  rw [Tp.text, Tp.textL, Tp.textL, Tp.textL, Tp.textOf]
theorem Tp.text_other {t : Tp} (h : t.ks.length ≠ 2) : Tp.text t = if t.k = 4 ∨ t.k = 5 then [63] else Tp.leaf t.k t.n := by
  obtain ⟨k, n, ks⟩ := t
  simp only [Tp.ks] at h
  rw [Tp.text]
  simp only [Tp.k, Tp.n]
  have hl := Tp.textL_len ks
  generalize Tp.textL ks = ts at hl
  unfold Tp.textOf
  split
  · simp at h
  · rfl
theorem Tp.text_leaf {t : Tp} (h4 : t.k ≠ 4) (h5 : t.k ≠ 5) : Tp.text t = Tp.leaf t.k t.n := by
  obtain ⟨k, n, ks⟩ := t
  simp only [Tp.k, Tp.n] at h4 h5 ⊢
  rw [Tp.text]
  unfold Tp.textOf
  split
  · rw [if_neg h4, if_neg h5]
  · rw [if_neg (by omega)]
theorem Tp.nDigits_le (u : Nat) (h : u < 10 ^ 20) : Lib.nDigits u ≤ 20 := by
  rcases Nat.lt_or_ge 20 (Lib.nDigits u) with h2 | h2
  · exfalso
    have key : ∀ (k u : Nat), k < Lib.nDigits u → 1 ≤ k → 10 ^ k ≤ u := by
      intro k
      induction k with
      | zero => intro u _ h; omega
      | succ k ih =>
        intro u hu _
        by_cases h10 : u < 10
        · rw [Lib.nDigits_small h10] at hu; omega
        · rw [Lib.nDigits_big h10] at hu
          rcases Nat.eq_zero_or_pos k with h0 | h0
          · subst h0; omega
          · have := ih (u / 10) (by omega) h0
            rw [Nat.pow_succ]; omega
    have := key 20 u h2 (by decide)
    omega
  · exact h2
theorem Tp.decDigits_len (u : Nat) : (Lib.decDigits u).length = Lib.nDigits u := by rw [Lib.decDigits_eq]; simp
theorem Tp.itoa_len {n : Int} (h : -9223372036854775808 ≤ n ∧ n ≤ 9223372036854775807) : (Lib.itoa n).length ≤ 21 := by
  unfold Lib.itoa
  split
  · rw [List.length_cons, Tp.decDigits_len]
    have := Tp.nDigits_le n.natAbs (by omega)
    omega
  · rw [Tp.decDigits_len]
    have := Tp.nDigits_le n.toNat (by omega)
    omega
def Tp.okN : Tp → Prop := fun t => -9223372036854775808 ≤ t.n ∧ t.n ≤ 9223372036854775807
theorem Tp.leaf_len {k n : Int} (h : -9223372036854775808 ≤ n ∧ n ≤ 9223372036854775807) : (Tp.leaf k n).length ≤ 30 := by
  have h1 := Tp.itoa_len h
  unfold Tp.leaf
  split
  · decide
  · split
    · decide
    · split
      · decide
      · split
        · simp; omega
        · split
          · simp; omega
          · split
            · unfold Tp.gen
              split
              · decide
              · split
                · have := Tp.itoa_len (n := n / 26) (by omega)
                  simp; omega
                · simp
            · decide
end Go.Proofs.YtgnmgooljcgfiaaDoor
