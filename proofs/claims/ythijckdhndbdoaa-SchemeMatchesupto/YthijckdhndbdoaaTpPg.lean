/- The stamps of what is replaced: mathematics. -/
import Derived.Test.YthijckdhndbdoaaTpTw
namespace Go.Proofs.Ythijckdhndbdoaa
open Go.RowKit
set_option linter.unusedVariables false

mutual
/-- Does the number stand in a node of the kind? -/
def Tp.st (kind x : Int) : Tp → Prop
  | .mk k n ks => (k = kind ∧ n = x) ∨ Tp.stL kind x ks
def Tp.stL (kind x : Int) : List Tp → Prop
  | [] => False
  | t :: r => Tp.st kind x t ∨ Tp.stL kind x r
end
mutual
theorem Tp.mem_found (kind x : Int) : ∀ (t : Tp) (l : List Int), x ∈ Tp.found kind t l ↔ x ∈ l ∨ Tp.st kind x t
  | .mk k n ks, l => by
    rw [Tp.found_mk, Tp.mem_foundL kind x ks, Tp.st]
    by_cases h : k = kind
    · rw [if_pos h, Tp.mem_ins]
      constructor
      · rintro ((h1 | h1) | h1)
        · exact .inl h1
        · exact .inr (.inl ⟨h, h1.symm⟩)
        · exact .inr (.inr h1)
      · rintro (h1 | h1 | h1)
        · exact .inl (.inl h1)
        · exact .inl (.inr h1.2.symm)
        · exact .inr h1
    · rw [if_neg h]
      constructor
      · rintro (h1 | h1)
        · exact .inl h1
        · exact .inr (.inr h1)
      · rintro (h1 | h1 | h1)
        · exact .inl h1
        · exact absurd h1.1 h
        · exact .inr h1
theorem Tp.mem_foundL (kind x : Int) : ∀ (ts : List Tp) (l : List Int), x ∈ Tp.foundL kind ts l ↔ x ∈ l ∨ Tp.stL kind x ts
  | [], l => by rw [Tp.foundL_nil, Tp.stL]; simp
  | t :: r, l => by rw [Tp.foundL_cons, Tp.mem_foundL kind x r, Tp.mem_found kind x t, Tp.stL, or_assoc]
end
theorem Tp.own_leaf {n : Int} {c : Nat} (h : Tp.own 6 n c = true) : c = 0 := by
  unfold Tp.own at h
  simp at h
  omega
mutual
/-- A right type's stamps behind a replacing. -/
theorem Tp.st_put (n : Int) (u : Tp) (x : Int) : ∀ t : Tp, t.right = true → (Tp.st 6 x (Tp.put 6 [n] [u] t) ↔ (Tp.st 6 x t ∧ x ≠ n) ∨ (Tp.st 6 n t ∧ Tp.st 6 x u))
  | .mk k y ks, h => by
    rw [Tp.right, Bool.and_eq_true] at h
    have ih := Tp.stL_put n u x ks h.2
    rw [Tp.put, Tp.by_one]
    by_cases hk : k = 6
    · subst hk
      have h0 : ks = [] := List.eq_nil_of_length_eq_zero (Tp.own_leaf h.1)
      subst h0
      rw [if_pos rfl]
      by_cases hn : n = y
      · subst hn
        rw [if_pos rfl]
        simp only [Tp.st, Tp.stL, or_false, true_and]
        constructor
        · exact .inr
        · rintro (⟨h1, h2⟩ | h1)
          · exact absurd h1.symm h2
          · exact h1
      · rw [if_neg hn]
        simp only [Tp.st, Tp.stL, Tp.putL, or_false, true_and]
        constructor
        · intro h1; exact .inl ⟨h1, fun e => hn (by rw [h1, e])⟩
        · rintro (h1 | h1)
          · exact h1.1
          · exact absurd h1.1.symm hn
    · rw [if_neg hk]
      simp only [Tp.st, hk, false_and, false_or]
      exact ih
theorem Tp.stL_put (n : Int) (u : Tp) (x : Int) : ∀ ts : List Tp, Tp.rightL ts = true → (Tp.stL 6 x (Tp.putL 6 [n] [u] ts) ↔ (Tp.stL 6 x ts ∧ x ≠ n) ∨ (Tp.stL 6 n ts ∧ Tp.st 6 x u))
  | [], _ => by simp [Tp.putL, Tp.stL]
  | t :: r, h => by
    rw [Tp.rightL, Bool.and_eq_true] at h
    rw [Tp.putL, Tp.stL, Tp.stL, Tp.stL, Tp.st_put n u x t h.1, Tp.stL_put n u x r h.2]
    constructor
    · rintro ((h1 | h1) | (h1 | h1))
      · exact .inl ⟨.inl h1.1, h1.2⟩
      · exact .inr ⟨.inl h1.1, h1.2⟩
      · exact .inl ⟨.inr h1.1, h1.2⟩
      · exact .inr ⟨.inr h1.1, h1.2⟩
    · rintro (⟨h1 | h1, h2⟩ | ⟨h1 | h1, h2⟩)
      · exact .inl (.inl ⟨h1, h2⟩)
      · exact .inr (.inl ⟨h1, h2⟩)
      · exact .inl (.inr ⟨h1, h2⟩)
      · exact .inr (.inr ⟨h1, h2⟩)
end
mutual
/-- A stamp put in for itself changes nothing. -/
theorem Tp.put_self (n : Int) : ∀ t : Tp, t.right = true → Tp.put 6 [n] [.mk 6 n []] t = t
  | .mk k y ks, h => by
    rw [Tp.right, Bool.and_eq_true] at h
    rw [Tp.put, Tp.by_one]
    by_cases hk : k = 6
    · subst hk
      have h0 : ks = [] := List.eq_nil_of_length_eq_zero (Tp.own_leaf h.1)
      subst h0
      rw [if_pos rfl]
      by_cases hn : n = y
      · subst hn
        rw [if_pos rfl]
      · rw [if_neg hn]
        simp only [Tp.putL]
    · rw [if_neg hk]
      simp only
      rw [Tp.putL_self n ks h.2]
theorem Tp.putL_self (n : Int) : ∀ ts : List Tp, Tp.rightL ts = true → Tp.putL 6 [n] [.mk 6 n []] ts = ts
  | [], _ => by rw [Tp.putL]
  | t :: r, h => by
    rw [Tp.rightL, Bool.and_eq_true] at h
    rw [Tp.putL, Tp.put_self n t h.1, Tp.putL_self n r h.2]
end
end Go.Proofs.Ythijckdhndbdoaa
