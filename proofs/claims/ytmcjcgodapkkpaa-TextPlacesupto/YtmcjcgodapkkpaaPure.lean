/- Plain facts on texts as lists of bytes: where the lines begin and end, and what two texts have in common. Nothing of a program is named here. -/
import Derived.Lib.Bytealg
import Derived.Lib.Strings
namespace Go.Proofs.Ytmcjcgodapkkpaa
namespace Tx

/-- The bounds of the lines of what is left of a text: f: where the line began, i: where we stand. -/
def bnd : Nat → Nat → List UInt8 → List (Nat × Nat)
  | f, i, [] => [(f, i)]
  | f, i, c :: r => if c = 10 then (f, i) :: bnd (i + 1) (i + 1) r else bnd f (i + 1) r

theorem bnd_none : ∀ (l : List UInt8) (f i : Nat), Lib.indexByte l 10 < 0 → bnd f i l = [(f, i + l.length)]
  | [], f, i, _ => by simp [bnd]
  | c :: r, f, i, h => by
    unfold Lib.indexByte at h
    by_cases hc : c = 10
    · simp [hc] at h
    · have hc' : (c == 10) = false := by simp [hc]
      rw [hc'] at h
      have h2 : Lib.indexByte r 10 < 0 := by
        by_cases h3 : Lib.indexByte r 10 < 0
        · exact h3
        · have h4 : (Lib.indexByte r 10 == -1) = false := by simp; omega
          rw [h4] at h
          simp at h
          omega
      rw [bnd, if_neg hc, bnd_none r f (i + 1) h2]
      simp
      omega

theorem bnd_some : ∀ (l : List UInt8) (f i n : Nat), Lib.indexByte l 10 = (n : Int) → n < l.length ∧ bnd f i l = (f, i + n) :: bnd (i + n + 1) (i + n + 1) (l.drop (n + 1))
  | [], f, i, n, h => by simp [Lib.indexByte] at h
  | c :: r, f, i, n, h => by
    unfold Lib.indexByte at h
    by_cases hc : c = 10
    · simp [hc] at h
      have hn : n = 0 := by omega
      subst hn
      simp [bnd, hc]
    · have hc' : (c == 10) = false := by simp [hc]
      rw [hc'] at h
      by_cases h3 : Lib.indexByte r 10 = -1
      · rw [h3] at h; simp at h
      · have h4 : (Lib.indexByte r 10 == -1) = false := by simp [h3]
        rw [h4] at h
        simp at h
        have hn : ∃ m : Nat, n = m + 1 := ⟨n - 1, by have := Lib.indexByte_ge r 10; omega⟩
        obtain ⟨m, rfl⟩ := hn
        obtain ⟨k1, k2⟩ := bnd_some r f (i + 1) m (by omega)
        refine ⟨by simp; omega, ?_⟩
        rw [bnd, if_neg hc, k2, List.drop_succ_cons, show i + 1 + m = i + (m + 1) from by omega]

theorem bnd_ne : ∀ (l : List UInt8) (f i : Nat), bnd f i l ≠ []
  | [], f, i => by simp [bnd]
  | c :: r, f, i => by
    rw [bnd]
    split
    · simp
    · exact bnd_ne r f (i + 1)

/-- Each line's bounds lie in order and within the text. -/
theorem bnd_in : ∀ (l : List UInt8) (f i : Nat), f ≤ i → ∀ x, x ∈ bnd f i l → f ≤ x.1 ∧ x.1 ≤ x.2 ∧ x.2 ≤ i + l.length
  | [], f, i, h, x, hx => by simp [bnd] at hx; subst hx; simp; exact h
  | c :: r, f, i, h, x, hx => by
    rw [bnd] at hx
    split at hx
    · rcases List.mem_cons.1 hx with rfl | hx
      · simp; exact h
      · have := bnd_in r (i + 1) (i + 1) (Nat.le_refl _) x hx
        simp
        omega
    · have := bnd_in r f (i + 1) (by omega) x hx
      simp
      omega

theorem bnd_length : ∀ (l : List UInt8) (f i : Nat), (bnd f i l).length ≤ l.length + 1
  | [], f, i => by simp [bnd]
  | c :: r, f, i => by
    rw [bnd]
    split
    · have := bnd_length r (i + 1) (i + 1); simp; omega
    · have := bnd_length r f (i + 1); simp; omega

/-- The last line ends with the text. -/
theorem bnd_last : ∀ (l : List UInt8) (f i : Nat), ∃ q g, bnd f i l = q ++ [(g, i + l.length)]
  | [], f, i => ⟨[], f, by simp [bnd]⟩
  | c :: r, f, i => by
    by_cases hc : c = 10
    · obtain ⟨q, g, h⟩ := bnd_last r (i + 1) (i + 1)
      exact ⟨(f, i) :: q, g, by rw [bnd, if_pos hc, h]; simp; omega⟩
    · obtain ⟨q, g, h⟩ := bnd_last r f (i + 1)
      exact ⟨q, g, by rw [bnd, if_neg hc, h]; simp; omega⟩

/-- What two texts have in common. -/
def same : List UInt8 → List UInt8 → Nat
  | a :: r, b :: t => if a = b then same r t + 1 else 0
  | _, _ => 0

theorem same_le : ∀ (a b : List UInt8), same a b ≤ a.length ∧ same a b ≤ b.length
  | [], b => by simp [same]
  | a :: r, [] => by simp [same]
  | a :: r, b :: t => by
    have := same_le r t
    rw [same]
    split
    · simp; omega
    · simp

theorem same_comm : ∀ (a b : List UInt8), same a b = same b a
  | [], [] => rfl
  | [], b :: t => by simp [same]
  | a :: r, [] => by simp [same]
  | a :: r, b :: t => by
    rw [same, same, same_comm r t]
    by_cases h : a = b
    · simp [h]
    · rw [if_neg h, if_neg (fun e => h e.symm)]

theorem same_self : ∀ (a : List UInt8), same a a = a.length
  | [] => rfl
  | a :: r => by rw [same, if_pos rfl, same_self r]; simp

theorem same_take : ∀ (a b : List UInt8), a.take (same a b) = b.take (same a b)
  | [], b => by simp [same]
  | a :: r, [] => by simp [same]
  | a :: r, b :: t => by
    rw [same]
    split
    · rename_i h
      rw [List.take_succ_cons, List.take_succ_cons, same_take r t, h]
    · simp

/-- What is known of k while counting: all below k agree. -/
theorem same_of : ∀ (a b : List UInt8) (k : Nat), k ≤ a.length → k ≤ b.length → (∀ j, j < k → a[j]? = b[j]?) → k ≤ same a b
  | _, _, 0, _, _, _ => Nat.zero_le _
  | [], _, k + 1, h, _, _ => by simp at h
  | _ :: _, [], k + 1, _, h, _ => by simp at h
  | a :: r, b :: t, k + 1, h1, h2, h => by
    have h0 := h 0 (by omega)
    simp at h0
    rw [same, if_pos h0]
    have := same_of r t k (by simpa using h1) (by simpa using h2) (fun j hj => by simpa using h (j + 1) (by omega))
    omega

theorem same_step : ∀ (a b : List UInt8) (j : Nat), j < same a b → a[j]? = b[j]?
  | [], b, j, h => by simp [same] at h
  | a :: r, [], j, h => by simp [same] at h
  | a :: r, b :: t, j, h => by
    rw [same] at h
    split at h
    · rename_i e
      cases j with
      | zero => simp [e]
      | succ j => simpa using same_step r t j (by omega)
    · omega

theorem same_stop : ∀ (a b : List UInt8), same a b < a.length → same a b < b.length → a[same a b]? ≠ b[same a b]?
  | [], b, h, _ => by simp at h
  | a :: r, [], _, h => by simp at h
  | a :: r, b :: t, h1, h2 => by
    rw [same] at h1 h2 ⊢
    split at h1
    · rename_i e
      rw [if_pos e] at h2 ⊢
      simpa using same_stop r t (by simpa using h1) (by simpa using h2)
    · rename_i e
      rw [if_neg e]
      simpa using e

/-- Counting has come to its end at k. -/
theorem same_eq {a b : List UInt8} {k : Nat} (h1 : k ≤ a.length) (h2 : k ≤ b.length) (h : ∀ j, j < k → a[j]? = b[j]?) (hs : k = a.length ∨ k = b.length ∨ a[k]? ≠ b[k]?) : same a b = k := by
  have h3 := same_of a b k h1 h2 h
  have h4 := same_le a b
  rcases hs with hs | hs | hs
  · omega
  · omega
  · by_cases h5 : k < same a b
    · exact absurd (same_step a b k h5) hs
    · omega

end Tx
end Go.Proofs.Ytmcjcgodapkkpaa
