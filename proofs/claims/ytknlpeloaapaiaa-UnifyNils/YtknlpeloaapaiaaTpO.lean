/- The order of types is one. -/
import Derived.Test.YtknlpeloaapaiaaTpL
namespace Go.Proofs.Ytknlpeloaapaiaa
set_option linter.unusedVariables false

theorem Tp.num_cases (a b : Int) : Tp.num a b = -1 ∨ Tp.num a b = 0 ∨ Tp.num a b = 1 := by unfold Tp.num; split <;> (try split) <;> simp
theorem Tp.num_zero {a b : Int} : Tp.num a b = 0 ↔ a = b := by unfold Tp.num; split <;> (try split) <;> simp <;> omega
theorem Tp.num_neg (a b : Int) : Tp.num b a = -Tp.num a b := by unfold Tp.num; split <;> split <;> (try split) <;> omega
theorem Tp.or_neg (a b : Int) : -Tp.or a b = Tp.or (-a) (-b) := by unfold Tp.or; split <;> split <;> omega
theorem Tp.or_cases {a b : Int} (ha : a = -1 ∨ a = 0 ∨ a = 1) (hb : b = -1 ∨ b = 0 ∨ b = 1) : Tp.or a b = -1 ∨ Tp.or a b = 0 ∨ Tp.or a b = 1 := by unfold Tp.or; split <;> assumption
theorem Tp.or_zero_iff {a b : Int} : Tp.or a b = 0 ↔ a = 0 ∧ b = 0 := by unfold Tp.or; split <;> omega
mutual
theorem Tp.cmp_cases : ∀ a b : Tp, Tp.cmp a b = -1 ∨ Tp.cmp a b = 0 ∨ Tp.cmp a b = 1
  | .mk k n ks, .mk k' n' ks' => by
    rw [Tp.cmp]
    exact Tp.or_cases (Tp.num_cases _ _) (Tp.or_cases (Tp.num_cases _ _) (Tp.or_cases (Tp.num_cases _ _) (Tp.cmpL_cases ks ks')))
theorem Tp.cmpL_cases : ∀ a b : List Tp, Tp.cmpL a b = -1 ∨ Tp.cmpL a b = 0 ∨ Tp.cmpL a b = 1
  | [], [] => by rw [Tp.cmpL]; simp
  | [], _ :: _ => by rw [Tp.cmpL]; simp
  | _ :: _, [] => by rw [Tp.cmpL]; simp
  | x :: r, y :: r' => by rw [Tp.cmpL]; exact Tp.or_cases (Tp.cmp_cases x y) (Tp.cmpL_cases r r')
end
mutual
theorem Tp.cmp_neg : ∀ a b : Tp, Tp.cmp b a = -Tp.cmp a b
  | .mk k n ks, .mk k' n' ks' => by
    rw [Tp.cmp, Tp.cmp, Tp.or_neg, Tp.or_neg, Tp.or_neg, Tp.num_neg k k', Tp.num_neg n n', Tp.num_neg ks.length ks'.length, Tp.cmpL_neg ks ks']
theorem Tp.cmpL_neg : ∀ a b : List Tp, Tp.cmpL b a = -Tp.cmpL a b
  | [], [] => by rw [Tp.cmpL]; rfl
  | [], _ :: _ => by rw [Tp.cmpL, Tp.cmpL]; rfl
  | _ :: _, [] => by rw [Tp.cmpL, Tp.cmpL]
  | x :: r, y :: r' => by rw [Tp.cmpL, Tp.cmpL, Tp.or_neg, Tp.cmp_neg x y, Tp.cmpL_neg r r']
end
mutual
theorem Tp.cmp_eq : ∀ a b : Tp, Tp.cmp a b = 0 ↔ a = b
  | .mk k n ks, .mk k' n' ks' => by
    rw [Tp.cmp, Tp.or_zero_iff, Tp.or_zero_iff, Tp.or_zero_iff, Tp.num_zero, Tp.num_zero, Tp.num_zero, Tp.cmpL_eq ks ks', Tp.mk.injEq]
    constructor
    · rintro ⟨h1, h2, -, h3⟩; exact ⟨h1, h2, h3⟩
    · rintro ⟨h1, h2, h3⟩; exact ⟨h1, h2, by rw [h3], h3⟩
theorem Tp.cmpL_eq : ∀ a b : List Tp, Tp.cmpL a b = 0 ↔ a = b
  | [], [] => by rw [Tp.cmpL]; simp
  | [], _ :: _ => by rw [Tp.cmpL]; simp
  | _ :: _, [] => by rw [Tp.cmpL]; simp
  | x :: r, y :: r' => by rw [Tp.cmpL, Tp.or_zero_iff, Tp.cmp_eq x y, Tp.cmpL_eq r r', List.cons.injEq]
end
theorem Tp.num_trans {a b c : Int} (h1 : Tp.num a b ≤ 0) (h2 : Tp.num b c ≤ 0) : Tp.num a c ≤ 0 := by
  unfold Tp.num at *
  split at h1 <;> split at h2 <;> (try split at h1) <;> (try split at h2) <;> split <;> (try split) <;> omega
/-- One rung of the order: first x, then y. -/
theorem Tp.or_trans {x1 x2 x3 y1 y2 y3 : Int} (hx : x1 ≤ 0 → x2 ≤ 0 → x3 ≤ 0) (hx0 : x1 = 0 → x2 = x3) (hx1 : x2 = 0 → x1 = x3) (hs : x1 < 0 → x2 < 0 → x3 < 0) (hy : y1 ≤ 0 → y2 ≤ 0 → y3 ≤ 0) (h1 : Tp.or x1 y1 ≤ 0) (h2 : Tp.or x2 y2 ≤ 0) : Tp.or x3 y3 ≤ 0 := by
  unfold Tp.or at *
  by_cases a1 : x1 = 0
  · have := hx0 a1
    by_cases a2 : x2 = 0
    · rw [if_pos a1] at h1; rw [if_pos a2] at h2; rw [if_pos (by omega)]; exact hy h1 h2
    · rw [if_neg a2] at h2; rw [if_neg (by omega)]; omega
  · rw [if_neg a1] at h1
    by_cases a2 : x2 = 0
    · have := hx1 a2; rw [if_neg (by omega)]; omega
    · rw [if_neg a2] at h2
      have := hs (by omega) (by omega)
      rw [if_neg (by omega)]; omega
theorem Tp.num_eqs (a b c : Int) : (Tp.num a b ≤ 0 → Tp.num b c ≤ 0 → Tp.num a c ≤ 0) ∧ (Tp.num a b = 0 → Tp.num b c = Tp.num a c) ∧ (Tp.num b c = 0 → Tp.num a b = Tp.num a c) ∧ (Tp.num a b < 0 → Tp.num b c < 0 → Tp.num a c < 0) := by
  refine ⟨Tp.num_trans, fun h => ?_, fun h => ?_, fun h1 h2 => ?_⟩
  · rw [Tp.num_zero] at h; rw [h]
  · rw [Tp.num_zero] at h; rw [h]
  · unfold Tp.num at *
    split at h1
    · split at h2
      · rw [if_pos (by omega)]; omega
      · split at h2 <;> omega
    · split at h1 <;> omega
/-- ≤ 0 through a third one gives all that or_trans asks. -/
theorem Tp.eqs_of_trans {f : Tp → Tp → Int} (hc : ∀ a b, f b a = -f a b) (he : ∀ a b, f a b = 0 ↔ a = b) {a b c : Tp} (ht : f a b ≤ 0 → f b c ≤ 0 → f a c ≤ 0) : (f a b = 0 → f b c = f a c) ∧ (f b c = 0 → f a b = f a c) := by
  refine ⟨fun h => ?_, fun h => ?_⟩
  · rw [he] at h; rw [h]
  · rw [he] at h; rw [h]
mutual
theorem Tp.cmp_trans : ∀ a b c : Tp, (Tp.cmp a b ≤ 0 → Tp.cmp b c ≤ 0 → Tp.cmp a c ≤ 0) ∧ (Tp.cmp a b < 0 → Tp.cmp b c < 0 → Tp.cmp a c < 0)
  | .mk k1 n1 s1, .mk k2 n2 s2, .mk k3 n3 s3 => by
    have hL := Tp.cmpL_trans s1 s2 s3
    have key : Tp.cmp (.mk k1 n1 s1) (.mk k2 n2 s2) ≤ 0 → Tp.cmp (.mk k2 n2 s2) (.mk k3 n3 s3) ≤ 0 → Tp.cmp (.mk k1 n1 s1) (.mk k3 n3 s3) ≤ 0 := by
      rw [Tp.cmp, Tp.cmp, Tp.cmp]
      have e1 := Tp.num_eqs k1 k2 k3
      have e2 := Tp.num_eqs n1 n2 n3
      have e3 := Tp.num_eqs s1.length s2.length s3.length
      exact Tp.or_trans e1.1 e1.2.1 e1.2.2.1 e1.2.2.2 (Tp.or_trans e2.1 e2.2.1 e2.2.2.1 e2.2.2.2 (Tp.or_trans e3.1 e3.2.1 e3.2.2.1 e3.2.2.2 hL))
    refine ⟨key, fun h1 h2 => ?_⟩
    have h3 := key (by omega) (by omega)
    by_cases h0 : Tp.cmp (.mk k1 n1 s1) (.mk k3 n3 s3) = 0
    · rw [Tp.cmp_eq] at h0
      rw [← h0, Tp.cmp_neg] at h2
      omega
    · omega
theorem Tp.cmpL_trans : ∀ a b c : List Tp, Tp.cmpL a b ≤ 0 → Tp.cmpL b c ≤ 0 → Tp.cmpL a c ≤ 0
  | [], _, [] => fun _ _ => by rw [Tp.cmpL]; omega
  | [], _, _ :: _ => fun _ _ => by rw [Tp.cmpL]; omega
  | _ :: _, [], _ => fun h _ => by rw [Tp.cmpL] at h; omega
  | _ :: _, _ :: _, [] => fun _ h => by rw [Tp.cmpL] at h; omega
  | x :: r, y :: r', z :: r'' => by
    have hL := Tp.cmpL_trans r r' r''
    have hx := Tp.cmp_trans x y z
    have he := Tp.eqs_of_trans (f := Tp.cmp) Tp.cmp_neg Tp.cmp_eq (a := x) (b := y) (c := z) hx.1
    rw [Tp.cmpL, Tp.cmpL, Tp.cmpL]
    exact Tp.or_trans hx.1 he.1 he.2 hx.2 hL
end
end Go.Proofs.Ytknlpeloaapaiaa
