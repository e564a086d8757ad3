/- Right types have unlike texts, where they are unlike. -/
import Derived.Test.YtbdohoebpaiecabDoorTpT1
namespace Go.Proofs.YtbdohoebpaiecabDoor
set_option linter.unusedVariables false

-- numerals
theorem Tp.dec_ne (u : Nat) : Lib.decDigits u ≠ [] := by
  rw [Lib.decDigits]; split <;> simp
theorem Tp.dig_inj {a b : Nat} (ha : a < 10) (hb : b < 10) (h : UInt8.ofNat (48 + a) = UInt8.ofNat (48 + b)) : a = b := by
  have := congrArg UInt8.toNat h
  rw [UInt8.toNat_ofNat', UInt8.toNat_ofNat'] at this
  omega
theorem Tp.dec_inj : ∀ (n u v : Nat), u ≤ n → Lib.decDigits u = Lib.decDigits v → u = v := by
  intro n
  induction n with
  | zero =>
    intro u v hu h
    obtain rfl : u = 0 := by omega
    rw [Lib.decDigits, dif_pos (by decide)] at h
    rw [Lib.decDigits] at h
    split at h
    · have := Tp.dig_inj (by decide) (by assumption) (List.head_eq_of_cons_eq h); exact this
    · exfalso
      have hl := congrArg List.length h
      have := List.length_pos_iff.2 (Tp.dec_ne (v / 10))
      rw [List.length_append] at hl
      simp only [List.length_cons, List.length_nil] at hl
      omega
  | succ n ih =>
    intro u v hu h
    rw [Lib.decDigits, Lib.decDigits.eq_def v] at h
    split at h
    · split at h
      · exact Tp.dig_inj (by assumption) (by assumption) (List.head_eq_of_cons_eq h)
      · exfalso
        have hl := congrArg List.length h
        have := List.length_pos_iff.2 (Tp.dec_ne (v / 10))
        rw [List.length_append] at hl
        simp only [List.length_cons, List.length_nil] at hl
        omega
    · split at h
      · exfalso
        have hl := congrArg List.length h
        have := List.length_pos_iff.2 (Tp.dec_ne (u / 10))
        rw [List.length_append] at hl
        simp only [List.length_cons, List.length_nil] at hl
        omega
      · have h1 := List.append_inj' h rfl
        have h2 := Tp.dig_inj (Nat.mod_lt _ (by decide)) (Nat.mod_lt _ (by decide)) (List.head_eq_of_cons_eq h1.2)
        have h3 := ih (u / 10) (v / 10) (by omega) h1.1
        omega
theorem Tp.itoa_inj {m n : Int} (hm : 0 ≤ m) (hn : 0 ≤ n) (h : Lib.itoa m = Lib.itoa n) : m = n := by
  unfold Lib.itoa at h
  rw [if_neg (by omega), if_neg (by omega)] at h
  have := Tp.dec_inj _ _ _ (Nat.le_refl _) h
  omega
/-- A sign within a name: no blank, no parenthesis. -/
def Tp.okc (c : UInt8) : Bool := decide (c ≠ 32) && decide (c ≠ 40) && decide (c ≠ 41)
theorem Tp.dig_ok {a : Nat} (ha : a < 10) : Tp.okc (UInt8.ofNat (48 + a)) = true := by
  have : a = 0 ∨ a = 1 ∨ a = 2 ∨ a = 3 ∨ a = 4 ∨ a = 5 ∨ a = 6 ∨ a = 7 ∨ a = 8 ∨ a = 9 := by omega
  rcases this with rfl | rfl | rfl | rfl | rfl | rfl | rfl | rfl | rfl | rfl <;> decide
theorem Tp.let_ok {a : Nat} (ha : a < 26) : Tp.okc (UInt8.ofNat (97 + a)) = true := by
  have h : (UInt8.ofNat (97 + a)).toNat = 97 + a := by rw [UInt8.toNat_ofNat']; omega
  unfold Tp.okc
  simp only [Bool.and_eq_true, decide_eq_true_eq]
  refine ⟨⟨?_, ?_⟩, ?_⟩ <;> intro e <;> rw [e] at h <;> simp at h <;> omega
theorem Tp.let_inj {a b : Nat} (ha : a < 26) (hb : b < 26) (h : UInt8.ofNat (97 + a) = UInt8.ofNat (97 + b)) : a = b := by
  have := congrArg UInt8.toNat h
  rw [UInt8.toNat_ofNat', UInt8.toNat_ofNat'] at this
  omega
theorem Tp.dec_ok (n u : Nat) (hu : u ≤ n) : ∀ c ∈ Lib.decDigits u, Tp.okc c = true := by
  induction n generalizing u with
  | zero =>
    obtain rfl : u = 0 := by omega
    intro c hc
    rw [Lib.decDigits, dif_pos (by decide)] at hc
    simp at hc; subst hc; decide
  | succ n ih =>
    intro c hc
    rw [Lib.decDigits] at hc
    split at hc
    · rw [List.mem_singleton] at hc; rw [hc]; exact Tp.dig_ok (by assumption)
    · rw [List.mem_append] at hc
      rcases hc with hc | hc
      · exact ih _ (by omega) c hc
      · rw [List.mem_singleton] at hc; rw [hc]; exact Tp.dig_ok (Nat.mod_lt _ (by decide))
theorem Tp.itoa_ok {n : Int} (hn : 0 ≤ n) : ∀ c ∈ Lib.itoa n, Tp.okc c = true := by
  unfold Lib.itoa
  rw [if_neg (by omega)]
  exact Tp.dec_ok _ _ (Nat.le_refl _)
/-- A right type that is neither a function nor a pair. -/
def Tp.leafy (t : Tp) : Prop := (t.k = 1 ∨ t.k = 2 ∨ t.k = 3) ∧ t.n = 0 ∧ t.ks = [] ∨ (t.k = 6 ∨ t.k = 7 ∨ t.k = 8) ∧ 0 ≤ t.n ∧ t.ks = []
theorem Tp.right_cases {t : Tp} (h : t.right = true) : t.leafy ∨ ∃ a b, (t = .mk 4 0 [a, b] ∨ t = .mk 5 0 [a, b]) ∧ a.right = true ∧ b.right = true := by
  obtain ⟨k, n, ks⟩ := t
  rw [Tp.right, Bool.and_eq_true] at h
  obtain ⟨h1, h2⟩ := h
  unfold Tp.own at h1
  split at h1
  · simp only [Bool.and_eq_true, decide_eq_true_eq] at h1
    exact .inl (.inl ⟨by assumption, h1.1, List.eq_nil_of_length_eq_zero h1.2⟩)
  · split at h1
    · simp only [Bool.and_eq_true, decide_eq_true_eq] at h1
      obtain ⟨rfl, h1⟩ := h1
      match ks, h1 with
      | [a, b], _ =>
        rw [Tp.rightL, Tp.rightL, Tp.rightL] at h2
        simp only [Bool.and_eq_true] at h2
        refine .inr ⟨a, b, ?_, h2.1, h2.2.1⟩
        have hk : k = 4 ∨ k = 5 := by assumption
        rcases hk with rfl | rfl
        · exact .inl rfl
        · exact .inr rfl
    · split at h1
      · simp only [Bool.and_eq_true, decide_eq_true_eq] at h1
        exact .inl (.inr ⟨by assumption, h1.1, List.eq_nil_of_length_eq_zero h1.2⟩)
      · cases h1
theorem Tp.leafy_text {t : Tp} (h : t.leafy) : t.text = Tp.leaf t.k t.n ∧ t.level = 3 := by
  have h4 : t.k ≠ 4 := by rcases h with ⟨h, -⟩ | ⟨h, -⟩ <;> omega
  have h5 : t.k ≠ 5 := by rcases h with ⟨h, -⟩ | ⟨h, -⟩ <;> omega
  refine ⟨Tp.text_leaf h4 h5, ?_⟩
  unfold Tp.level
  rw [if_neg (fun h => h4 h.1), if_neg (fun h => h5 h.1)]
theorem Tp.gen_ok {n : Int} (hn : 0 ≤ n) : ∀ c ∈ Tp.gen n, Tp.okc c = true := by
  unfold Tp.gen
  rw [if_neg (by omega)]
  intro c hc
  simp only [List.mem_append] at hc
  rcases hc with (hc | hc) | hc
  · simp at hc; subst hc; decide
  · simp only [List.mem_cons, List.not_mem_nil, or_false] at hc; subst hc; exact Tp.let_ok (Nat.mod_lt _ (by decide))
  · split at hc
    · exact Tp.itoa_ok (by omega) c hc
    · simp at hc
theorem Tp.gen_nonneg {n : Int} (hn : 0 ≤ n) : Tp.gen n = 39 :: UInt8.ofNat (97 + n.toNat % 26) :: (if 26 ≤ n then Lib.itoa (n / 26) else []) := by
  unfold Tp.gen; rw [if_neg (by omega)]; rfl
theorem Tp.gen_inj {m n : Int} (hm : 0 ≤ m) (hn : 0 ≤ n) (h : Tp.gen m = Tp.gen n) : m = n := by
  rw [Tp.gen_nonneg hm, Tp.gen_nonneg hn] at h
  replace h := List.tail_eq_of_cons_eq h
  have h1 := Tp.let_inj (Nat.mod_lt _ (by decide)) (Nat.mod_lt _ (by decide)) (List.head_eq_of_cons_eq h)
  have h2 := List.tail_eq_of_cons_eq h
  have ne : ∀ x : Int, Lib.itoa x ≠ [] := by intro x; unfold Lib.itoa; split <;> simp [Tp.dec_ne]
  split at h2
  · split at h2
    · have := Tp.itoa_inj (by omega) (by omega) h2; omega
    · exact absurd h2 (ne _)
  · split at h2
    · exact absurd h2.symm (ne _)
    · omega
theorem Tp.leaf_ok {t : Tp} (h : t.leafy) : ∀ c ∈ Tp.leaf t.k t.n, Tp.okc c = true := by
  rcases h with ⟨hk, hn, -⟩ | ⟨hk, hn, -⟩
  · rcases hk with hk | hk | hk <;> rw [hk] <;> unfold Tp.leaf <;> simp <;> decide
  · rcases hk with hk | hk | hk
    · rw [hk]
      intro c hc
      have : Tp.leaf 6 t.n = [35] ++ Lib.itoa t.n := rfl
      rw [this, List.mem_append] at hc
      rcases hc with hc | hc
      · simp at hc; subst hc; decide
      · exact Tp.itoa_ok hn c hc
    · rw [hk]
      intro c hc
      have : Tp.leaf 7 t.n = [63] ++ Lib.itoa t.n := rfl
      rw [this, List.mem_append] at hc
      rcases hc with hc | hc
      · simp at hc; subst hc; decide
      · exact Tp.itoa_ok hn c hc
    · rw [hk]
      have : Tp.leaf 8 t.n = Tp.gen t.n := rfl
      rw [this]
      exact Tp.gen_ok hn
theorem Tp.leaf_head (t : Tp) (h : t.leafy) : ∃ r, Tp.leaf t.k t.n = (if t.k = 1 then 105 else if t.k = 2 then 98 else if t.k = 3 then 117 else if t.k = 6 then 35 else if t.k = 7 then 63 else 39) :: r := by
  rcases h with ⟨hk, -, -⟩ | ⟨hk, hn, -⟩
  · rcases hk with hk | hk | hk <;> rw [hk] <;> exact ⟨_, rfl⟩
  · rcases hk with hk | hk | hk
    · rw [hk]; exact ⟨_, rfl⟩
    · rw [hk]; exact ⟨_, rfl⟩
    · rw [hk]
      exact ⟨_, Tp.gen_nonneg hn⟩
theorem Tp.leaf_inj {x y : Tp} (hx : x.leafy) (hy : y.leafy) (h : Tp.leaf x.k x.n = Tp.leaf y.k y.n) : x = y := by
  obtain ⟨k, n, ks⟩ := x
  obtain ⟨k', n', ks'⟩ := y
  obtain ⟨r, hr⟩ := Tp.leaf_head _ hx
  obtain ⟨r', hr'⟩ := Tp.leaf_head _ hy
  rw [hr, hr'] at h
  have hh := List.head_eq_of_cons_eq h
  rw [← hr, ← hr'] at h
  simp only [Tp.k, Tp.n] at h hh
  simp only [Tp.leafy, Tp.k, Tp.n, Tp.ks] at hx hy
  have hk : k = k' := by
    have h1 : k = 1 ∨ k = 2 ∨ k = 3 ∨ k = 6 ∨ k = 7 ∨ k = 8 := by omega
    have h2 : k' = 1 ∨ k' = 2 ∨ k' = 3 ∨ k' = 6 ∨ k' = 7 ∨ k' = 8 := by omega
    rcases h1 with rfl | rfl | rfl | rfl | rfl | rfl <;> rcases h2 with rfl | rfl | rfl | rfl | rfl | rfl <;> first | rfl | (exfalso; simp at hh)
  subst hk
  have hn : n = n' := by
    rcases hx with ⟨hk, hn, -⟩ | ⟨hk, hn, -⟩
    · rcases hy with ⟨-, hn', -⟩ | ⟨hk', -, -⟩
      · omega
      · omega
    · rcases hy with ⟨hk', -, -⟩ | ⟨-, hn', -⟩
      · omega
      · rcases hk with rfl | rfl | rfl
        · exact Tp.itoa_inj hn hn' (List.append_cancel_left (show [35] ++ Lib.itoa n = [35] ++ Lib.itoa n' from h))
        · exact Tp.itoa_inj hn hn' (List.append_cancel_left (show [63] ++ Lib.itoa n = [63] ++ Lib.itoa n' from h))
        · exact Tp.gen_inj hn hn' h
  subst hn
  obtain rfl : ks = [] := by rcases hx with ⟨-, -, h⟩ | ⟨-, -, h⟩ <;> exact h
  obtain rfl : ks' = [] := by rcases hy with ⟨-, -, h⟩ | ⟨-, -, h⟩ <;> exact h
  rfl
end Go.Proofs.YtbdohoebpaiecabDoor
