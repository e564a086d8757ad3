/- The document's own: Stamps, Metas, Gens, Closed. -/
import Derived.Test.YthijckdhndbdoaaTpFd
import Derived.Test.YthijckdhndbdoaaTpPg
namespace Go.Proofs.Ythijckdhndbdoaa
open Go.RowKit
set_option linter.unusedVariables false
set_option linter.unusedSimpArgs false

theorem found_top (w : World) (n : Nat) (vs : List Value) (t : Tp) (kind : Int) (hT : TAt w Any n vs t) (hc : t.cnt ≤ 1048576) : Calls Try.prog 58 #[.agg vs.toArray, .int .i64 kind, .slice none 0 0] w fun e w' => ∃ p c, e = .returned (.slice p (Tp.found kind t []).length c) ∧ Ls w' Any (.slice p (Tp.found kind t []).length c) (Tp.found kind t []) ∧ Below w.heap.size w w' := by
  refine (found_any kind w.heap.size n w vs t (.slice none 0 0) [] (TAt.old hT) (Nat.le_refl _) (World.ownsRow_nil _ _ _ _) (by rw [List.length_nil]; omega)).mono ?_
  rintro e w' ⟨lv', rfl, h1, h2⟩
  obtain ⟨p, c, rfl⟩ := own_form h1
  exact ⟨p, c, rfl, Ls.of_own h1, h2.below (Nat.le_refl _) (fun b hb => by cases hb)⟩





set_option maxRecDepth 100000 in
theorem refGens_any (w : World) (n : Nat) (vs : List Value) (t : Tp) (hT : TAt w Any n vs t) (hc : t.cnt ≤ 1048576) : Calls Try.prog 36 #[.agg vs.toArray] w fun e w' => ∃ p c, e = .returned (.slice p (Tp.found 8 t []).length c) ∧ Ls w' Any (.slice p (Tp.found 8 t []).length c) (Tp.found 8 t []) ∧ Below w.heap.size w w' := by
  have hq : Hid (∀ o, Calls Try.prog 58 #[.agg vs.toArray, .int .i64 8, .slice none 0 0] (w.alloc o) fun e w' => ∃ p c, e = .returned (.slice p (Tp.found 8 t []).length c) ∧ Ls w' Any (.slice p (Tp.found 8 t []).length c) (Tp.found 8 t []) ∧ Below w.heap.size w w') := fun o => (found_top _ n vs t 8 (hT.below (bl_alloc (Below.refl _ _) _)) hc).mono fun e w' ⟨p, c, h1, h2, h3⟩ => ⟨p, c, h1, h2, bl_tr (bl_alloc (Below.refl _ _) _) h3⟩
  obtain ⟨a, c, rfl⟩ := hT.form
  clear hT hc
  go_enter Try.func36, Try.ntmps36
  go_wp2_with (go_at_call 58; refine (hq.out _).mono ?_; rintro e w2 ⟨p2, c2, rfl, h2, hb2⟩; have H2 : Hid (Ls w2 Any _ _) := h2; clear h2)
  go_ret
  exact ⟨_, _, rfl, H2.out, hb2⟩

mutual
theorem Tp.spares_st (l : List Int) : ∀ t : Tp, Tp.spares l t = true ↔ ∀ k ∈ l, ∀ x, ¬ Tp.st k x t
  | .mk k n ks => by
    rw [Tp.spares, Bool.and_eq_true, Tp.sparesL_st l ks]
    constructor
    · rintro ⟨h1, h2⟩ j hj x hx
      rw [Tp.st] at hx
      rcases hx with hx | hx
      · rw [Bool.not_eq_true', decide_eq_false_iff_not] at h1
        exact h1 (by rw [hx.1]; exact hj)
      · exact h2 j hj x hx
    · intro h
      refine ⟨?_, fun j hj x hx => h j hj x (by rw [Tp.st]; exact .inr hx)⟩
      rw [Bool.not_eq_true', decide_eq_false_iff_not]
      exact fun hk => h k hk n (by rw [Tp.st]; exact .inl ⟨rfl, rfl⟩)
theorem Tp.sparesL_st (l : List Int) : ∀ ts : List Tp, Tp.sparesL l ts = true ↔ ∀ k ∈ l, ∀ x, ¬ Tp.stL k x ts
  | [] => by simp [Tp.sparesL, Tp.stL]
  | t :: r => by
    rw [Tp.sparesL, Bool.and_eq_true, Tp.spares_st l t, Tp.sparesL_st l r]
    constructor
    · rintro ⟨h1, h2⟩ j hj x hx
      rw [Tp.stL] at hx
      rcases hx with hx | hx
      · exact h1 j hj x hx
      · exact h2 j hj x hx
    · intro h
      exact ⟨fun j hj x hx => h j hj x (by rw [Tp.stL]; exact .inl hx), fun j hj x hx => h j hj x (by rw [Tp.stL]; exact .inr hx)⟩
end
theorem Tp.found_nil (k : Int) (t : Tp) : Tp.found k t [] = [] ↔ ∀ x, ¬ Tp.st k x t := by
  rw [List.eq_nil_iff_forall_not_mem]
  constructor
  · intro h x hx; exact h x ((Tp.mem_found k x t []).2 (.inr hx))
  · intro h x hx
    rcases (Tp.mem_found k x t []).1 hx with h1 | h1
    · cases h1
    · exact h x h1
theorem Tp.closed_eq (t : Tp) : Tp.spares [7, 8] t = ((((Tp.found 7 t []).length : Int) == 0) && (((Tp.found 8 t []).length : Int) == 0)) := by
  rw [Bool.eq_iff_iff, Tp.spares_st, Bool.and_eq_true, beq_iff_eq, beq_iff_eq]
  constructor
  · intro h
    have h7 := (Tp.found_nil 7 t).2 (h 7 (by simp))
    have h8 := (Tp.found_nil 8 t).2 (h 8 (by simp))
    rw [h7, h8]; exact ⟨rfl, rfl⟩
  · rintro ⟨h7, h8⟩ k hk
    have e7 := (Tp.found_nil 7 t).1 (List.eq_nil_of_length_eq_zero (by omega))
    have e8 := (Tp.found_nil 8 t).1 (List.eq_nil_of_length_eq_zero (by omega))
    simp at hk
    rcases hk with rfl | rfl
    · exact e7
    · exact e8

end Go.Proofs.Ythijckdhndbdoaa