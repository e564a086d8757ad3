/- Two numbers replaced one after the other are as replaced at once: mathematics. The stamps of what is replaced: mathematics. The document's own: Stamps, Metas, Gens, Closed. -/
import Derived.Test.YtigliglmejkakaaQaa
import Derived.Test.YtigliglmejkakaaQac
import Derived.Test.YtigliglmejkakaaQad
import Derived.Test.YtigliglmejkakaaQam
namespace Go.Proofs.Ytigliglmejkakaa
open Go.RowKit
set_option linter.unusedVariables false

theorem Tp.mem_ins {l : List Int} {n x : Int} : x ∈ Tp.ins l n ↔ x ∈ l ∨ x = n := by
  unfold Tp.ins
  split
  · rename_i h
    constructor
    · exact .inl
    · rintro (h1 | rfl)
      · exact h1
      · exact h
  · simp
mutual
theorem Tp.found_mono (kind : Int) (x : Int) : ∀ (t : Tp) (l : List Int), x ∈ l → x ∈ Tp.found kind t l
  | .mk k n ks, l, h => by
    rw [Tp.found_mk]
    refine Tp.foundL_mono kind x ks _ ?_
    split
    · exact Tp.mem_ins.2 (.inl h)
    · exact h
theorem Tp.foundL_mono (kind : Int) (x : Int) : ∀ (ts : List Tp) (l : List Int), x ∈ l → x ∈ Tp.foundL kind ts l
  | [], l, h => by rw [Tp.foundL_nil]; exact h
  | t :: r, l, h => by rw [Tp.foundL_cons]; exact Tp.foundL_mono kind x r _ (Tp.found_mono kind x t l h)
end
theorem Tp.by_one (kind n : Int) (u : Tp) (k x : Int) : Tp.by kind [n] [u] k x = if k = kind then (if n = x then some u else none) else none := by
  unfold Tp.by Tp.idx Tp.idx
  by_cases h : k = kind
  · rw [if_pos h, if_pos h]
    by_cases h2 : n = x
    · simp [h2]
    · simp [h2]
  · rw [if_neg h, if_neg h]
theorem Tp.by_two (kind n m : Int) (u v : Tp) (k x : Int) : Tp.by kind [n, m] [u, v] k x = if k = kind then (if n = x then some u else if m = x then some v else none) else none := by
  unfold Tp.by Tp.idx Tp.idx Tp.idx
  by_cases h : k = kind
  · rw [if_pos h, if_pos h]
    by_cases h2 : n = x
    · simp [h2]
    · by_cases h3 : m = x
      · simp [h2, h3]
      · simp [h2, h3]
  · rw [if_neg h, if_neg h]
mutual
/-- What does not stand there is not replaced. -/
theorem Tp.put_not (kind m : Int) (v : Tp) : ∀ (t : Tp) (l : List Int), m ∉ Tp.found kind t l → Tp.put kind [m] [v] t = t
  | .mk k n ks, l, h => by
    rw [Tp.found_mk] at h
    have hb : Tp.by kind [m] [v] k n = none := by
      rw [Tp.by_one]
      by_cases hk : k = kind
      · rw [if_pos hk]
        by_cases hn : m = n
        · exact absurd (Tp.foundL_mono kind m ks _ (by rw [if_pos hk]; exact Tp.mem_ins.2 (.inr hn))) h
        · rw [if_neg hn]
      · rw [if_neg hk]
    rw [Tp.put, hb]
    show Tp.mk k n (Tp.putL kind [m] [v] ks) = _
    rw [Tp.putL_not kind m v ks _ h]
theorem Tp.putL_not (kind m : Int) (v : Tp) : ∀ (ts : List Tp) (l : List Int), m ∉ Tp.foundL kind ts l → Tp.putL kind [m] [v] ts = ts
  | [], l, h => by rw [Tp.putL]
  | t :: r, l, h => by
    rw [Tp.foundL_cons] at h
    rw [Tp.putL, Tp.putL_not kind m v r _ h, Tp.put_not kind m v t l (fun h1 => h (Tp.foundL_mono kind m r _ h1))]
end
mutual
theorem Tp.put_twice (kind n m : Int) (u v : Tp) (hne : n ≠ m) (hu : Tp.put kind [m] [v] u = u) : ∀ t : Tp, Tp.put kind [m] [v] (Tp.put kind [n] [u] t) = Tp.put kind [n, m] [u, v] t
  | .mk k x ks => by
    rw [Tp.put.eq_def kind [n, m] [u, v] (.mk k x ks), Tp.put.eq_def kind [n] [u] (.mk k x ks)]
    simp only [Tp.by_one, Tp.by_two]
    by_cases hk : k = kind
    · simp only [if_pos hk]
      by_cases h1 : n = x
      · simp only [if_pos h1]; exact hu
      · simp only [if_neg h1]
        rw [Tp.put, Tp.by_one, if_pos hk]
        by_cases h2 : m = x
        · simp only [if_pos h2]
        · simp only [if_neg h2]
          rw [Tp.putL_twice kind n m u v hne hu ks]
    · simp only [if_neg hk]
      rw [Tp.put, Tp.by_one, if_neg hk]
      show Tp.mk _ _ _ = _
      rw [Tp.putL_twice kind n m u v hne hu ks]
theorem Tp.putL_twice (kind n m : Int) (u v : Tp) (hne : n ≠ m) (hu : Tp.put kind [m] [v] u = u) : ∀ ts : List Tp, Tp.putL kind [m] [v] (Tp.putL kind [n] [u] ts) = Tp.putL kind [n, m] [u, v] ts
  | [] => by rw [Tp.putL, Tp.putL, Tp.putL]
  | t :: r => by rw [Tp.putL.eq_def kind [n] [u] (t :: r), Tp.putL.eq_def kind [n, m] [u, v] (t :: r)]; simp only; rw [Tp.putL, Tp.put_twice kind n m u v hne hu t, Tp.putL_twice kind n m u v hne hu r]
end
end Go.Proofs.Ytigliglmejkakaa

namespace Go.Proofs.Ytigliglmejkakaa
open Go.RowKit
set_option linter.unusedVariables false

mutual
/-- Does the number stand in a node of the kind? -/
def Tp.st (kind x : Int) : Tp → Prop
  | .mk k n ks => (k = kind ∧ n = x) ∨ Tp.stL kind x ks
def Tp.stL (kind x : Int) : List Tp → Prop
  | [] => False
  | t :: r => Tp.st kind x t ∨ Tp.stL kind x r
end
mutual
theorem Tp.mem_found (kind x : Int) : ∀ (t : Tp) (l : List Int), x ∈ Tp.found kind t l ↔ x ∈ l ∨ Tp.st kind x t
  | .mk k n ks, l => by
    rw [Tp.found_mk, Tp.mem_foundL kind x ks, Tp.st]
    by_cases h : k = kind
    · rw [if_pos h, Tp.mem_ins]
      constructor
      · rintro ((h1 | h1) | h1)
        · exact .inl h1
        · exact .inr (.inl ⟨h, h1.symm⟩)
        · exact .inr (.inr h1)
      · rintro (h1 | h1 | h1)
        · exact .inl (.inl h1)
        · exact .inl (.inr h1.2.symm)
        · exact .inr h1
    · rw [if_neg h]
      constructor
      · rintro (h1 | h1)
        · exact .inl h1
        · exact .inr (.inr h1)
      · rintro (h1 | h1 | h1)
        · exact .inl h1
        · exact absurd h1.1 h
        · exact .inr h1
theorem Tp.mem_foundL (kind x : Int) : ∀ (ts : List Tp) (l : List Int), x ∈ Tp.foundL kind ts l ↔ x ∈ l ∨ Tp.stL kind x ts
  | [], l => by rw [Tp.foundL_nil, Tp.stL]; simp
  | t :: r, l => by rw [Tp.foundL_cons, Tp.mem_foundL kind x r, Tp.mem_found kind x t, Tp.stL, or_assoc]
end
theorem Tp.own_leaf {n : Int} {c : Nat} (h : Tp.own 6 n c = true) : c = 0 := by
  unfold Tp.own at h
  simp at h
  omega
mutual
/-- A right type's stamps behind a replacing. -/
theorem Tp.st_put (n : Int) (u : Tp) (x : Int) : ∀ t : Tp, t.right = true → (Tp.st 6 x (Tp.put 6 [n] [u] t) ↔ (Tp.st 6 x t ∧ x ≠ n) ∨ (Tp.st 6 n t ∧ Tp.st 6 x u))
  | .mk k y ks, h => by
    rw [Tp.right, Bool.and_eq_true] at h
    have ih := Tp.stL_put n u x ks h.2
    rw [Tp.put, Tp.by_one]
    by_cases hk : k = 6
    · subst hk
      have h0 : ks = [] := List.eq_nil_of_length_eq_zero (Tp.own_leaf h.1)
      subst h0
      rw [if_pos rfl]
      by_cases hn : n = y
      · subst hn
        rw [if_pos rfl]
        simp only [Tp.st, Tp.stL, or_false, true_and]
        constructor
        · exact .inr
        · rintro (⟨h1, h2⟩ | h1)
          · exact absurd h1.symm h2
          · exact h1
      · rw [if_neg hn]
        simp only [Tp.st, Tp.stL, Tp.putL, or_false, true_and]
        constructor
        · intro h1; exact .inl ⟨h1, fun e => hn (by rw [h1, e])⟩
        · rintro (h1 | h1)
          · exact h1.1
          · exact absurd h1.1.symm hn
    · rw [if_neg hk]
      simp only [Tp.st, hk, false_and, false_or]
      exact ih
theorem Tp.stL_put (n : Int) (u : Tp) (x : Int) : ∀ ts : List Tp, Tp.rightL ts = true → (Tp.stL 6 x (Tp.putL 6 [n] [u] ts) ↔ (Tp.stL 6 x ts ∧ x ≠ n) ∨ (Tp.stL 6 n ts ∧ Tp.st 6 x u))
  | [], _ => by simp [Tp.putL, Tp.stL]
  | t :: r, h => by
    rw [Tp.rightL, Bool.and_eq_true] at h
    rw [Tp.putL, Tp.stL, Tp.stL, Tp.stL, Tp.st_put n u x t h.1, Tp.stL_put n u x r h.2]
    constructor
    · rintro ((h1 | h1) | (h1 | h1))
      · exact .inl ⟨.inl h1.1, h1.2⟩
      · exact .inr ⟨.inl h1.1, h1.2⟩
      · exact .inl ⟨.inr h1.1, h1.2⟩
      · exact .inr ⟨.inr h1.1, h1.2⟩
    · rintro (⟨h1 | h1, h2⟩ | ⟨h1 | h1, h2⟩)
      · exact .inl (.inl ⟨h1, h2⟩)
      · exact .inr (.inl ⟨h1, h2⟩)
      · exact .inl (.inr ⟨h1, h2⟩)
      · exact .inr (.inr ⟨h1, h2⟩)
end
mutual
/-- A stamp put in for itself changes nothing. -/
theorem Tp.put_self (n : Int) : ∀ t : Tp, t.right = true → Tp.put 6 [n] [.mk 6 n []] t = t
  | .mk k y ks, h => by
    rw [Tp.right, Bool.and_eq_true] at h
    rw [Tp.put, Tp.by_one]
    by_cases hk : k = 6
    · subst hk
      have h0 : ks = [] := List.eq_nil_of_length_eq_zero (Tp.own_leaf h.1)
      subst h0
      rw [if_pos rfl]
      by_cases hn : n = y
      · subst hn
        rw [if_pos rfl]
      · rw [if_neg hn]
        simp only [Tp.putL]
    · rw [if_neg hk]
      simp only
      rw [Tp.putL_self n ks h.2]
theorem Tp.putL_self (n : Int) : ∀ ts : List Tp, Tp.rightL ts = true → Tp.putL 6 [n] [.mk 6 n []] ts = ts
  | [], _ => by rw [Tp.putL]
  | t :: r, h => by
    rw [Tp.rightL, Bool.and_eq_true] at h
    rw [Tp.putL, Tp.put_self n t h.1, Tp.putL_self n r h.2]
end
end Go.Proofs.Ytigliglmejkakaa

namespace Go.Proofs.Ytigliglmejkakaa
open Go.RowKit
set_option linter.unusedVariables false
set_option linter.unusedSimpArgs false

theorem found_top (w : World) (n : Nat) (vs : List Value) (t : Tp) (kind : Int) (hT : TAt w Any n vs t) (hc : t.cnt ≤ 1048576) : Calls Try.prog 47 #[.agg vs.toArray, .int .i64 kind, .slice none 0 0] w fun e w' => ∃ p c, e = .returned (.slice p (Tp.found kind t []).length c) ∧ Ls w' Any (.slice p (Tp.found kind t []).length c) (Tp.found kind t []) ∧ Below w.heap.size w w' := by
  refine (found_any kind w.heap.size n w vs t (.slice none 0 0) [] (TAt.old hT) (Nat.le_refl _) (World.ownsRow_nil _ _ _ _) (by rw [List.length_nil]; omega)).mono ?_
  rintro e w' ⟨lv', rfl, h1, h2⟩
  obtain ⟨p, c, rfl⟩ := own_form h1
  exact ⟨p, c, rfl, Ls.of_own h1, h2.below (Nat.le_refl _) (fun b hb => by cases hb)⟩

set_option maxRecDepth 100000 in
theorem refStamps_any (w : World) (n : Nat) (vs : List Value) (t : Tp) (hT : TAt w Any n vs t) (hc : t.cnt ≤ 1048576) : Calls Try.prog 24 #[.agg vs.toArray] w fun e w' => ∃ p c, e = .returned (.slice p (Tp.found 6 t []).length c) ∧ Ls w' Any (.slice p (Tp.found 6 t []).length c) (Tp.found 6 t []) ∧ Below w.heap.size w w' := by
  have hq : Hid (∀ o, Calls Try.prog 47 #[.agg vs.toArray, .int .i64 6, .slice none 0 0] (w.alloc o) fun e w' => ∃ p c, e = .returned (.slice p (Tp.found 6 t []).length c) ∧ Ls w' Any (.slice p (Tp.found 6 t []).length c) (Tp.found 6 t []) ∧ Below w.heap.size w w') := fun o => (found_top _ n vs t 6 (hT.below (bl_alloc (Below.refl _ _) _)) hc).mono fun e w' ⟨p, c, h1, h2, h3⟩ => ⟨p, c, h1, h2, bl_tr (bl_alloc (Below.refl _ _) _) h3⟩
  obtain ⟨a, c, rfl⟩ := hT.form
  clear hT hc
  go_enter Try.func24, Try.ntmps24
  go_wp2_with (go_at_call 47; refine (hq.out _).mono ?_; rintro e w2 ⟨p2, c2, rfl, h2, hb2⟩; have H2 : Hid (Ls w2 Any _ _) := h2; clear h2)
  go_ret
  exact ⟨_, _, rfl, H2.out, hb2⟩

set_option maxRecDepth 100000 in
theorem refMetas_any (w : World) (n : Nat) (vs : List Value) (t : Tp) (hT : TAt w Any n vs t) (hc : t.cnt ≤ 1048576) : Calls Try.prog 30 #[.agg vs.toArray] w fun e w' => ∃ p c, e = .returned (.slice p (Tp.found 7 t []).length c) ∧ Ls w' Any (.slice p (Tp.found 7 t []).length c) (Tp.found 7 t []) ∧ Below w.heap.size w w' := by
  have hq : Hid (∀ o, Calls Try.prog 47 #[.agg vs.toArray, .int .i64 7, .slice none 0 0] (w.alloc o) fun e w' => ∃ p c, e = .returned (.slice p (Tp.found 7 t []).length c) ∧ Ls w' Any (.slice p (Tp.found 7 t []).length c) (Tp.found 7 t []) ∧ Below w.heap.size w w') := fun o => (found_top _ n vs t 7 (hT.below (bl_alloc (Below.refl _ _) _)) hc).mono fun e w' ⟨p, c, h1, h2, h3⟩ => ⟨p, c, h1, h2, bl_tr (bl_alloc (Below.refl _ _) _) h3⟩
  obtain ⟨a, c, rfl⟩ := hT.form
  clear hT hc
  go_enter Try.func30, Try.ntmps30
  go_wp2_with (go_at_call 47; refine (hq.out _).mono ?_; rintro e w2 ⟨p2, c2, rfl, h2, hb2⟩; have H2 : Hid (Ls w2 Any _ _) := h2; clear h2)
  go_ret
  exact ⟨_, _, rfl, H2.out, hb2⟩

set_option maxRecDepth 100000 in
theorem refGens_any (w : World) (n : Nat) (vs : List Value) (t : Tp) (hT : TAt w Any n vs t) (hc : t.cnt ≤ 1048576) : Calls Try.prog 46 #[.agg vs.toArray] w fun e w' => ∃ p c, e = .returned (.slice p (Tp.found 8 t []).length c) ∧ Ls w' Any (.slice p (Tp.found 8 t []).length c) (Tp.found 8 t []) ∧ Below w.heap.size w w' := by
  have hq : Hid (∀ o, Calls Try.prog 47 #[.agg vs.toArray, .int .i64 8, .slice none 0 0] (w.alloc o) fun e w' => ∃ p c, e = .returned (.slice p (Tp.found 8 t []).length c) ∧ Ls w' Any (.slice p (Tp.found 8 t []).length c) (Tp.found 8 t []) ∧ Below w.heap.size w w') := fun o => (found_top _ n vs t 8 (hT.below (bl_alloc (Below.refl _ _) _)) hc).mono fun e w' ⟨p, c, h1, h2, h3⟩ => ⟨p, c, h1, h2, bl_tr (bl_alloc (Below.refl _ _) _) h3⟩
  obtain ⟨a, c, rfl⟩ := hT.form
  clear hT hc
  go_enter Try.func46, Try.ntmps46
  go_wp2_with (go_at_call 47; refine (hq.out _).mono ?_; rintro e w2 ⟨p2, c2, rfl, h2, hb2⟩; have H2 : Hid (Ls w2 Any _ _) := h2; clear h2)
  go_ret
  exact ⟨_, _, rfl, H2.out, hb2⟩

mutual
theorem Tp.spares_st (l : List Int) : ∀ t : Tp, Tp.spares l t = true ↔ ∀ k ∈ l, ∀ x, ¬ Tp.st k x t
  | .mk k n ks => by
    rw [Tp.spares, Bool.and_eq_true, Tp.sparesL_st l ks]
    constructor
    · rintro ⟨h1, h2⟩ j hj x hx
      rw [Tp.st] at hx
      rcases hx with hx | hx
      · rw [Bool.not_eq_true', decide_eq_false_iff_not] at h1
        exact h1 (by rw [hx.1]; exact hj)
      · exact h2 j hj x hx
    · intro h
      refine ⟨?_, fun j hj x hx => h j hj x (by rw [Tp.st]; exact .inr hx)⟩
      rw [Bool.not_eq_true', decide_eq_false_iff_not]
      exact fun hk => h k hk n (by rw [Tp.st]; exact .inl ⟨rfl, rfl⟩)
theorem Tp.sparesL_st (l : List Int) : ∀ ts : List Tp, Tp.sparesL l ts = true ↔ ∀ k ∈ l, ∀ x, ¬ Tp.stL k x ts
  | [] => by simp [Tp.sparesL, Tp.stL]
  | t :: r => by
    rw [Tp.sparesL, Bool.and_eq_true, Tp.spares_st l t, Tp.sparesL_st l r]
    constructor
    · rintro ⟨h1, h2⟩ j hj x hx
      rw [Tp.stL] at hx
      rcases hx with hx | hx
      · exact h1 j hj x hx
      · exact h2 j hj x hx
    · intro h
      exact ⟨fun j hj x hx => h j hj x (by rw [Tp.stL]; exact .inl hx), fun j hj x hx => h j hj x (by rw [Tp.stL]; exact .inr hx)⟩
end
theorem Tp.found_nil (k : Int) (t : Tp) : Tp.found k t [] = [] ↔ ∀ x, ¬ Tp.st k x t := by
  rw [List.eq_nil_iff_forall_not_mem]
  constructor
  · intro h x hx; exact h x ((Tp.mem_found k x t []).2 (.inr hx))
  · intro h x hx
    rcases (Tp.mem_found k x t []).1 hx with h1 | h1
    · cases h1
    · exact h x h1
theorem Tp.closed_eq (t : Tp) : Tp.spares [7, 8] t = ((((Tp.found 7 t []).length : Int) == 0) && (((Tp.found 8 t []).length : Int) == 0)) := by
  rw [Bool.eq_iff_iff, Tp.spares_st, Bool.and_eq_true, beq_iff_eq, beq_iff_eq]
  constructor
  · intro h
    have h7 := (Tp.found_nil 7 t).2 (h 7 (by simp))
    have h8 := (Tp.found_nil 8 t).2 (h 8 (by simp))
    rw [h7, h8]; exact ⟨rfl, rfl⟩
  · rintro ⟨h7, h8⟩ k hk
    have e7 := (Tp.found_nil 7 t).1 (List.eq_nil_of_length_eq_zero (by omega))
    have e8 := (Tp.found_nil 8 t).1 (List.eq_nil_of_length_eq_zero (by omega))
    simp at hk
    rcases hk with rfl | rfl
    · exact e7
    · exact e8

set_option maxHeartbeats 1000000 in
set_option maxRecDepth 100000 in
theorem refClosed_any (w : World) (n : Nat) (vs : List Value) (t : Tp) (hT : TAt w Any n vs t) (hc : t.cnt ≤ 1048576) : Calls Try.prog 22 #[.agg vs.toArray] w fun e w' => e = .returned (.bool (Tp.spares [7, 8] t)) ∧ Below w.heap.size w w' := by
  have h7 : Hid (∀ wz, Below w.heap.size w wz → Calls Try.prog 30 #[.agg vs.toArray] wz fun e w' => ∃ p c, e = .returned (.slice p (Tp.found 7 t []).length c) ∧ Ls w' Any (.slice p (Tp.found 7 t []).length c) (Tp.found 7 t []) ∧ Below wz.heap.size wz w') := fun wz hz => refMetas_any wz n vs t (hT.below hz) hc
  have h8 : Hid (∀ wz, Below w.heap.size w wz → Calls Try.prog 46 #[.agg vs.toArray] wz fun e w' => ∃ p c, e = .returned (.slice p (Tp.found 8 t []).length c) ∧ Ls w' Any (.slice p (Tp.found 8 t []).length c) (Tp.found 8 t []) ∧ Below wz.heap.size wz w') := fun wz hz => refGens_any wz n vs t (hT.below hz) hc
  have HE : Hid (Tp.spares [7, 8] t = ((((Tp.found 7 t []).length : Int) == 0) && (((Tp.found 8 t []).length : Int) == 0))) := Tp.closed_eq t
  obtain ⟨a, c, rfl⟩ := hT.form
  have X : Hid (Arr (w.alloc (.cells #[.int .i64 t.k, .int .i64 t.n, .slice a t.ks.length c] 24)) w.heap.size 24 [.int .i64 t.k, .int .i64 t.n, .slice a t.ks.length c]) := ⟨heap_alloc_at _ _⟩
  have B1 : Hid (Below w.heap.size w (w.alloc (.cells #[.int .i64 t.k, .int .i64 t.n, .slice a t.ks.length c] 24))) := bl_alloc (Below.refl _ _) _
  clear hT hc
  generalize (Tp.found 7 t []) = l7 at h7 HE
  generalize (Tp.found 8 t []) = l8 at h8 HE
  cases e7 : ((l7.length : Int) == 0) with
  | false =>
    rw [e7, Bool.false_and] at HE
    go_enter Try.func22, Try.ntmps22
    go_wp2_with (first | (go_at_call 30; refine (h7.out _ B1.out).mono ?_; rintro e w2 ⟨p2, c2, rfl, -, hb2⟩))
    go_ret
    exact ⟨ret_bool HE.out.symm, bl_tr B1.out hb2⟩
  | true =>
    rw [e7, Bool.true_and] at HE
    go_enter Try.func22, Try.ntmps22
    go_wp2_with (first | (go_at_call 30; refine (h7.out _ B1.out).mono ?_; rintro e w2 ⟨p2, c2, rfl, -, hb2⟩; have X2 : Hid (Arr w2 w.heap.size 24 _) := X.out.stays hb2; have y2 := X2.out.cell; have B2 : Hid (Below w.heap.size w w2) := bl_tr B1.out hb2; clear hb2) | (go_at_call 46; refine (h8.out _ B2.out).mono ?_; rintro e w3 ⟨p3, c3, rfl, -, hb3⟩))
    go_ret
    exact ⟨ret_bool HE.out.symm, bl_tr B2.out hb3⟩
end Go.Proofs.Ytigliglmejkakaa
