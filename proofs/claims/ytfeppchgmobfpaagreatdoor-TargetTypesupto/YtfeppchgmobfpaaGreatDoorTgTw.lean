/- Putting in what is closed: mathematics. -/
import Derived.Test.YtfeppchgmobfpaaGreatDoorTgK8
namespace Go.Proofs.YtfeppchgmobfpaaGreatDoor
open Go.RowKit
set_option linter.unusedVariables false
set_option linter.unusedSimpArgs false

theorem lk_env {x : Int} {t : Tt} {e e' : List (Int × Int)} (h : lk e x = none → lk e' x = none) : lk (t.env e) x = none → lk (t.env e') x = none := by
  unfold Tt.env
  split
  · intro hq
    rw [lk_cons] at hq ⊢
    split at hq
    · cases hq
    · rename_i hne; rw [if_neg hne]; exact h hq
  · exact h
mutual
/-- What stands free under fewer binders. -/
theorem Tt.fv_weak (x : Int) : ∀ (t : Tt) (e e' : List (Int × Int)), (lk e x = none → lk e' x = none) → t.fv e x = true → t.fv e' x = true
  | .mk k n ls ks, e, e', h, hf => by
    rw [Tt.fv_mk] at hf ⊢
    simp only [Bool.or_eq_true, Bool.and_eq_true, beq_iff_eq, Option.isNone_iff_eq_none] at hf ⊢
    rcases hf with ⟨h1, h2, h3⟩ | hf
    · exact .inl ⟨h1, h2, h h3⟩
    · exact .inr (Tt.fvL_weak x ks _ _ (lk_env h) hf)
theorem Tt.fvL_weak (x : Int) : ∀ (l : List Tt) (e e' : List (Int × Int)), (lk e x = none → lk e' x = none) → Tt.fvL l e x = true → Tt.fvL l e' x = true
  | [], e, e', h, hf => by rw [Tt.fvL] at hf; cases hf
  | t :: r, e, e', h, hf => by
    rw [Tt.fvL] at hf ⊢
    simp only [Bool.or_eq_true] at hf ⊢
    exact hf.imp (Tt.fv_weak x t e e' h) (Tt.fvL_weak x r e e' h)
end
mutual
/-- A type with another one in place of a free number, nothing renamed. -/
def Tt.sub (n : Int) (u : Tt) : Tt → List (Int × Int) → Tt
  | .mk k x ls ks => fun e => if k = 6 ∧ lk e x = none ∧ x = n then u else .mk k x ls (Tt.subL n u ks ((Tt.mk k x ls ks).env e))
def Tt.subL (n : Int) (u : Tt) : List Tt → List (Int × Int) → List Tt
  | [] => fun _ => []
  | t :: r => fun e => Tt.sub n u t e :: Tt.subL n u r e
end
theorem Tt.sub_eq (n : Int) (u : Tt) (k x : Int) (ls : List ByteArray) (ks : List Tt) (e : List (Int × Int)) : Tt.sub n u (.mk k x ls ks) e = if k = 6 ∧ lk e x = none ∧ x = n then u else .mk k x ls (Tt.subL n u ks ((Tt.mk k x ls ks).env e)) := by rw [Tt.sub]
theorem Tt.subL_nil (n : Int) (u : Tt) (e : List (Int × Int)) : Tt.subL n u [] e = [] := by rw [Tt.subL]
theorem Tt.subL_cons (n : Int) (u t : Tt) (r : List Tt) (e : List (Int × Int)) : Tt.subL n u (t :: r) e = Tt.sub n u t e :: Tt.subL n u r e := by rw [Tt.subL]
theorem Tt.put_eq (n : Int) (u : Tt) (C : Int → Bool) (l : List Int) (k x : Int) (ls : List ByteArray) (ks : List Tt) (e : List (Int × Int)) (nx : Int) : (Tt.put n u C l (.mk k x ls ks) e nx).1 = if k = 6 ∧ lk e x = none ∧ x = n then u else .mk k ((Tt.mk k x ls ks).own3 C l e nx).1 ls (Tt.putL n u C l ks ((Tt.mk k x ls ks).own3 C l e nx).2.1 ((Tt.mk k x ls ks).own3 C l e nx).2.2).1 := by
  have hm := Tt.put_mk n u C l (.mk k x ls ks) e nx
  by_cases h : k = 6 ∧ lk e x = none ∧ x = n
  · rw [if_pos (show (Tt.mk k x ls ks).k = 6 ∧ lk e (Tt.mk k x ls ks).n = none ∧ (Tt.mk k x ls ks).n = n from h)] at hm
    rw [hm, if_pos h]
  · rw [if_neg (show ¬ ((Tt.mk k x ls ks).k = 6 ∧ lk e (Tt.mk k x ls ks).n = none ∧ (Tt.mk k x ls ks).n = n) from h)] at hm
    rw [hm, if_neg h]
    rfl
mutual
theorem Tt.sub_none (n : Int) (u : Tt) : ∀ (t : Tt) (e : List (Int × Int)), t.fv e n = false → Tt.sub n u t e = t
  | .mk k x ls ks, e, h => by
    rw [Tt.fv_mk] at h
    simp only [Bool.or_eq_false_iff] at h
    rw [Tt.sub_eq, if_neg (fun hq => by
      obtain ⟨h1, h2, h3⟩ := hq
      have := h.1
      subst h3
      simp [Tt.k, Tt.n, h1, h2] at this)]
    rw [Tt.subL_none n u ks _ h.2]
theorem Tt.subL_none (n : Int) (u : Tt) : ∀ (l : List Tt) (e : List (Int × Int)), Tt.fvL l e n = false → Tt.subL n u l e = l
  | [], e, h => Tt.subL_nil n u e
  | t :: r, e, h => by
    rw [Tt.fvL] at h
    simp only [Bool.or_eq_false_iff] at h
    rw [Tt.subL_cons, Tt.sub_none n u t e h.1, Tt.subL_none n u r e h.2]
end
theorem give_closed {C : Int → Bool} (hC : ∀ x, C x = false) (l : List Int) (nx x : Int) : give C l nx x = (x, nx) := by unfold give; rw [hC x]; rfl
mutual
theorem Tt.put_closed (n : Int) (u : Tt) {C : Int → Bool} (hC : ∀ x, C x = false) (l : List Int) : ∀ (t : Tt) (e e2 : List (Int × Int)) (nx : Int), (∀ p ∈ e, p.1 = p.2) → (∀ x, lk e x = none ↔ lk e2 x = none) → (Tt.put n u C l t e nx).1 = Tt.sub n u t e2
  | .mk k x ls ks, e, e2, nx, he, hk => by
    rw [Tt.put_eq, Tt.sub_eq]
    by_cases h : k = 6 ∧ lk e2 x = none ∧ x = n
    · rw [if_pos h, if_pos ⟨h.1, (hk x).2 h.2.1, h.2.2⟩]
    · rw [if_neg h, if_neg (fun hq => h ⟨hq.1, (hk x).1 hq.2.1, hq.2.2⟩)]
      have hO : (Tt.mk k x ls ks).own3 C l e nx = if k = 6 then ((lk e x).getD x, e, nx) else if (Tt.mk k x ls ks).binds then ((give C l nx x).1, (x, (give C l nx x).1) :: e, (give C l nx x).2) else (x, e, nx) := rfl
      have hE : (Tt.mk k x ls ks).env e2 = if (Tt.mk k x ls ks).binds then (x, (e2.length : Int)) :: e2 else e2 := rfl
      rw [give_closed hC] at hO
      obtain ⟨ho, h1, h2⟩ : ((Tt.mk k x ls ks).own3 C l e nx).1 = x ∧ (∀ p ∈ ((Tt.mk k x ls ks).own3 C l e nx).2.1, p.1 = p.2) ∧ ∀ y, lk ((Tt.mk k x ls ks).own3 C l e nx).2.1 y = none ↔ lk ((Tt.mk k x ls ks).env e2) y = none := by
        by_cases h6 : k = 6
        · have hb : (Tt.mk k x ls ks).binds = false := by unfold Tt.binds; simp [Tt.k, h6]
          rw [if_pos h6] at hO
          rw [hb] at hE
          rw [hO, hE]
          refine ⟨?_, he, hk⟩
          cases hl : lk e x with
          | none => rfl
          | some y => exact (he _ (lk_mem hl)).symm
        · rw [if_neg h6] at hO
          cases hb : (Tt.mk k x ls ks).binds with
          | false =>
            rw [hb] at hO hE
            rw [hO, hE]
            exact ⟨rfl, he, hk⟩
          | true =>
            rw [hb] at hO hE
            rw [hO, hE]
            refine ⟨rfl, fun p hp => ?_, fun y => ?_⟩
            · rcases List.mem_cons.1 hp with rfl | hp
              · rfl
              · exact he p hp
            · simp only [if_true]
              rw [lk_cons, lk_cons]
              by_cases hxy : x = y
              · rw [if_pos hxy, if_pos hxy]; simp
              · rw [if_neg hxy, if_neg hxy]; exact hk y
      rw [ho]
      exact congrArg (Tt.mk k x ls) (Tt.putL_closed n u hC l ks _ _ _ h1 h2)
theorem Tt.putL_closed (n : Int) (u : Tt) {C : Int → Bool} (hC : ∀ x, C x = false) (l : List Int) : ∀ (L : List Tt) (e e2 : List (Int × Int)) (nx : Int), (∀ p ∈ e, p.1 = p.2) → (∀ x, lk e x = none ↔ lk e2 x = none) → (Tt.putL n u C l L e nx).1 = Tt.subL n u L e2
  | [], e, e2, nx, _, _ => by rw [Tt.putL, Tt.subL_nil]
  | t :: r, e, e2, nx, he, hk => by
    rw [Tt.putL, Tt.subL_cons]
    show _ :: _ = _
    rw [Tt.put_closed n u hC l t e e2 nx he hk, Tt.putL_closed n u hC l r e e2 _ he hk]
end
/-- Put of a closed type. -/
theorem Tt.Put_closed (n : Int) {u : Tt} (hC : ∀ x, u.fv [] x = false) (l : List Int) (t : Tt) : t.Put n u l = Tt.sub n u t [] := by
  unfold Tt.Put
  split
  · exact Tt.put_closed n u hC l t [] [] 0 (fun p hp => by cases hp) (fun x => Iff.rfl)
  · rename_i h
    exact (Tt.sub_none n u t [] (by simpa using h)).symm
theorem Tt.closed_any {u : Tt} (h : ∀ x, u.fv [] x = false) (e : List (Int × Int)) (x : Int) : u.fv e x = false := by
  cases hq : u.fv e x with
  | false => rfl
  | true => have := Tt.fv_weak x u e [] (fun _ => rfl) hq; rw [h x] at this; cases this
mutual
/-- Two closed types, in either order. -/
theorem Tt.sub_sub {n m : Int} (hnm : n ≠ m) {a b : Tt} (ha : ∀ x, a.fv [] x = false) (hb : ∀ x, b.fv [] x = false) : ∀ (t : Tt) (e : List (Int × Int)), Tt.sub m b (Tt.sub n a t e) e = Tt.sub n a (Tt.sub m b t e) e
  | .mk k x ls ks, e => by
    by_cases h1 : k = 6 ∧ lk e x = none ∧ x = n
    · have h2 : ¬ (k = 6 ∧ lk e x = none ∧ x = m) := fun hq => hnm (h1.2.2.symm.trans hq.2.2)
      rw [Tt.sub_eq n a, if_pos h1, Tt.sub_none m b a e (Tt.closed_any ha e m), Tt.sub_eq m b, if_neg h2, Tt.sub_eq n a, if_pos h1]
    · by_cases h2 : k = 6 ∧ lk e x = none ∧ x = m
      · rw [Tt.sub_eq m b, if_pos h2, Tt.sub_none n a b e (Tt.closed_any hb e n), Tt.sub_eq n a, if_neg h1, Tt.sub_eq m b, if_pos h2]
      · rw [Tt.sub_eq n a, if_neg h1, Tt.sub_eq m b, if_neg h2, Tt.sub_eq m b, if_neg h2, Tt.sub_eq n a, if_neg h1]
        exact congrArg (Tt.mk k x ls) (Tt.subL_sub hnm ha hb ks _)
theorem Tt.subL_sub {n m : Int} (hnm : n ≠ m) {a b : Tt} (ha : ∀ x, a.fv [] x = false) (hb : ∀ x, b.fv [] x = false) : ∀ (l : List Tt) (e : List (Int × Int)), Tt.subL m b (Tt.subL n a l e) e = Tt.subL n a (Tt.subL m b l e) e
  | [], e => by rw [Tt.subL_nil, Tt.subL_nil, Tt.subL_nil]
  | t :: r, e => by
    rw [Tt.subL_cons, Tt.subL_cons, Tt.subL_cons, Tt.subL_cons, Tt.sub_sub hnm ha hb t e, Tt.subL_sub hnm ha hb r e]
end
mutual
theorem Tt.sub_cnt (n : Int) (u : Tt) : ∀ (t : Tt) (e : List (Int × Int)), (Tt.sub n u t e).cnt ≤ t.cnt * u.cnt ∧ (Tt.sub n u t e).deepest ≤ t.deepest + u.deepest
  | .mk k x ls ks, e => by
    have hu := u.cnt_pos
    rw [Tt.sub_eq]
    split
    · rw [Tt.cnt, Tt.deepest]
      constructor
      · rw [Nat.add_mul]; omega
      · omega
    · have := Tt.subL_cnt n u ks ((Tt.mk k x ls ks).env e)
      rw [Tt.cnt, Tt.cnt, Tt.deepest, Tt.deepest]
      constructor
      · rw [Nat.add_mul]; omega
      · omega
theorem Tt.subL_cnt (n : Int) (u : Tt) : ∀ (l : List Tt) (e : List (Int × Int)), Tt.cntL (Tt.subL n u l e) ≤ Tt.cntL l * u.cnt ∧ Tt.deepestL (Tt.subL n u l e) ≤ Tt.deepestL l + u.deepest
  | [], e => by rw [Tt.subL_nil, Tt.cntL, Tt.deepestL]; omega
  | t :: r, e => by
    have h1 := Tt.sub_cnt n u t e
    have h2 := Tt.subL_cnt n u r e
    rw [Tt.subL_cons, Tt.cntL, Tt.cntL, Tt.deepestL, Tt.deepestL]
    constructor
    · rw [Nat.add_mul]; omega
    · omega
end
mutual
theorem Tt.sub2_cnt {n m : Int} {a b : Tt} (ha : ∀ x, a.fv [] x = false) : ∀ (t : Tt) (e : List (Int × Int)), (Tt.sub m b (Tt.sub n a t e) e).cnt ≤ t.cnt * (a.cnt + b.cnt) ∧ (Tt.sub m b (Tt.sub n a t e) e).deepest ≤ t.deepest + a.deepest + b.deepest
  | .mk k x ls ks, e => by
    have hu := a.cnt_pos
    have hv := b.cnt_pos
    rw [Tt.sub_eq n a]
    split
    · rw [Tt.sub_none m b a e (Tt.closed_any ha e m), Tt.cnt, Tt.deepest]
      constructor
      · rw [Nat.add_mul]; omega
      · omega
    · rw [Tt.sub_eq m b]
      split
      · rw [Tt.cnt, Tt.deepest]
        constructor
        · rw [Nat.add_mul]; omega
        · omega
      · have := Tt.subL2_cnt (n := n) (m := m) (b := b) ha ks ((Tt.mk k x ls ks).env e)
        show (Tt.mk k x ls (Tt.subL m b (Tt.subL n a ks ((Tt.mk k x ls ks).env e)) ((Tt.mk k x ls ks).env e))).cnt ≤ _ ∧ (Tt.mk k x ls (Tt.subL m b (Tt.subL n a ks ((Tt.mk k x ls ks).env e)) ((Tt.mk k x ls ks).env e))).deepest ≤ _
        rw [Tt.cnt, Tt.cnt, Tt.deepest, Tt.deepest]
        constructor
        · rw [Nat.add_mul]; omega
        · omega
theorem Tt.subL2_cnt {n m : Int} {a b : Tt} (ha : ∀ x, a.fv [] x = false) : ∀ (l : List Tt) (e : List (Int × Int)), Tt.cntL (Tt.subL m b (Tt.subL n a l e) e) ≤ Tt.cntL l * (a.cnt + b.cnt) ∧ Tt.deepestL (Tt.subL m b (Tt.subL n a l e) e) ≤ Tt.deepestL l + a.deepest + b.deepest
  | [], e => by rw [Tt.subL_nil, Tt.subL_nil, Tt.cntL, Tt.deepestL]; omega
  | t :: r, e => by
    have h1 := Tt.sub2_cnt (n := n) (m := m) (b := b) ha t e
    have h2 := Tt.subL2_cnt (n := n) (m := m) (b := b) ha r e
    rw [Tt.subL_cons, Tt.subL_cons, Tt.cntL, Tt.cntL, Tt.deepestL, Tt.deepestL]
    constructor
    · rw [Nat.add_mul]; omega
    · omega
end
theorem eqLs_refl : ∀ l : List ByteArray, Tt.eqLs l l = true
  | [] => rfl
  | a :: r => by rw [Tt.eqLs, eqLs_refl r]; simp [Tt.eqS]
theorem Tt.one_refl (e : List (Int × Int)) (x : Int) : Tt.one e e x x = true := by
  unfold Tt.one
  cases lk e x with
  | none => exact beq_self_eq_true x
  | some a => exact beq_self_eq_true a
mutual
theorem Tt.same_refl : ∀ (t : Tt) (e : List (Int × Int)), Tt.same t t e e = true
  | .mk k n ls ks, e => by
    rw [Tt.same_mk, Tt.sameL_refl, Bool.and_true]
    unfold Tt.alike Tt.num
    rw [eqLs_refl, Tt.one_refl]
    simp
theorem Tt.sameL_refl : ∀ (l : List Tt) (e : List (Int × Int)), Tt.sameL l l e e = true
  | [], e => by rw [Tt.sameL]
  | t :: r, e => by rw [Tt.sameL]; show (Tt.same t t e e && Tt.sameL r r e e) = true; rw [Tt.same_refl t e, Tt.sameL_refl r e]; rfl
end
theorem Tt.free_closed {t : Tt} {l : List Int} (h : Tt.IsFree (t.fv []) l) (h0 : l.length = 0) : ∀ x, t.fv [] x = false := fun x => by
  cases hq : t.fv [] x with
  | false => rfl
  | true => have := (h.2 x).2 hq; rw [List.eq_nil_of_length_eq_zero h0] at this; cases this
end Go.Proofs.YtfeppchgmobfpaaGreatDoor
