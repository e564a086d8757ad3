/- What is free where a type was put in: mathematics. -/
import Derived.Test.YtfeppchgmobfpaaGreatDoorTgS2
import Derived.Test.YtfeppchgmobfpaaGreatDoorTgTw
namespace Go.Proofs.YtfeppchgmobfpaaGreatDoor
open Go.RowKit
set_option linter.unusedVariables false
set_option linter.unusedSimpArgs false

theorem Tt.fvL_keys (l : List Tt) (e e' : List (Int × Int)) (x : Int) (h : lk e x = none ↔ lk e' x = none) : Tt.fvL l e x = true ↔ Tt.fvL l e' x = true := ⟨Tt.fvL_weak x l e e' h.1, Tt.fvL_weak x l e' e h.2⟩
theorem Tt.right_var {k n : Int} {ls : List ByteArray} {ks : List Tt} (h : (Tt.mk k n ls ks).right = true) (h6 : k = 6) : ks = [] := by
  subst h6
  rw [Tt.right] at h
  simp only [Bool.and_eq_true] at h
  have h1 := h.1
  unfold Tt.own Tt.near at h1
  simp at h1
  exact h1.2
theorem Tt.right_kids {k n : Int} {ls : List ByteArray} {ks : List Tt} (h : (Tt.mk k n ls ks).right = true) : Tt.rightL ks = true := by
  rw [Tt.right] at h
  simp only [Bool.and_eq_true] at h
  exact h.2.2
theorem give_good {C : Int → Bool} {l : List Int} (hCl : ∀ x, C x = true → x ∈ l) (nx x : Int) : C (give C l nx x).1 = false ∧ ((give C l nx x).1 = x ∨ (give C l nx x).1 ∉ l) := by
  unfold give
  cases hc : C x with
  | false => exact ⟨hc, .inl rfl⟩
  | true =>
    have h1 := fresh_not l l.length nx (from_le l nx)
    simp only [if_true]
    refine ⟨?_, .inr h1⟩
    cases h2 : C (fresh l l.length nx) with
    | false => rfl
    | true => exact absurd (hCl _ h2) h1
mutual
theorem Tt.fv_put (num : Int) (u : Tt) (l : List Int) (hCl : ∀ x, u.fv [] x = true → x ∈ l) (w : Int) : ∀ (t : Tt) (e E : List (Int × Int)) (nx : Int), t.right = true → (∀ x, t.av x = true → x ∈ l) → (∀ x y, lk e x = some y → lk E y ≠ none) → (∀ y, lk E y ≠ none → u.fv [] y = false ∧ ∀ z, z ∈ l → lk e z = none → z ≠ y) →
    ((Tt.put num u (u.fv []) l t e nx).1.fv E w = true ↔ (t.fv e w = true ∧ w ≠ num) ∨ (u.fv [] w = true ∧ t.fv e num = true))
  | .mk k x ls ks, e, E, nx, hr, hav, h1, h2 => by
    rw [Tt.put_eq]
    have hO : (Tt.mk k x ls ks).own3 (u.fv []) l e nx = if k = 6 then ((lk e x).getD x, e, nx) else if (Tt.mk k x ls ks).binds then ((give (u.fv []) l nx x).1, (x, (give (u.fv []) l nx x).1) :: e, (give (u.fv []) l nx x).2) else (x, e, nx) := rfl
    by_cases h6 : k = 6
    · have hks := Tt.right_var hr h6
      subst hks h6
      rw [if_pos rfl] at hO
      have hfv : ∀ e y, (Tt.mk 6 x ls []).fv e y = true ↔ (x = y ∧ lk e y = none) := fun e y => by
        rw [Tt.fv_mk]
        simp [Tt.k, Tt.n, Tt.ks, Tt.fvL]
      have hxl : x ∈ l := hav x (by rw [Tt.av_mk]; simp [Tt.k, Tt.n])
      by_cases hst : (6 : Int) = 6 ∧ lk e x = none ∧ x = num
      · rw [if_pos hst, hfv, hfv]
        obtain ⟨-, hn, rfl⟩ := hst
        constructor
        · intro hq
          exact .inr ⟨Tt.fv_weak w u E [] (fun _ => rfl) hq, rfl, hn⟩
        · rintro (⟨⟨hq, -⟩, hne⟩ | ⟨hq, -⟩)
          · exact absurd hq.symm hne
          · refine Tt.fv_weak w u [] E (fun _ => ?_) hq
            cases hE : lk E w with
            | none => rfl
            | some y =>
              have := (h2 w (by rw [hE]; simp)).1
              rw [hq] at this
              cases this
      · rw [if_neg hst, hO]
        show (Tt.mk 6 ((lk e x).getD x) ls (Tt.putL num u (u.fv []) l [] e nx).1).fv E w = true ↔ _
        rw [Tt.putL, hfv, hfv]
        cases hl : lk e x with
        | none =>
          have hxn : x ≠ num := fun e0 => hst ⟨rfl, hl, e0⟩
          have hEx : lk E x = none := by
            cases hE : lk E x with
            | none => rfl
            | some y => exact absurd rfl ((h2 x (by rw [hE]; simp)).2 x hxl hl)
          have hg : ∀ y, (Tt.mk 6 ((none : Option Int).getD x) ls []).fv E y = true ↔ (x = y ∧ lk E y = none) := fun y => by
            rw [Tt.fv_mk]
            simp [Tt.k, Tt.n, Tt.ks, Tt.fvL]
          rw [hg]
          constructor
          · rintro ⟨rfl, -⟩
            exact .inl ⟨⟨rfl, hl⟩, hxn⟩
          · rintro (⟨⟨rfl, -⟩, -⟩ | ⟨-, hq, -⟩)
            · exact ⟨rfl, hEx⟩
            · exact absurd hq hxn
        | some y =>
          have hg : ∀ z, (Tt.mk 6 ((some y : Option Int).getD x) ls []).fv E z = true ↔ (y = z ∧ lk E z = none) := fun z => by
            rw [Tt.fv_mk]
            simp [Tt.k, Tt.n, Tt.ks, Tt.fvL]
          rw [hg]
          constructor
          · rintro ⟨rfl, hq⟩
            exact absurd hq (h1 x y hl)
          · rintro (⟨⟨rfl, hq⟩, -⟩ | ⟨-, rfl, hq⟩)
            · rw [hl] at hq; cases hq
            · rw [hl] at hq; cases hq
    · rw [if_neg (fun hq => h6 hq.1), hO, if_neg h6]
      have hrk := Tt.right_kids hr
      have havk : ∀ z, Tt.avL ks z = true → z ∈ l := fun z hz => hav z (by rw [Tt.av_mk]; simp [Tt.ks, hz])
      have hfv : ∀ (n' : Int) (ks' : List Tt) (e' : List (Int × Int)) (y : Int), (Tt.mk k n' ls ks').fv e' y = true ↔ Tt.fvL ks' ((Tt.mk k n' ls ks').env e') y = true := fun n' ks' e' y => by
        rw [Tt.fv_mk]
        simp [Tt.k, Tt.n, Tt.ks, h6]
      have hbk : ∀ (n' : Int) (ks' : List Tt), (Tt.mk k n' ls ks').binds = (Tt.mk k x ls ks).binds := fun _ _ => rfl
      have henv : ∀ (n' : Int) (ks' : List Tt) (e' : List (Int × Int)), (Tt.mk k n' ls ks').env e' = if (Tt.mk k x ls ks).binds then (n', (e'.length : Int)) :: e' else e' := fun _ _ _ => rfl
      cases hb : (Tt.mk k x ls ks).binds with
      | false =>
        simp only [Bool.false_eq_true, if_false]
        rw [hfv, hfv, hfv, henv, henv, hb]
        simp only [Bool.false_eq_true, if_false]
        exact Tt.fvL_put num u l hCl w ks e E nx hrk havk h1 h2
      | true =>
        simp only [if_true]
        obtain ⟨g1, g2⟩ := give_good hCl nx x
        generalize give (u.fv []) l nx x = G at g1 g2
        obtain ⟨y0, nx2⟩ := G
        rw [hfv, hfv, hfv, henv, henv, hb]
        simp only [if_true]
        have hkey : ∀ (v v' : Int) (z : Int), lk ((x, v) :: e) z = none ↔ lk ((x, v') :: e) z = none := fun v v' z => by
          rw [lk_cons, lk_cons]
          show (if x = z then _ else _) = none ↔ (if x = z then _ else _) = none
          split <;> simp
        have hkeyE : ∀ (v v' : Int) (z : Int), lk ((y0, v) :: E) z = none ↔ lk ((y0, v') :: E) z = none := fun v v' z => by
          rw [lk_cons, lk_cons]
          show (if y0 = z then _ else _) = none ↔ (if y0 = z then _ else _) = none
          split <;> simp
        have := Tt.fvL_put num u l hCl w ks ((x, y0) :: e) ((y0, (E.length : Int)) :: E) nx2 hrk havk (fun z y hz => by
          rw [lk_cons] at hz ⊢
          show (if y0 = y then _ else _) ≠ none
          by_cases hy : y0 = y
          · rw [if_pos hy]; simp
          · rw [if_neg hy]
            by_cases hxz : x = z
            · rw [if_pos hxz] at hz; injection hz with hz; exact absurd hz hy
            · rw [if_neg hxz] at hz; exact h1 z y hz) (fun y hy => by
          rw [lk_cons] at hy
          by_cases hy0 : y0 = y
          · subst hy0
            refine ⟨g1, fun z hz hn => ?_⟩
            rw [lk_cons] at hn
            by_cases hxz : x = z
            · rw [if_pos hxz] at hn; cases hn
            · rcases g2 with g2 | g2
              · have g2 : y0 = x := g2
                rw [g2]; exact fun e0 => hxz e0.symm
              · exact fun e0 => g2 (e0 ▸ hz)
          · rw [if_neg hy0] at hy
            refine ⟨(h2 y hy).1, fun z hz hn => ?_⟩
            rw [lk_cons] at hn
            by_cases hxz : x = z
            · rw [if_pos hxz] at hn; cases hn
            · rw [if_neg hxz] at hn; exact (h2 y hy).2 z hz hn)
        rw [this, Tt.fvL_keys ks _ ((x, (e.length : Int)) :: e) w (hkey _ _ w), Tt.fvL_keys ks _ ((x, (e.length : Int)) :: e) num (hkey _ _ num)]
theorem Tt.fvL_put (num : Int) (u : Tt) (l : List Int) (hCl : ∀ x, u.fv [] x = true → x ∈ l) (w : Int) : ∀ (L : List Tt) (e E : List (Int × Int)) (nx : Int), Tt.rightL L = true → (∀ x, Tt.avL L x = true → x ∈ l) → (∀ x y, lk e x = some y → lk E y ≠ none) → (∀ y, lk E y ≠ none → u.fv [] y = false ∧ ∀ z, z ∈ l → lk e z = none → z ≠ y) →
    (Tt.fvL (Tt.putL num u (u.fv []) l L e nx).1 E w = true ↔ (Tt.fvL L e w = true ∧ w ≠ num) ∨ (u.fv [] w = true ∧ Tt.fvL L e num = true))
  | [], e, E, nx, hr, hav, h1, h2 => by
    rw [Tt.putL]
    simp [Tt.fvL]
  | t :: r, e, E, nx, hr, hav, h1, h2 => by
    rw [Tt.rightL] at hr
    simp only [Bool.and_eq_true] at hr
    have a1 := Tt.fv_put num u l hCl w t e E nx hr.1 (fun x hx => hav x (by rw [Tt.avL]; simp [hx])) h1 h2
    have a2 := Tt.fvL_put num u l hCl w r e E (Tt.put num u (u.fv []) l t e nx).2.2 hr.2 (fun x hx => hav x (by rw [Tt.avL]; simp [hx])) h1 h2
    have hc : ∀ (t' : Tt) (r' : List Tt) (e' : List (Int × Int)) (y : Int), Tt.fvL (t' :: r') e' y = true ↔ (t'.fv e' y = true ∨ Tt.fvL r' e' y = true) := fun t' r' e' y => by rw [Tt.fvL]; simp
    rw [Tt.putL]
    show Tt.fvL (_ :: _) E w = true ↔ _
    rw [hc, hc, hc, a1, a2]
    constructor
    · rintro ((⟨p, q⟩ | ⟨p, q⟩) | (⟨p, q⟩ | ⟨p, q⟩))
      · exact .inl ⟨.inl p, q⟩
      · exact .inr ⟨p, .inl q⟩
      · exact .inl ⟨.inr p, q⟩
      · exact .inr ⟨p, .inr q⟩
    · rintro (⟨p | p, q⟩ | ⟨p, q | q⟩)
      · exact .inl (.inl ⟨p, q⟩)
      · exact .inr (.inl ⟨p, q⟩)
      · exact .inl (.inr ⟨p, q⟩)
      · exact .inr (.inr ⟨p, q⟩)
end
mutual
theorem Tt.put_cnt (num : Int) (u : Tt) (C : Int → Bool) (l : List Int) : ∀ (t : Tt) (e : List (Int × Int)) (nx : Int), (Tt.put num u C l t e nx).1.cnt ≤ t.cnt * u.cnt ∧ (Tt.put num u C l t e nx).1.deepest ≤ t.deepest + u.deepest
  | .mk k x ls ks, e, nx => by
    have hu := u.cnt_pos
    rw [Tt.put_eq]
    split
    · rw [Tt.cnt, Tt.deepest]
      constructor
      · rw [Nat.add_mul]; omega
      · omega
    · have := Tt.putL_cnt num u C l ks ((Tt.mk k x ls ks).own3 C l e nx).2.1 ((Tt.mk k x ls ks).own3 C l e nx).2.2
      rw [Tt.cnt, Tt.cnt, Tt.deepest, Tt.deepest]
      constructor
      · rw [Nat.add_mul]; omega
      · omega
theorem Tt.putL_cnt (num : Int) (u : Tt) (C : Int → Bool) (l : List Int) : ∀ (L : List Tt) (e : List (Int × Int)) (nx : Int), Tt.cntL (Tt.putL num u C l L e nx).1 ≤ Tt.cntL L * u.cnt ∧ Tt.deepestL (Tt.putL num u C l L e nx).1 ≤ Tt.deepestL L + u.deepest
  | [], e, nx => by rw [Tt.putL]; show Tt.cntL [] ≤ _ ∧ Tt.deepestL [] ≤ _; rw [Tt.cntL, Tt.deepestL]; omega
  | t :: r, e, nx => by
    have h1 := Tt.put_cnt num u C l t e nx
    have h2 := Tt.putL_cnt num u C l r e (Tt.put num u C l t e nx).2.2
    rw [Tt.putL]
    show Tt.cntL (_ :: _) ≤ _ ∧ Tt.deepestL (_ :: _) ≤ _
    rw [Tt.cntL, Tt.cntL, Tt.deepestL, Tt.deepestL]
    constructor
    · rw [Nat.add_mul]; omega
    · omega
end
/-- What is free in Put's answer. -/
theorem Tt.Put_free {t u : Tt} {num : Int} {l : List Int} (hr : t.right = true) (hf : t.fv [] num = true) (hl : ∀ x, decide (x ∈ l) = (t.av x || u.fv [] x)) (w : Int) : (t.Put num u l).fv [] w = true ↔ (t.fv [] w = true ∧ w ≠ num) ∨ u.fv [] w = true := by
  have hm : ∀ x, (t.av x = true ∨ u.fv [] x = true) → x ∈ l := fun x hx => by
    have := hl x
    rw [(by simpa using hx : (t.av x || u.fv [] x) = true)] at this
    simpa using this
  unfold Tt.Put
  rw [if_pos hf, Tt.fv_put num u l (fun x hx => hm x (.inr hx)) w t [] [] 0 hr (fun x hx => hm x (.inl hx)) (fun x y h => by cases h) (fun y h => absurd rfl h)]
  constructor
  · rintro (h | ⟨h, -⟩)
    · exact .inl h
    · exact .inr h
  · rintro (h | h)
    · exact .inl h
    · exact .inr ⟨h, hf⟩
end Go.Proofs.YtfeppchgmobfpaaGreatDoor
