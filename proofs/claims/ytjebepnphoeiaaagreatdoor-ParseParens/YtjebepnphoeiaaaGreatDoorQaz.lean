/- Pieces: LexQ. -/
import Derived.Test.YtjebepnphoeiaaaGreatDoorQaa
namespace Go.Proofs.YtjebepnphoeiaaaGreatDoor
set_option linter.unusedVariables false

theorem Lx.rem_cut : ∀ (l : List UInt8) (d : Nat) (r : List UInt8), Lx.rem l d = some r → ∃ q, l = q ++ r ∧ 2 ≤ q.length ∧ ∀ m, Lx.rem (q ++ m) d = some m
 | a :: b :: t, d, r, h => by
  by_cases h1 : a = 40 ∧ b = 42
  ·
   rw [Lx.rem, if_pos h1] at h
   obtain ⟨q, e, hq, hm⟩ := Lx.rem_cut t _ r h
   refine ⟨a :: b :: q, by rw [e]; rfl, by simp, fun m => ?_⟩
   show Lx.rem (a :: b :: (q ++ m)) d = _
   rw [Lx.rem, if_pos h1, hm]
  ·
   by_cases h2 : a = 42 ∧ b = 41
   ·
    by_cases h3 : d ≤ 1
    ·
     rw [Lx.rem, if_neg h1, if_pos h2, if_pos h3] at h
     cases h
     refine ⟨[a, b], rfl, by simp, fun m => ?_⟩
     show Lx.rem (a :: b :: m) d = _
     rw [Lx.rem, if_neg h1, if_pos h2, if_pos h3]
    ·
     rw [Lx.rem, if_neg h1, if_pos h2, if_neg h3] at h
     obtain ⟨q, e, hq, hm⟩ := Lx.rem_cut t _ r h
     refine ⟨a :: b :: q, by rw [e]; rfl, by simp, fun m => ?_⟩
     show Lx.rem (a :: b :: (q ++ m)) d = _
     rw [Lx.rem, if_neg h1, if_pos h2, if_neg h3, hm]
   ·
    rw [Lx.rem, if_neg h1, if_neg h2] at h
    obtain ⟨q, e, hq, hm⟩ := Lx.rem_cut (b :: t) _ r h
    cases q with
    | nil => simp at hq
    | cons x q =>
     have hx : b = x := by simp at e; exact e.1
     subst hx
     refine ⟨a :: b :: q, by rw [e]; rfl, by simp, fun m => ?_⟩
     have := hm m
     show Lx.rem (a :: b :: (q ++ m)) d = _
     rw [Lx.rem, if_neg h1, if_neg h2]; exact this
 | [_], d, r, h => by cases h
 | [], d, r, h => by cases h

theorem Lx.opens_app {q m r : List UInt8} (hq : 2 ≤ q.length) (h : Lx.opens (q ++ r) = true) : Lx.opens (q ++ m) = true := by
 unfold Lx.opens at h ⊢
 rw [List.take_append_of_le_length hq] at h ⊢; exact h

theorem Lx.skip_cut : ∀ (N : Nat) (l r : List UInt8), l.length ≤ N → Lx.skip l = (r, true) → ∃ q, l = q ++ r ∧ (∀ m, Lx.skip (q ++ m) = Lx.skip m) ∧ Lx.skip r = (r, true)
 | N, [], r, hN, h => by
  rw [Lx.skip_nil] at h; cases h
  exact ⟨[], rfl, fun m => rfl, Lx.skip_nil⟩
 | 0, c :: t, r, hN, h => by simp at hN
 | N + 1, c :: t, r, hN, h => by
  cases hb : Lx.blank (c.toNat : Int) with
  | true =>
   rw [Lx.skip_blank hb] at h
   obtain ⟨q, e, hm, hr⟩ := Lx.skip_cut N t r (by simp at hN; omega) h
   refine ⟨c :: q, by rw [e]; rfl, fun m => ?_, hr⟩
   show Lx.skip (c :: (q ++ m)) = _
   rw [Lx.skip_blank hb, hm]
  | false =>
   cases ho : Lx.opens (c :: t) with
   | false => rw [Lx.skip_stop hb ho] at h; cases h; exact ⟨[], rfl, fun m => rfl, Lx.skip_stop hb ho⟩
   | true =>
    cases hR : Lx.rem (c :: t) 0 with
    | none => rw [Lx.skip_open ho hR] at h; cases h
    | some r1 =>
     rw [Lx.skip_rem ho hR] at h
     have hlt := Lx.rem_lt _ _ _ hR
     obtain ⟨q1, e1, hq1, hm1⟩ := Lx.rem_cut _ _ _ hR
     obtain ⟨q, e, hm, hr⟩ := Lx.skip_cut N r1 r (by simp at hN hlt; omega) h
     refine ⟨q1 ++ q, by rw [e1, e, List.append_assoc], fun m => ?_, hr⟩
     rw [List.append_assoc, Lx.skip_rem (l := q1 ++ (q ++ m)) (r := q ++ m) (Lx.opens_app (r := r1) hq1 (by rw [← e1]; exact ho)) (hm1 _), hm]

theorem Lx.skip_len : ∀ (N : Nat) (l : List UInt8), l.length ≤ N → (Lx.skip l).1.length ≤ l.length
 | N, [], hN => by rw [Lx.skip_nil]; simp
 | 0, c :: t, hN => by simp at hN
 | N + 1, c :: t, hN => by
  cases hb : Lx.blank (c.toNat : Int) with
  | true => rw [Lx.skip_blank hb]; have := Lx.skip_len N t (by simp at hN; omega); simp; omega
  | false =>
   cases ho : Lx.opens (c :: t) with
   | false => rw [Lx.skip_stop hb ho]; exact Nat.le_refl _
   | true =>
    cases hR : Lx.rem (c :: t) 0 with
    | none => rw [Lx.skip_open ho hR]; exact Nat.le_refl _
    | some r1 =>
     rw [Lx.skip_rem ho hR]
     have hlt := Lx.rem_lt _ _ _ hR
     have := Lx.skip_len N r1 (by simp at hN hlt; omega); omega

theorem Lx.mark_le (l : List UInt8) : Lx.mark l ≤ l.length ∧ Lx.mark l ≤ 2 := by
 cases l with
 | nil => simp [Lx.mark]
 | cons c t =>
  rw [Lx.mark_cons]
  split
  ·
   next h => cases t with
   | nil => simp at h
   | cons b t => simp
  ·
   split <;> simp
theorem Lx.begin_le (l : List UInt8) : (Lx.begin l).2 ≤ l.length ∧ (Lx.begin l).2 ≤ 2 ∧ ((Lx.begin l).1 ≠ 0 → 1 ≤ (Lx.begin l).2) ∧ (Lx.begin l).1 ≤ 6 ∧ (Lx.begin l).1 ≠ 3 := by
 cases l with
 | nil => simp [Lx.begin]
 | cons c t =>
  have hm := Lx.mark_le (c :: t)
  rw [Lx.begin_cons]
  split
  ·
   simp
  ·
   split
   ·
    simp
   ·
    split
    ·
     simp
    ·
     split
     ·
      next h => cases t with
      | nil => simp at h
      | cons b t => simp
     ·
      split
      ·
       simp
      ·
       refine ⟨hm.1, hm.2, fun _ => by show 1 ≤ Lx.mark (c :: t); omega, by simp, by simp⟩
theorem Lx.text_pre (l : List UInt8) : Lx.text l ++ l.drop (Lx.text l).length = l := by
 have hb := (Lx.begin_le l).1
 unfold Lx.text
 rw [List.length_append, List.length_take, Nat.min_eq_left hb, ← List.drop_drop]
 have h2 : ∀ (p : UInt8 → Bool) (m : List UInt8), m.takeWhile p ++ m.drop (m.takeWhile p).length = m := by
  intro p m
  induction m with
  | nil => rfl
  | cons a m ih =>
   rw [List.takeWhile_cons]
   split
   ·
    show a :: _ = _; rw [List.length_cons, List.drop_succ_cons]; congr 1
   ·
    rfl
 rw [List.append_assoc, h2, List.take_append_drop]
theorem Lx.text_pos (l : List UInt8) (h : (Lx.begin l).1 ≠ 0) : 1 ≤ (Lx.text l).length := by
 have hb := Lx.begin_le l
 unfold Lx.text
 rw [List.length_append, List.length_take, Nat.min_eq_left hb.1]
 have := hb.2.2.1 h; omega
theorem Lx.next_kind {l : List UInt8} {k n : Nat} (h : Lx.next l = .good k n) : (Lx.begin l).1 ≠ 0 ∧ 1 ≤ k ∧ k ≤ 6 ∧ (k ≠ 4 → n = 0) ∧ n ≤ 9223372036854775807 := by
 have hb := Lx.begin_le l
 unfold Lx.next at h
 simp only at h
 split at h
 ·
  cases h
 ·
  next h0 =>
  split at h
  ·
   cases h; exact ⟨h0, by omega, by omega, fun _ => rfl, by omega⟩
  ·
   split at h
   ·
    split at h
    ·
     cases h; exact ⟨h0, by omega, by omega, fun h => absurd rfl h, by assumption⟩
    ·
     cases h
   ·
    split at h
    ·
     cases h
    ·
     cases h
     refine ⟨h0, ?_, ?_, fun _ => rfl, by omega⟩ <;> split <;> omega

theorem Lx.lexN_eq (c : Nat) (l : List UInt8) : Lx.lexN c l = if (Lx.skip l).2 = false then .bad (Lx.skip l).1.length 10
 else if (Lx.skip l).1 = [] then .good []
 else match Lx.next (Lx.skip l).1 with
  | .bad e => .bad (Lx.skip l).1.length e
  | .good k n => match c with
   | 0 => .bad (Lx.skip l).1.length 3
   | c + 1 => (Lx.lexN c ((Lx.skip l).1.drop (Lx.text (Lx.skip l).1).length)).put ⟨k, Lx.text (Lx.skip l).1, n, (Lx.skip l).1.length⟩ := by cases c <;> (rw [Lx.lexN]; rfl)
theorem Lx.lexN_skip {l l' : List UInt8} (h : Lx.skip l = Lx.skip l') (c : Nat) : Lx.lexN c l = Lx.lexN c l' := by rw [Lx.lexN_eq c l, Lx.lexN_eq c l', h]

structure Lx.At (t r : List UInt8) (k n : Nat) : Prop where
 stop : Lx.skip (t ++ r) = (t ++ r, true)
 next : Lx.next (t ++ r) = .good k n
 text : Lx.text (t ++ r) = t
 pos : 1 ≤ t.length

theorem Lx.lexN_cons {l t r : List UInt8} {k n : Nat} (h : Lx.At t r k n) (hs : Lx.skip l = Lx.skip (t ++ r)) (c : Nat) : Lx.lexN (c + 1) l = (Lx.lexN c r).put ⟨k, t, n, (t ++ r).length⟩ := by
 rw [Lx.lexN_skip hs, Lx.lexN_eq, h.stop]
 simp only
 rw [if_neg (by simp), if_neg (by intro e; have h9 := h.pos; have h8 := congrArg List.length e; rw [List.length_append, List.length_nil] at h8; omega), h.next, h.text]
 simp only [List.drop_left]
theorem Lx.lexN_good_nil {c : Nat} {l : List UInt8} (h : Lx.lexN c l = .good []) : ∀ m, Lx.skip (l ++ m) = Lx.skip m := by
 rw [Lx.lexN_eq] at h
 split at h
 ·
  cases h
 ·
  next h1 =>
  split at h
  ·
   next h2 =>
   obtain ⟨q, e, hm, hr⟩ := Lx.skip_cut _ l [] (Nat.le_refl _) (by rw [← h2]; exact Prod.ext rfl (by simpa using h1))
   rw [List.append_nil] at e; subst e; exact hm
  ·
   split at h
   ·
    cases h
   ·
    split at h
    ·
     cases h
    ·
     next c0 =>
     revert h
     generalize Lx.lexN c0 _ = R
     cases R with
     | bad _ _ => intro h; cases h
     | good _ => intro h; cases h
theorem Lx.lexN_nil {q : List UInt8} (h : ∀ m, Lx.skip (q ++ m) = Lx.skip m) (c : Nat) : Lx.lexN c q = .good [] := by
 have := h []
 rw [List.append_nil, Lx.skip_nil] at this
 rw [Lx.lexN_eq, this]; rfl
theorem Lx.lexN_uncons {c : Nat} {l : List UInt8} {a : Lx.Tok} {ts : List Lx.Tok} (h : Lx.lexN c l = .good (a :: ts)) :
  ∃ q r c0, c = c0 + 1 ∧ l = q ++ (a.text ++ r) ∧ (∀ m, Lx.skip (q ++ m) = Lx.skip m) ∧ a.left = (a.text ++ r).length ∧ Lx.At a.text r a.kind a.n ∧ Lx.lexN c0 r = .good ts := by
 rw [Lx.lexN_eq] at h
 split at h
 ·
  cases h
 ·
  next h1 =>
  split at h
  ·
   cases h
  ·
   next h2 =>
   obtain ⟨q, e, hm, hr⟩ := Lx.skip_cut _ l (Lx.skip l).1 (Nat.le_refl _) (Prod.ext rfl (by simpa using h1))
   generalize hR : (Lx.skip l).1 = R at *
   cases hn : Lx.next R with
   | bad e => rw [hn] at h; cases h
   | good k n =>
    rw [hn] at h
    cases c with
    | zero => cases h
    | succ c0 =>
     simp only at h
     have hk := Lx.next_kind hn
     cases hl : Lx.lexN c0 (R.drop (Lx.text R).length) with
     | bad _ _ => rw [hl] at h; cases h
     | good ts0 =>
      rw [hl] at h; cases h
      have hp := Lx.text_pre R
      refine ⟨q, R.drop (Lx.text R).length, c0, rfl, by rw [hp]; exact e, hm, by rw [hp], ⟨by rw [hp]; exact hr, by rw [hp]; exact hn, by rw [hp], Lx.text_pos R hk.1⟩, hl⟩
theorem Lx.lexN_len : ∀ {ts : List Lx.Tok} {c : Nat} {l : List UInt8}, Lx.lexN c l = .good ts → ts.length ≤ c
 | [], c, l, h => Nat.zero_le _
 | a :: ts, c, l, h => by
  obtain ⟨q, r, c0, rfl, -, -, -, -, h2⟩ := Lx.lexN_uncons h
  have := Lx.lexN_len h2; simp; omega
theorem Lx.lexN_mono : ∀ {ts : List Lx.Tok} {c : Nat} {l : List UInt8}, Lx.lexN c l = .good ts → ∀ {c' : Nat}, ts.length ≤ c' → Lx.lexN c' l = .good ts
 | [], c, l, h, c', _ => by
  exact Lx.lexN_nil (Lx.lexN_good_nil h) c'
 | a :: ts, c, l, h, 0, hc => by simp at hc
 | a :: ts, c, l, h, c' + 1, hc => by
  obtain ⟨q, r, c0, rfl, e, hm, hl, ha, h2⟩ := Lx.lexN_uncons h
  rw [Lx.lexN_cons ha (by rw [e, hm]) c', Lx.lexN_mono h2 (by simp at hc; omega)]
  show Lx.Res.good _ = _
  rw [← hl]

theorem Lx.blank_facts {x : UInt8} (h : Lx.blank (x.toNat : Int) = true) : x ≠ 62 ∧ x ≠ 42 ∧ Nm.low (x.toNat : Int) = false ∧ ∀ k, Lx.goes k x = false := by
 have : x = 32 ∨ x = 9 ∨ x = 10 ∨ x = 13 := by
  unfold Lx.blank at h
  simp at h
  rcases h with ((h | h) | h) | h
  ·
   exact .inl (UInt8.toNat_inj.1 (by rw [show (32 : UInt8).toNat = 32 from rfl]; omega))
  ·
   exact .inr (.inl (UInt8.toNat_inj.1 (by rw [show (9 : UInt8).toNat = 9 from rfl]; omega)))
  ·
   exact .inr (.inr (.inl (UInt8.toNat_inj.1 (by rw [show (10 : UInt8).toNat = 10 from rfl]; omega))))
  ·
   exact .inr (.inr (.inr (UInt8.toNat_inj.1 (by rw [show (13 : UInt8).toNat = 13 from rfl]; omega))))
 have hg : ∀ y : UInt8, Nm.dig (y.toNat : Int) = false → Nm.low (y.toNat : Int) = false → Nm.body (y.toNat : Int) = false → ∀ k, Lx.goes k y = false := by
  intro y h1 h2 h3 k
  unfold Lx.goes
  rw [h1, h2, h3]; split <;> simp
 rcases this with rfl | rfl | rfl | rfl <;> exact ⟨by decide, by decide, by decide, hg _ (by decide) (by decide) (by decide)⟩
def Lx.Fits (r m : List UInt8) : Prop := m.head? = r.head? ∨ ∀ x, m.head? = some x → Lx.blank (x.toNat : Int) = true

theorem Lx.begin_swap {t r m : List UInt8} (hp : 1 ≤ t.length) (hb : (Lx.begin (t ++ r)).2 ≤ t.length) (hf : Lx.Fits r m) (h0 : (Lx.begin (t ++ r)).1 ≠ 0) : Lx.begin (t ++ m) = Lx.begin (t ++ r) := by
 match t, hp with
 | [c], _ =>
  rcases hf with hf | hf
  ·
   have : ∀ a : List UInt8, Lx.begin ([c] ++ a) = Lx.begin (c :: a) := fun a => rfl
   rw [this, this, Lx.begin_cons, Lx.begin_cons, Lx.mark_cons, Lx.mark_cons, hf]
  ·
   have hm : Lx.begin (c :: m) = Lx.begin [c] := by
    have h1 : (m.head?.any fun b => Nm.low (b.toNat : Int)) = false := by
     cases hx : m.head? with
     | none => rfl
     | some x => simpa using (Lx.blank_facts (hf x hx)).2.2.1
    have h2 : m.head? ≠ some 62 := fun e => (Lx.blank_facts (hf _ e)).1 rfl
    rw [Lx.begin_cons, Lx.begin_cons, Lx.mark_cons, Lx.mark_cons, h1]; simp [h2]
   have hr : Lx.begin (c :: r) = Lx.begin [c] := by
    have hb' : (Lx.begin (c :: r)).2 ≤ 1 := hb
    have hmk : Lx.mark (c :: r) ≤ 1 → Lx.mark (c :: r) = Lx.mark [c] := by
     intro h1
     by_cases hc : (c = 58 ∨ c = 61 ∨ c = 45) ∧ r.head? = some 62
     ·
      rw [Lx.mark_cons, if_pos hc] at h1; omega
     ·
      rw [Lx.mark_cons, Lx.mark_cons, if_neg hc, if_neg (c := (c = 58 ∨ c = 61 ∨ c = 45) ∧ ([] : List UInt8).head? = some 62) (by simp)]
    rw [Lx.begin_cons, Lx.begin_cons]
    rw [Lx.begin_cons] at hb'
    by_cases a1 : Nm.low (c.toNat : Int) = true
    ·
     rw [if_pos a1, if_pos a1]
    ·
     rw [if_neg a1, if_neg a1]
     rw [if_neg a1] at hb'
     by_cases a2 : Nm.high (c.toNat : Int) = true
     ·
      rw [if_pos a2, if_pos a2]
     ·
      rw [if_neg a2, if_neg a2]
      rw [if_neg a2] at hb'
      by_cases a3 : Nm.dig (c.toNat : Int) = true
      ·
       rw [if_pos a3, if_pos a3]
      ·
       rw [if_neg a3, if_neg a3]
       rw [if_neg a3] at hb'
       by_cases a4 : c = 39 ∧ (r.head?.any fun b => Nm.low (b.toNat : Int)) = true
       ·
        rw [if_pos a4] at hb'; have h9 : 2 ≤ 1 := hb'; omega
       ·
        rw [if_neg a4] at hb' ⊢
        rw [if_neg (c := c = 39 ∧ (([] : List UInt8).head?.any fun b => Nm.low (b.toNat : Int)) = true) (by simp)]
        by_cases b0 : Lx.mark (c :: r) = 0
        ·
         rw [← hmk (by omega)]
        ·
         rw [if_neg b0] at hb'; rw [← hmk hb']
   show Lx.begin (c :: m) = Lx.begin (c :: r)
   rw [hm, hr]
 | c :: d :: t, _ =>
  show Lx.begin (c :: d :: (t ++ m)) = Lx.begin (c :: d :: (t ++ r))
  rw [Lx.begin_cons, Lx.begin_cons, Lx.mark_cons, Lx.mark_cons]
  rfl
theorem Lx.takeWhile_swap {p : UInt8 → Bool} {a r m : List UInt8} (h : (a ++ r).takeWhile p = a) (hf : m.head? = r.head? ∨ ∀ x, m.head? = some x → p x = false) : (a ++ m).takeWhile p = a := by
 induction a with
 | nil =>
  rw [List.nil_append] at h ⊢
  cases m with
  | nil => rfl
  | cons x m =>
   have : p x = false := by
    rcases hf with hf | hf
    ·
     cases r with
     | nil => simp at hf
     | cons y r =>
      have : x = y := by simpa using hf
      subst this
      rw [List.takeWhile_cons] at h
      cases hp : p x with
      | true => rw [if_pos hp] at h; cases h
      | false => rfl
    ·
     exact hf x rfl
   rw [List.takeWhile_cons, if_neg (by rw [this]; simp)]
 | cons b a ih =>
  rw [List.cons_append, List.takeWhile_cons] at h ⊢
  split at h
  ·
   next hp => rw [if_pos hp, ih (List.cons.inj h).2]
  ·
   cases h
theorem Lx.At.swap {t r m : List UInt8} {k n : Nat} (h : Lx.At t r k n) (hf : Lx.Fits r m) : Lx.At t m k n := by
 have hk := Lx.next_kind h.next
 have hbl := Lx.begin_le (t ++ r)
 have hx := h.text
 have hle : (Lx.begin (t ++ r)).2 ≤ t.length := by
  have h1 : (Lx.text (t ++ r)).length = t.length := by rw [hx]
  unfold Lx.text at h1
  rw [List.length_append, List.length_take, Nat.min_eq_left hbl.1] at h1; omega
 have hb := Lx.begin_swap h.pos hle hf hk.1
 have htx : Lx.text (t ++ m) = t := by
  unfold Lx.text at hx ⊢
  rw [hb]
  rw [List.take_append_of_le_length hle, List.drop_append_of_le_length hle] at hx ⊢
  have ht := List.take_append_drop (Lx.begin (t ++ r)).2 t
  have hw : (t.drop (Lx.begin (t ++ r)).2 ++ r).takeWhile (Lx.goes (Lx.begin (t ++ r)).1) = t.drop (Lx.begin (t ++ r)).2 := by
   apply List.append_cancel_left («as» := t.take (Lx.begin (t ++ r)).2)
   rw [hx, ht]
  rw [Lx.takeWhile_swap hw (hf.imp id fun hf x hx => (Lx.blank_facts (hf x hx)).2.2.2 _), ht]
 refine ⟨?_, ?_, htx, h.pos⟩
 ·
  have hs := h.stop
  match t, h.pos with
  | c :: t, _ =>
   have hbl : Lx.blank (c.toNat : Int) = false := by
    cases hb : Lx.blank (c.toNat : Int) with
    | false => rfl
    | true =>
     exfalso
     have h1 : Lx.skip (c :: (t ++ r)) = _ := Lx.skip_blank hb
     have h2 := Lx.skip_len _ (t ++ r) (Nat.le_refl _)
     rw [← h1, show c :: (t ++ r) = c :: t ++ r from rfl, hs] at h2
     simp at h2; omega
   have ho : Lx.opens (c :: (t ++ r)) = false := by
    cases ho : Lx.opens (c :: (t ++ r)) with
    | false => rfl
    | true =>
     exfalso
     cases hR : Lx.rem (c :: (t ++ r)) 0 with
     | none =>
      have := Lx.skip_open ho hR
      rw [show c :: (t ++ r) = c :: t ++ r from rfl, hs] at this; cases this
     | some r1 =>
      have h1 := Lx.skip_rem ho hR
      have h2 := Lx.skip_len _ r1 (Nat.le_refl _)
      have h3 := Lx.rem_lt _ _ _ hR
      rw [← h1, show c :: (t ++ r) = c :: t ++ r from rfl, hs] at h2
      simp at h2 h3; omega
   refine Lx.skip_stop hbl ?_
   cases t with
   | cons d t => exact ho
   | nil =>
    rw [List.nil_append] at ho
    show Lx.opens (c :: m) = false
    rcases hf with hf | hf
    ·
     cases m with
     | nil => simp [Lx.opens]
     | cons x m => cases r with
      | nil => simp at hf
      | cons y r =>
       have : x = y := by simpa using hf
       subst this; exact ho
    ·
     cases m with
     | nil => simp [Lx.opens]
     | cons x m =>
      have := (Lx.blank_facts (hf x rfl)).2.1
      simp [Lx.opens, this]
 ·
  have hn := h.next
  unfold Lx.next at hn ⊢
  rw [hb, htx]; rw [hx] at hn; exact hn
end Go.Proofs.YtjebepnphoeiaaaGreatDoor
