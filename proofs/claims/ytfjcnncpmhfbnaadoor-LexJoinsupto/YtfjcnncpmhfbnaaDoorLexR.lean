/- Plain mathematics of tokens: texts side by side, tokens joined by blanks, a blank or a remark put ahead of a token. -/
import Derived.Test.YtfjcnncpmhfbnaaDoorLexQ
namespace Go.Proofs.YtfjcnncpmhfbnaaDoor
set_option linter.unusedVariables false

def Lx.Tok.core (t : Lx.Tok) : Nat × List UInt8 × Nat := (t.kind, t.text, t.n)

theorem Lx.append_lex : ∀ (ts : List Lx.Tok) (c : Nat) (l : List UInt8), Lx.lexN c l = .good ts → ∀ (x : UInt8) (m : List UInt8) (c' : Nat) (us : List Lx.Tok), Lx.blank (x.toNat : Int) = true → Lx.lexN c' m = .good us →
    ∃ ts', ts'.map Lx.Tok.core = ts.map Lx.Tok.core ∧ Lx.lexN (ts.length + c') (l ++ x :: m) = .good (ts' ++ us)
  | [], c, l, h, x, m, c', us, hx, hu => by
    refine ⟨[], rfl, ?_⟩
    rw [List.length_nil, Nat.zero_add, Lx.lexN_skip (l' := m) (by rw [Lx.lexN_good_nil h, Lx.skip_blank hx]), hu]; rfl
  | a :: ts, c, l, h, x, m, c', us, hx, hu => by
    obtain ⟨q, r, c0, rfl, e, hm, hl, ha, h2⟩ := Lx.lexN_uncons h
    obtain ⟨ts', hc, hr⟩ := Lx.append_lex ts c0 r h2 x m c' us hx hu
    have hf : Lx.Fits r (r ++ x :: m) := by
      cases r with
      | nil => exact .inr fun y hy => by have : x = y := by simpa using hy
                                         subst this; exact hx
      | cons y r => exact .inl rfl
    have hs : Lx.skip (l ++ x :: m) = Lx.skip (a.text ++ (r ++ x :: m)) := by rw [e, List.append_assoc, List.append_assoc, hm]
    refine ⟨⟨a.kind, a.text, a.n, (a.text ++ (r ++ x :: m)).length⟩ :: ts', ?_, ?_⟩
    · rw [List.map_cons, List.map_cons, hc]; rfl
    · rw [List.length_cons, show ts.length + 1 + c' = ts.length + c' + 1 by omega, Lx.lexN_cons (ha.swap hf) hs, hr]; rfl

def Lx.joinL : List (List UInt8) → List UInt8
  | [] => []
  | [t] => t
  | t :: u :: r => t ++ 32 :: Lx.joinL (u :: r)
theorem Lx.back : ∀ (ts : List Lx.Tok) (c : Nat) (l : List UInt8), Lx.lexN c l = .good ts → ∃ ts', ts'.map Lx.Tok.core = ts.map Lx.Tok.core ∧ Lx.lexN ts.length (Lx.joinL (ts.map Lx.Tok.text)) = .good ts'
  | [], c, l, h => ⟨[], rfl, Lx.lexN_nil (fun m => rfl) _⟩
  | [a], c, l, h => by
    obtain ⟨q, r, c0, rfl, e, hm, hl, ha, h2⟩ := Lx.lexN_uncons h
    have hf : Lx.Fits r [] := .inr fun y hy => by cases hy
    have := ha.swap hf
    refine ⟨[⟨a.kind, a.text, a.n, (a.text ++ []).length⟩], rfl, ?_⟩
    show Lx.lexN (0 + 1) a.text = _
    rw [Lx.lexN_cons this (by rw [List.append_nil]), Lx.lexN_nil (q := []) (fun m => rfl)]; rfl
  | a :: b :: ts, c, l, h => by
    obtain ⟨q, r, c0, rfl, e, hm, hl, ha, h2⟩ := Lx.lexN_uncons h
    obtain ⟨ts', hc, hr⟩ := Lx.back (b :: ts) c0 r h2
    have hf : Lx.Fits r (32 :: Lx.joinL ((b :: ts).map Lx.Tok.text)) := .inr fun y hy => by
      have : (32 : UInt8) = y := by simpa using hy
      subst this; decide
    have := ha.swap hf
    refine ⟨⟨a.kind, a.text, a.n, (a.text ++ 32 :: Lx.joinL ((b :: ts).map Lx.Tok.text)).length⟩ :: ts', by rw [List.map_cons, List.map_cons, hc]; rfl, ?_⟩
    show Lx.lexN ((b :: ts).length + 1) (a.text ++ 32 :: Lx.joinL ((b :: ts).map Lx.Tok.text)) = _
    rw [Lx.lexN_cons this rfl, Lx.lexN_skip (l' := Lx.joinL ((b :: ts).map Lx.Tok.text)) (Lx.skip_blank (by decide)), hr]; rfl

theorem Lx.cut : ∀ (i c : Nat) (l : List UInt8) (ts : List Lx.Tok), Lx.lexN c l = .good ts → ∀ a, ts[i]? = some a → ∃ p r, l = p ++ r ∧ r.length = a.left ∧ Lx.lexN (ts.length - i) r = .good (ts.drop i) ∧
    ∀ (x : UInt8) (m : List UInt8) (c' : Nat) (us : List Lx.Tok), Lx.blank (x.toNat : Int) = true → Lx.lexN c' m = .good us → ∃ ts', ts'.map Lx.Tok.core = (ts.take i).map Lx.Tok.core ∧ Lx.lexN (i + c') (p ++ x :: m) = .good (ts' ++ us)
  | i, c, l, [], h, a, ha => by cases i <;> cases ha
  | 0, c, l, b :: ts, h, a, hi => by
    cases hi
    obtain ⟨q, r, c0, rfl, e, hm, hl, ha, h2⟩ := Lx.lexN_uncons h
    refine ⟨q, b.text ++ r, e, hl.symm, ?_, fun x m c' us hx hu => ⟨[], rfl, ?_⟩⟩
    · show Lx.lexN (ts.length + 1) _ = _
      rw [Lx.lexN_cons ha rfl, Lx.lexN_mono h2 (Nat.le_refl _)]
      show Lx.Res.good _ = _
      rw [← hl]; rfl
    · rw [Nat.zero_add, Lx.lexN_skip (l' := m) (by rw [hm, Lx.skip_blank hx]), hu]; rfl
  | i + 1, c, l, b :: ts, h, a, hi => by
    obtain ⟨q, r, c0, rfl, e, hm, hl, ha, h2⟩ := Lx.lexN_uncons h
    obtain ⟨p, r1, e1, hr1, h3, hx1⟩ := Lx.cut i c0 r ts h2 a hi
    refine ⟨q ++ (b.text ++ p), r1, by rw [e, e1]; simp, hr1, by rw [List.length_cons, List.drop_succ_cons, show ts.length + 1 - (i + 1) = ts.length - i by omega]; exact h3, fun x m c' us hx hu => ?_⟩
    obtain ⟨ts', hc, hr⟩ := hx1 x m c' us hx hu
    have hf : Lx.Fits r (p ++ x :: m) := by
      cases p with
      | nil => exact .inr fun y hy => by have : x = y := by simpa using hy
                                         subst this; exact hx
      | cons y p => exact .inl (by rw [e1]; rfl)
    refine ⟨⟨b.kind, b.text, b.n, (b.text ++ (p ++ x :: m)).length⟩ :: ts', by rw [List.take_succ_cons, List.map_cons, List.map_cons, hc]; rfl, ?_⟩
    rw [show i + 1 + c' = i + c' + 1 by omega, Lx.lexN_cons (ha.swap hf) (by rw [List.append_assoc, List.append_assoc, hm]), hr]; rfl

/-- What is put ahead of a token and behind the text. -/
theorem Lx.put_lex {i c : Nat} {l : List UInt8} {ts : List Lx.Tok} {a : Lx.Tok} (h : Lx.lexN c l = .good ts) (hi : ts[i]? = some a) {x : UInt8} {p : List UInt8} (hx : Lx.blank (x.toNat : Int) = true) (hp : ∀ m, Lx.skip (p ++ m) = Lx.skip m) :
    a.left ≤ l.length ∧ ∃ us, us.map Lx.Tok.core = ts.map Lx.Tok.core ∧ Lx.lexN ts.length (l.take (l.length - a.left) ++ (x :: p) ++ l.drop (l.length - a.left) ++ (x :: p)) = .good us := by
  obtain ⟨q, r, e, hr, h3, h4⟩ := Lx.cut i c l ts h a hi
  have hlen : l.length = q.length + r.length := by rw [e, List.length_append]
  refine ⟨by omega, ?_⟩
  have hil : i < ts.length := by
    rcases Nat.lt_or_ge i ts.length with h | h
    · exact h
    · rw [List.getElem?_eq_none h] at hi; cases hi
  have e1 : l.take (l.length - a.left) = q := by rw [show l.length - a.left = q.length by omega, e, List.take_left]
  have e2 : l.drop (l.length - a.left) = r := by rw [show l.length - a.left = q.length by omega, e, List.drop_left]
  obtain ⟨us, hc, hu⟩ := Lx.append_lex _ _ r h3 x p 0 [] hx (Lx.lexN_nil hp 0)
  have h5 : Lx.lexN ((ts.drop i).length + 0) (p ++ (r ++ x :: p)) = .good us := by rw [Lx.lexN_skip (hp _), hu, List.append_nil]
  obtain ⟨us', hc', hu'⟩ := h4 x _ _ _ hx h5
  refine ⟨us' ++ us, by rw [List.map_append, hc', hc, ← List.map_append, List.take_append_drop], ?_⟩
  rw [e1, e2, show q ++ x :: p ++ r ++ x :: p = q ++ x :: (p ++ (r ++ x :: p)) by simp, ← hu']
  congr 1
  rw [List.length_drop]; omega
theorem Lx.put0 (m : List UInt8) : Lx.skip ([] ++ m) = Lx.skip m := rfl
theorem Lx.put1 (m : List UInt8) : Lx.skip ([9] ++ m) = Lx.skip m := Lx.skip_blank (by decide)
theorem Lx.put2 (m : List UInt8) : Lx.skip ([40, 42, 32, 97, 32, 40, 42, 32, 98, 32, 42, 41, 32, 39, 32, 42, 41, 32] ++ m) = Lx.skip m := by
  rw [Lx.skip_rem (r := 32 :: m) rfl (by simp [Lx.rem])]
  exact Lx.skip_blank (by decide)
end Go.Proofs.YtfjcnncpmhfbnaaDoor
