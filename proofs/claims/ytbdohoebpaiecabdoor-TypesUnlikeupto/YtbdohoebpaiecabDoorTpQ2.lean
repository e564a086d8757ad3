/- Texts of right types, read back. -/
import Derived.Test.YtbdohoebpaiecabDoorTpQ
import Derived.Test.YtbdohoebpaiecabDoorTpO
namespace Go.Proofs.YtbdohoebpaiecabDoor
set_option linter.unusedVariables false

def Tp.spOf (k n : Int) : List Tp → List (List Tp) → List Tp
  | [a, b], [s, _] => if k = 5 then s ++ [b] else [.mk k n [a, b]]
  | ks, _ => [.mk k n ks]
mutual
/-- What stands between the stars of a pair's text. -/
def Tp.sp : Tp → List Tp
  | .mk k n ks => Tp.spOf k n ks (Tp.spL ks)
def Tp.spL : List Tp → List (List Tp)
  | [] => []
  | x :: r => Tp.sp x :: Tp.spL r
end
theorem Tp.sp_pair (a b : Tp) : Tp.sp (.mk 5 0 [a, b]) = a.sp ++ [b] := by
  rw [Tp.sp, Tp.spL, Tp.spL, Tp.spL, Tp.spOf]; rfl
theorem Tp.sp_other {t : Tp} (h : t.k ≠ 5) : t.sp = [t] := by
  obtain ⟨k, n, ks⟩ := t
  rw [Tp.sp]
  unfold Tp.spOf
  split
  · rw [if_neg (show k ≠ 5 from h)]
  · rfl
theorem Tp.sp_ne (n : Nat) : ∀ t : Tp, t.cnt ≤ n → t.right = true → t.sp ≠ [] := by
  intro t _ ht
  rcases Tp.right_cases ht with h | ⟨a, b, (rfl | rfl), -, -⟩
  · rw [Tp.sp_other (by rcases h with ⟨h, -⟩ | ⟨h, -⟩ <;> omega)]; simp
  · rw [Tp.sp_other (by simp [Tp.k])]; simp
  · rw [Tp.sp_pair]; simp
/-- An atom: in parentheses, unless it is a leaf. -/
def Tp.w3 (t : Tp) : List UInt8 := Tp.wrap 3 t.level t.text
def Tp.join : List Tp → List UInt8
  | [] => []
  | [x] => x.w3
  | x :: y :: r => x.w3 ++ ([32, 42, 32] ++ Tp.join (y :: r))
theorem Tp.join_snoc : ∀ (l : List Tp) (b : Tp), l ≠ [] → Tp.join (l ++ [b]) = Tp.join l ++ ([32, 42, 32] ++ b.w3)
  | [], b, h => absurd rfl h
  | [x], b, _ => rfl
  | x :: y :: r, b, _ => by
    have := Tp.join_snoc (y :: r) b (by simp)
    rw [List.cons_append, List.cons_append, Tp.join, Tp.join]
    rw [List.cons_append] at this
    rw [this]
    simp only [List.append_assoc]
theorem Tp.level_fn (n : Int) (a b : Tp) : (Tp.mk 4 n [a, b]).level = 1 := by unfold Tp.level; rw [if_pos ⟨rfl, rfl⟩]
theorem Tp.level_pair (n : Int) (a b : Tp) : (Tp.mk 5 n [a, b]).level = 2 := by unfold Tp.level; rw [if_neg (by simp [Tp.k]), if_pos ⟨rfl, rfl⟩]
/-- What is written first of a function, or of a pair. -/
theorem Tp.w2_join (n : Nat) : ∀ t : Tp, t.cnt ≤ n → t.right = true → Tp.wrap 2 t.level t.text = Tp.join t.sp := by
  induction n with
  | zero => intro t h; cases t; rw [Tp.cnt] at h; omega
  | succ n ih =>
    intro t hc ht
    rcases Tp.right_cases ht with h | ⟨a, b, (rfl | rfl), ha, hb⟩
    · rw [Tp.sp_other (by rcases h with ⟨h, -⟩ | ⟨h, -⟩ <;> omega), Tp.join, Tp.w3, (Tp.leafy_text h).2]; rfl
    · rw [Tp.sp_other (by simp [Tp.k]), Tp.join, Tp.w3, Tp.level_fn]; rfl
    · have hca : a.cnt ≤ n := by rw [Tp.cnt, Tp.cntL, Tp.cntL, Tp.cntL] at hc; omega
      rw [Tp.sp_pair, Tp.join_snoc _ _ (Tp.sp_ne _ a (Nat.le_refl _) ha), ← ih a hca ha, Tp.level_pair, Tp.text_two, if_neg (by decide), if_pos rfl]
      simp only [Tp.wrap, Tp.w3, List.append_assoc]
      rfl
theorem Tp.text_T1 (t : Tp) (ht : t.right = true) : (∃ a b, t = .mk 4 0 [a, b] ∧ a.right = true ∧ b.right = true ∧ t.text = Tp.join a.sp ++ ([32, 45, 62, 32] ++ b.text)) ∨ (t.k ≠ 4 ∧ t.text = Tp.join t.sp) := by
  rcases Tp.right_cases ht with h | ⟨a, b, (rfl | rfl), ha, hb⟩
  · refine .inr ⟨by rcases h with ⟨h, -⟩ | ⟨h, -⟩ <;> omega, ?_⟩
    rw [← Tp.w2_join _ t (Nat.le_refl _) ht, (Tp.leafy_text h).2]; rfl
  · refine .inl ⟨a, b, rfl, ha, hb, ?_⟩
    rw [← Tp.w2_join _ a (Nat.le_refl _) ha, Tp.text_two, if_pos rfl]
    have : Tp.wrap 1 b.level b.text = b.text := by
      unfold Tp.wrap
      rw [if_pos]
      unfold Tp.level
      split
      · decide
      · split <;> decide
    rw [this, List.append_assoc]
  · refine .inr ⟨by simp [Tp.k], ?_⟩
    rw [← Tp.w2_join _ _ (Nat.le_refl _) ht, Tp.level_pair]; rfl
theorem Tp.sp_inj (n : Nat) : ∀ x y : Tp, x.cnt ≤ n → x.right = true → y.right = true → x.sp = y.sp → x = y := by
  induction n with
  | zero => intro x y h; cases x; rw [Tp.cnt] at h; omega
  | succ n ih =>
    intro x y hc hx hy h
    have one : ∀ t : Tp, t.right = true → (t.k ≠ 5 ∧ t.sp = [t]) ∨ ∃ a b, t = .mk 5 0 [a, b] ∧ a.right = true ∧ t.sp = a.sp ++ [b] := by
      intro t ht
      rcases Tp.right_cases ht with h | ⟨a, b, (rfl | rfl), ha, hb⟩
      · have h5 : t.k ≠ 5 := by rcases h with ⟨h, -⟩ | ⟨h, -⟩ <;> omega
        exact .inl ⟨h5, Tp.sp_other h5⟩
      · exact .inl ⟨by simp [Tp.k], Tp.sp_other (by simp [Tp.k])⟩
      · exact .inr ⟨a, b, rfl, ha, Tp.sp_pair a b⟩
    rcases one x hx with ⟨-, e1⟩ | ⟨a, b, rfl, ha, e1⟩ <;> rcases one y hy with ⟨-, e2⟩ | ⟨a', b', rfl, ha', e2⟩
    · rw [e1, e2] at h; injection h
    · rw [e1, e2] at h
      have hl := congrArg List.length h
      have := List.length_pos_iff.2 (Tp.sp_ne _ a' (Nat.le_refl _) ha')
      rw [List.length_append] at hl; simp only [List.length_cons, List.length_nil] at hl; omega
    · rw [e1, e2] at h
      have hl := congrArg List.length h
      have := List.length_pos_iff.2 (Tp.sp_ne _ a (Nat.le_refl _) ha)
      rw [List.length_append] at hl; simp only [List.length_cons, List.length_nil] at hl; omega
    · rw [e1, e2] at h
      have h1 := List.append_inj' h rfl
      have hca : a.cnt ≤ n := by rw [Tp.cnt, Tp.cntL, Tp.cntL, Tp.cntL] at hc; omega
      rw [ih a a' hca ha ha' h1.1, List.head_eq_of_cons_eq h1.2]
def Tp.Stop1 (s : List UInt8) : Prop := s = [] ∨ ∃ r, s = 41 :: r
def Tp.Stop2 (s : List UInt8) : Prop := Tp.Stop1 s ∨ ∃ r, s = 32 :: 45 :: r
def Tp.Stop3 (s : List UInt8) : Prop := Tp.Stop2 s ∨ ∃ r, s = 32 :: 42 :: r
theorem Tp.stop_head {s : List UInt8} (h : Tp.Stop3 s) : s.takeWhile Tp.okc = [] := by
  rcases h with ((rfl | ⟨r, rfl⟩) | ⟨r, rfl⟩) | ⟨r, rfl⟩
  · rfl
  · rw [List.takeWhile_cons_of_neg (by decide)]
  · rw [List.takeWhile_cons_of_neg (by decide)]
  · rw [List.takeWhile_cons_of_neg (by decide)]
theorem Tp.take_ok : ∀ (l s : List UInt8), (∀ c ∈ l, Tp.okc c = true) → s.takeWhile Tp.okc = [] → (l ++ s).takeWhile Tp.okc = l
  | [], s, _, hs => hs
  | c :: l, s, h, hs => by
    rw [List.cons_append, List.takeWhile_cons_of_pos (h c (by simp)), Tp.take_ok l s (fun d hd => h d (by simp [hd])) hs]
def Tp.C1 (n : Nat) : Prop := ∀ x y : Tp, x.right = true → y.right = true → x.cnt ≤ n → ∀ s s' : List UInt8, Tp.Stop1 s → Tp.Stop1 s' → x.text ++ s = y.text ++ s' → x = y ∧ s = s'
theorem Tp.nonleaf_level {t : Tp} (ht : t.right = true) : t.leafy ∨ t.w3 = [40] ++ t.text ++ [41] := by
  rcases Tp.right_cases ht with h | ⟨a, b, (rfl | rfl), ha, hb⟩
  · exact .inl h
  · refine .inr ?_; rw [Tp.w3, Tp.level_fn]; rfl
  · refine .inr ?_; rw [Tp.w3, Tp.level_pair]; rfl
theorem Tp.leafy_w3 {t : Tp} (h : t.leafy) : t.w3 = Tp.leaf t.k t.n := by rw [Tp.w3, (Tp.leafy_text h).2, (Tp.leafy_text h).1]; rfl
theorem Tp.leaf_cons (t : Tp) (h : t.leafy) : ∃ c r, Tp.leaf t.k t.n = c :: r ∧ c ≠ 40 := by
  obtain ⟨r, hr⟩ := Tp.leaf_head t h
  refine ⟨_, r, hr, ?_⟩
  split
  · decide
  · split
    · decide
    · split
      · decide
      · split
        · decide
        · split <;> decide
theorem Tp.c3 {n : Nat} (c1 : Tp.C1 n) {x y : Tp} (hx : x.right = true) (hy : y.right = true) (hn : x.cnt ≤ n ∨ x.leafy) {s s' : List UInt8} (hs : Tp.Stop3 s) (hs' : Tp.Stop3 s') (h : x.w3 ++ s = y.w3 ++ s') : x = y ∧ s = s' := by
  rcases Tp.nonleaf_level hx with lx | wx <;> rcases Tp.nonleaf_level hy with ly | wy
  · rw [Tp.leafy_w3 lx, Tp.leafy_w3 ly] at h
    have e : Tp.leaf x.k x.n = Tp.leaf y.k y.n := by
      rw [← Tp.take_ok _ s (Tp.leaf_ok lx) (Tp.stop_head hs), h, Tp.take_ok _ s' (Tp.leaf_ok ly) (Tp.stop_head hs')]
    rw [e] at h
    exact ⟨Tp.leaf_inj lx ly e, List.append_cancel_left h⟩
  · obtain ⟨c, r, hc, h40⟩ := Tp.leaf_cons x lx
    rw [Tp.leafy_w3 lx, wy, hc] at h
    exact absurd (List.head_eq_of_cons_eq h) h40
  · obtain ⟨c, r, hc, h40⟩ := Tp.leaf_cons y ly
    rw [Tp.leafy_w3 ly, wx, hc] at h
    exact absurd (List.head_eq_of_cons_eq h).symm h40
  · rcases hn with hn | hl
    · rw [wx, wy] at h
      have h2 : x.text ++ (41 :: s) = y.text ++ (41 :: s') := by
        have := List.tail_eq_of_cons_eq (show (40 : UInt8) :: (x.text ++ [41] ++ s) = 40 :: (y.text ++ [41] ++ s') by simpa using h)
        simpa using this
      obtain ⟨e1, e2⟩ := c1 x y hx hy hn _ _ (.inr ⟨s, rfl⟩) (.inr ⟨s', rfl⟩) h2
      exact ⟨e1, List.tail_eq_of_cons_eq e2⟩
    · exfalso
      rw [Tp.leafy_w3 hl] at wx
      obtain ⟨c, r, hc, h40⟩ := Tp.leaf_cons x hl
      rw [hc] at wx
      exact absurd (List.head_eq_of_cons_eq wx) h40
theorem Tp.stop12 {r : List UInt8} {s : List UInt8} (h : Tp.Stop2 s) : s ≠ [32, 42, 32] ++ r := by
  rcases h with (rfl | ⟨q, rfl⟩) | ⟨q, rfl⟩ <;> simp
theorem Tp.cJ {n : Nat} (c1 : Tp.C1 n) : ∀ (xs ys : List Tp), xs ≠ [] → ys ≠ [] → (∀ x ∈ xs, x.right = true ∧ (x.cnt ≤ n ∨ x.leafy)) → (∀ y ∈ ys, y.right = true) → ∀ s s' : List UInt8, Tp.Stop2 s → Tp.Stop2 s' → Tp.join xs ++ s = Tp.join ys ++ s' → xs = ys ∧ s = s'
  | [], _, h, _, _, _, _, _, _, _, _ => absurd rfl h
  | _ :: _, [], _, h, _, _, _, _, _, _, _ => absurd rfl h
  | [x], [y], _, _, hx, hy, s, s', hs, hs', h => by
    obtain ⟨e1, e2⟩ := Tp.c3 c1 (hx x (by simp)).1 (hy y (by simp)) (hx x (by simp)).2 (.inl hs) (.inl hs') h
    exact ⟨by rw [e1], e2⟩
  | [x], y :: y2 :: r, _, _, hx, hy, s, s', hs, hs', h => by
    rw [Tp.join, Tp.join] at h
    simp only [List.append_assoc] at h
    obtain ⟨e1, e2⟩ := Tp.c3 c1 (s' := [32, 42, 32] ++ (Tp.join (y2 :: r) ++ s')) (hx x (by simp)).1 (hy y (by simp)) (hx x (by simp)).2 (.inl hs) (.inr ⟨_, rfl⟩) h
    exact absurd e2 (Tp.stop12 hs)
  | x :: x2 :: r, [y], _, _, hx, hy, s, s', hs, hs', h => by
    rw [Tp.join, Tp.join] at h
    simp only [List.append_assoc] at h
    obtain ⟨e1, e2⟩ := Tp.c3 c1 (s := [32, 42, 32] ++ (Tp.join (x2 :: r) ++ s)) (hx x (by simp)).1 (hy y (by simp)) (hx x (by simp)).2 (.inr ⟨_, rfl⟩) (.inl hs') h
    exact absurd e2.symm (Tp.stop12 hs')
  | x :: x2 :: r, y :: y2 :: r', _, _, hx, hy, s, s', hs, hs', h => by
    rw [Tp.join, Tp.join] at h
    simp only [List.append_assoc] at h
    obtain ⟨e1, e2⟩ := Tp.c3 c1 (s := [32, 42, 32] ++ (Tp.join (x2 :: r) ++ s)) (s' := [32, 42, 32] ++ (Tp.join (y2 :: r') ++ s')) (hx x (by simp)).1 (hy y (by simp)) (hx x (by simp)).2 (.inr ⟨_, rfl⟩) (.inr ⟨_, rfl⟩) h
    obtain ⟨e3, e4⟩ := Tp.cJ c1 (x2 :: r) (y2 :: r') (by simp) (by simp) (fun z hz => hx z (by simp at hz ⊢; exact .inr hz)) (fun z hz => hy z (by simp at hz ⊢; exact .inr hz)) s s' hs hs' (List.append_cancel_left e2)
    exact ⟨by rw [e1, e3], e4⟩
theorem Tp.sp_small (n : Nat) : ∀ t : Tp, t.cnt ≤ n → t.right = true → ∀ x ∈ t.sp, x.right = true ∧ x.cnt ≤ t.cnt ∧ (t.k = 5 → x.cnt < t.cnt) := by
  induction n with
  | zero => intro t h; cases t; rw [Tp.cnt] at h; omega
  | succ n ih =>
    intro t hc ht x hx
    rcases Tp.right_cases ht with h | ⟨a, b, (rfl | rfl), ha, hb⟩
    · have h5 : t.k ≠ 5 := by rcases h with ⟨h, -⟩ | ⟨h, -⟩ <;> omega
      rw [Tp.sp_other h5, List.mem_singleton] at hx
      subst hx
      exact ⟨ht, Nat.le_refl _, fun h => absurd h h5⟩
    · rw [Tp.sp_other (by simp [Tp.k]), List.mem_singleton] at hx
      subst hx
      exact ⟨ht, Nat.le_refl _, fun h => by simp [Tp.k] at h⟩
    · have hcc : (Tp.mk 5 0 [a, b]).cnt = a.cnt + b.cnt + 1 := by rw [Tp.cnt, Tp.cntL, Tp.cntL, Tp.cntL]; omega
      rw [Tp.sp_pair, List.mem_append, List.mem_singleton] at hx
      rcases hx with hx | rfl
      · obtain ⟨h1, h2, -⟩ := ih a (by omega) ha x hx
        exact ⟨h1, by omega, fun _ => by omega⟩
      · exact ⟨hb, by omega, fun _ => by omega⟩
theorem Tp.c1_all : ∀ n, Tp.C1 n := by
  intro n
  induction n with
  | zero => intro x y _ _ h; cases x; rw [Tp.cnt] at h; omega
  | succ n ih =>
    intro x y hx hy hc s s' hs hs' h
    have own : ∀ t : Tp, t.right = true → t.k ≠ 4 → t.cnt ≤ n + 1 → ∀ z ∈ t.sp, z.right = true ∧ (z.cnt ≤ n ∨ z.leafy) := by
      intro t ht h4 htc z hz
      obtain ⟨h1, h2, h3⟩ := Tp.sp_small _ t (Nat.le_refl _) ht z hz
      refine ⟨h1, ?_⟩
      by_cases h5 : t.k = 5
      · exact .inl (by have := h3 h5; omega)
      · rw [Tp.sp_other h5, List.mem_singleton] at hz
        subst hz
        rcases Tp.right_cases ht with h | ⟨a, b, (rfl | rfl), ha, hb⟩
        · exact .inr h
        · exact absurd rfl h4
        · exact absurd rfl h5
    rcases Tp.text_T1 x hx with ⟨a, b, rfl, ha, hb, ex⟩ | ⟨x4, ex⟩ <;> rcases Tp.text_T1 y hy with ⟨a', b', rfl, ha', hb', ey⟩ | ⟨y4, ey⟩
    · have hcc : (Tp.mk 4 0 [a, b]).cnt = a.cnt + b.cnt + 1 := by rw [Tp.cnt, Tp.cntL, Tp.cntL, Tp.cntL]; omega
      rw [ex, ey] at h
      simp only [List.append_assoc] at h
      obtain ⟨e1, e2⟩ := Tp.cJ ih a.sp a'.sp (Tp.sp_ne _ a (Nat.le_refl _) ha) (Tp.sp_ne _ a' (Nat.le_refl _) ha') (fun z hz => ⟨(Tp.sp_small _ a (Nat.le_refl _) ha z hz).1, .inl (by have := (Tp.sp_small _ a (Nat.le_refl _) ha z hz).2.1; omega)⟩) (fun z hz => (Tp.sp_small _ a' (Nat.le_refl _) ha' z hz).1) ([32, 45, 62, 32] ++ (b.text ++ s)) ([32, 45, 62, 32] ++ (b'.text ++ s')) (.inr ⟨_, rfl⟩) (.inr ⟨_, rfl⟩) h
      obtain ⟨e3, e4⟩ := ih b b' hb hb' (by omega) s s' hs hs' (List.append_cancel_left e2)
      rw [Tp.sp_inj _ a a' (Nat.le_refl _) ha ha' e1, e3]
      exact ⟨rfl, e4⟩
    · have hcc : (Tp.mk 4 0 [a, b]).cnt = a.cnt + b.cnt + 1 := by rw [Tp.cnt, Tp.cntL, Tp.cntL, Tp.cntL]; omega
      rw [ex, ey] at h
      simp only [List.append_assoc] at h
      obtain ⟨e1, e2⟩ := Tp.cJ ih a.sp y.sp (Tp.sp_ne _ a (Nat.le_refl _) ha) (Tp.sp_ne _ y (Nat.le_refl _) hy) (fun z hz => ⟨(Tp.sp_small _ a (Nat.le_refl _) ha z hz).1, .inl (by have := (Tp.sp_small _ a (Nat.le_refl _) ha z hz).2.1; omega)⟩) (fun z hz => (Tp.sp_small _ y (Nat.le_refl _) hy z hz).1) ([32, 45, 62, 32] ++ (b.text ++ s)) _ (.inr ⟨_, rfl⟩) (.inl hs') h
      rw [← e2] at hs'
      rcases hs' with h0 | ⟨r, h0⟩ <;> simp at h0
    · rw [ex, ey] at h
      simp only [List.append_assoc] at h
      obtain ⟨e1, e2⟩ := Tp.cJ ih x.sp a'.sp (Tp.sp_ne _ x (Nat.le_refl _) hx) (Tp.sp_ne _ a' (Nat.le_refl _) ha') (own x hx x4 hc) (fun z hz => (Tp.sp_small _ a' (Nat.le_refl _) ha' z hz).1) _ ([32, 45, 62, 32] ++ (b'.text ++ s')) (.inl hs) (.inr ⟨_, rfl⟩) h
      rw [e2] at hs
      rcases hs with h0 | ⟨r, h0⟩ <;> simp at h0
    · rw [ex, ey] at h
      obtain ⟨e1, e2⟩ := Tp.cJ ih x.sp y.sp (Tp.sp_ne _ x (Nat.le_refl _) hx) (Tp.sp_ne _ y (Nat.le_refl _) hy) (own x hx x4 hc) (fun z hz => (Tp.sp_small _ y (Nat.le_refl _) hy z hz).1) _ _ (.inl hs) (.inl hs') h
      exact ⟨Tp.sp_inj _ x y (Nat.le_refl _) hx hy e1, e2⟩
theorem Tp.text_inj {x y : Tp} (hx : x.right = true) (hy : y.right = true) (h : x.text = y.text) : x = y :=
  (Tp.c1_all _ x y hx hy (Nat.le_refl _) [] [] (.inl rfl) (.inl rfl) (by rw [h])).1
end Go.Proofs.YtbdohoebpaiecabDoor
