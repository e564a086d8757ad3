/- Putting in: mathematics; the putter's state. -/
import Derived.Test.YtfeppchgmobfpaaGreatDoorTgX
namespace Go.Proofs.YtfeppchgmobfpaaGreatDoor
open Go.RowKit
set_option linter.unusedVariables false
set_option linter.unusedSimpArgs false

/-- How many numbers of a list are no less. -/
def from_ (l : List Int) (m : Int) : Nat := (l.filter (fun x => decide (m ≤ x))).length
theorem from_mono (l : List Int) (m : Int) : from_ l (m + 1) ≤ from_ l m := by
  unfold from_
  rw [← List.countP_eq_length_filter, ← List.countP_eq_length_filter]
  exact List.countP_mono_left (fun x _ hx => by simp only [decide_eq_true_eq] at hx ⊢; omega)
theorem from_step {l : List Int} {m : Int} (h : m ∈ l) : from_ l (m + 1) + 1 ≤ from_ l m := by
  unfold from_
  induction l with
  | nil => cases h
  | cons a r ih =>
    rw [List.filter_cons, List.filter_cons]
    rcases List.mem_cons.1 h with rfl | h
    · have h1 : decide (m ≤ m) = true := by simp
      have h2 : decide (m + 1 ≤ m) = false := decide_eq_false (by omega)
      rw [if_pos h1, if_neg (by rw [h2]; simp), List.length_cons]
      have : (r.filter (fun x => decide (m + 1 ≤ x))).length ≤ (r.filter (fun x => decide (m ≤ x))).length := from_mono r m
      omega
    · have := ih h
      by_cases h1 : m + 1 ≤ a
      · have h2 : m ≤ a := by omega
        simp only [decide_eq_true h1, decide_eq_true h2, if_true, List.length_cons]
        omega
      · by_cases h2 : m ≤ a
        · simp only [decide_eq_false h1, decide_eq_true h2, if_true, List.length_cons]
          simp
          omega
        · simp only [decide_eq_false h1, decide_eq_false h2]
          simpa using this
theorem from_le (l : List Int) (m : Int) : from_ l m ≤ l.length := List.length_filter_le _ _
/-- The first number from m on that is not in the list. -/
def fresh (l : List Int) : Nat → Int → Int
  | 0, m => m
  | f + 1, m => if m ∈ l then fresh l f (m + 1) else m
theorem fresh_not (l : List Int) : ∀ (f : Nat) (m : Int), from_ l m ≤ f → fresh l f m ∉ l
  | 0, m, h => by
    rw [fresh]
    intro hm
    have := from_step hm
    omega
  | f + 1, m, h => by
    rw [fresh]
    split
    · rename_i hm
      have := from_step hm
      exact fresh_not l f (m + 1) (by omega)
    · rename_i hm; exact hm
theorem fresh_more (l : List Int) : ∀ (f g : Nat) (m : Int), from_ l m ≤ f → from_ l m ≤ g → fresh l f m = fresh l g m
  | 0, 0, m, _, _ => rfl
  | 0, g + 1, m, h, _ => by
    rw [fresh, fresh, if_neg (fun hm => by have := from_step hm; omega)]
  | f + 1, 0, m, _, h => by
    rw [fresh, fresh, if_neg (fun hm => by have := from_step hm; omega)]
  | f + 1, g + 1, m, h1, h2 => by
    rw [fresh, fresh]
    split
    · rename_i hm
      have := from_step hm
      exact fresh_more l f g (m + 1) (by omega) (by omega)
    · rfl
theorem fresh_ge (l : List Int) : ∀ (f : Nat) (m : Int), m ≤ fresh l f m ∧ fresh l f m ≤ m + f
  | 0, m => by rw [fresh]; omega
  | f + 1, m => by
    rw [fresh]
    split
    · have := fresh_ge l f (m + 1); omega
    · omega
/-- The number that a binder is given, and the next one. -/
def give (C : Int → Bool) (l : List Int) (nx x : Int) : Int × Int := if C x then (fresh l l.length nx, fresh l l.length nx + 1) else (x, nx)
mutual
/-- A type with another one put in: it, whether it is another one, the next number. -/
def Tt.put (n : Int) (u : Tt) (C : Int → Bool) (l : List Int) : Tt → List (Int × Int) → Int → Tt × Bool × Int
  | .mk k x ls ks => fun e nx =>
    if k = 6 then
      (if lk e x = none ∧ x = n then (u, true, (Tt.putL n u C l ks e nx).2.2)
       else (.mk k ((lk e x).getD x) ls (Tt.putL n u C l ks e nx).1, (Tt.putL n u C l ks e nx).2.1 || ((lk e x).getD x != x), (Tt.putL n u C l ks e nx).2.2))
    else if (Tt.mk k x ls ks).binds then
      (.mk k (give C l nx x).1 ls (Tt.putL n u C l ks ((x, (give C l nx x).1) :: e) (give C l nx x).2).1, (Tt.putL n u C l ks ((x, (give C l nx x).1) :: e) (give C l nx x).2).2.1 || ((give C l nx x).1 != x), (Tt.putL n u C l ks ((x, (give C l nx x).1) :: e) (give C l nx x).2).2.2)
    else (.mk k x ls (Tt.putL n u C l ks e nx).1, (Tt.putL n u C l ks e nx).2.1 || (x != x), (Tt.putL n u C l ks e nx).2.2)
def Tt.putL (n : Int) (u : Tt) (C : Int → Bool) (l : List Int) : List Tt → List (Int × Int) → Int → List Tt × Bool × Int
  | [] => fun _ nx => ([], false, nx)
  | t :: r => fun e nx => ((Tt.put n u C l t e nx).1 :: (Tt.putL n u C l r e (Tt.put n u C l t e nx).2.2).1, (Tt.put n u C l t e nx).2.1 || (Tt.putL n u C l r e (Tt.put n u C l t e nx).2.2).2.1, (Tt.putL n u C l r e (Tt.put n u C l t e nx).2.2).2.2)
end
/-- The node's own number, what is bound within, the next number. -/
def Tt.own3 (C : Int → Bool) (l : List Int) (t : Tt) (e : List (Int × Int)) (nx : Int) : Int × List (Int × Int) × Int :=
  if t.k = 6 then ((lk e t.n).getD t.n, e, nx) else if t.binds then ((give C l nx t.n).1, (t.n, (give C l nx t.n).1) :: e, (give C l nx t.n).2) else (t.n, e, nx)
theorem Tt.put_mk (n : Int) (u : Tt) (C : Int → Bool) (l : List Int) (t : Tt) (e : List (Int × Int)) (nx : Int) : Tt.put n u C l t e nx =
    if t.k = 6 ∧ lk e t.n = none ∧ t.n = n then (u, true, (Tt.putL n u C l t.ks e nx).2.2)
    else (.mk t.k (t.own3 C l e nx).1 t.ls (Tt.putL n u C l t.ks (t.own3 C l e nx).2.1 (t.own3 C l e nx).2.2).1, (Tt.putL n u C l t.ks (t.own3 C l e nx).2.1 (t.own3 C l e nx).2.2).2.1 || ((t.own3 C l e nx).1 != t.n), (Tt.putL n u C l t.ks (t.own3 C l e nx).2.1 (t.own3 C l e nx).2.2).2.2) := by
  obtain ⟨k, x, ls, ks⟩ := t
  rw [Tt.put]
  unfold Tt.own3
  show (if k = 6 then _ else _) = if k = 6 ∧ lk e x = none ∧ x = n then _ else _
  by_cases h6 : k = 6
  · simp only [h6, if_true, true_and]
    rfl
  · simp only [h6, if_false, false_and, Tt.k, Tt.n, Tt.ls, Tt.ks]
    split <;> rfl
mutual
/-- What is no other one is the same. -/
theorem Tt.put_same (n : Int) (u : Tt) (C : Int → Bool) (l : List Int) : ∀ (t : Tt) (e : List (Int × Int)) (nx : Int), (Tt.put n u C l t e nx).2.1 = false → (Tt.put n u C l t e nx).1 = t
  | .mk k x ls ks, e, nx => by
    rw [Tt.put_mk]
    split
    · intro h; cases h
    · intro h
      simp only [Bool.or_eq_false_iff, bne_eq_false_iff_eq] at h
      obtain ⟨h1, h2⟩ := h
      show Tt.mk k _ ls _ = _
      have := Tt.putL_same n u C l ks _ _ h1
      rw [h2]
      exact congrArg (Tt.mk k x ls) this
theorem Tt.putL_same (n : Int) (u : Tt) (C : Int → Bool) (l : List Int) : ∀ (ts : List Tt) (e : List (Int × Int)) (nx : Int), (Tt.putL n u C l ts e nx).2.1 = false → (Tt.putL n u C l ts e nx).1 = ts
  | [], e, nx => by intro _; rw [Tt.putL]
  | t :: r, e, nx => by
    rw [Tt.putL]
    intro h
    simp only [Bool.or_eq_false_iff] at h
    show _ :: _ = _
    rw [Tt.put_same n u C l t e nx h.1, Tt.putL_same n u C l r e _ h.2]
end
abbrev PT : TypeId := 139
/-- The putter in block M. -/
structure Pt (N M : Nat) (num : Int) (u : Tt) (C : Int → Bool) (l : List Int) (w : World) (own : Nat → Prop) (e : List (Int × Int)) (nx : Int) (n : Nat) : Prop where
  ex : ∃ vs mv lv Cc Ct ub kb, Wk w M PT vs 0 (M + 1) mv lv e n ∧ vs[6]? = some (.int .i64 num) ∧ Seg vs 7 ub ∧ TAt w (fun b => b < N) kb ub u ∧ vs[11]? = some (.map (some Cc)) ∧ vs[12]? = some (.map (some Ct)) ∧ vs[13]? = some (.int .i64 nx) ∧ (∃ m, SetIs w Cc m C) ∧ (∃ m T, SetIs w Ct m T ∧ ∀ x, T x = decide (x ∈ l)) ∧ (Cc < M ∧ Ct < M ∧ N ≤ M) ∧ own = fun b => b = M ∨ Os mv lv b
  lo : 0 ≤ nx
theorem Pt.le {N M : Nat} {num : Int} {u : Tt} {C : Int → Bool} {l : List Int} {w : World} {own : Nat → Prop} {e : List (Int × Int)} {nx : Int} {n : Nat} (h : Pt N M num u C l w own e nx n) : N ≤ M := by
  obtain ⟨vs, mv, lv, Cc, Ct, ub, kb, h1, h2, h3, h4, h5, h6, h7, h8, h9, h10, -⟩ := h.ex
  exact h10.2.2
theorem Pt.own {N M : Nat} {num : Int} {u : Tt} {C : Int → Bool} {l : List Int} {w : World} {own : Nat → Prop} {e : List (Int × Int)} {nx : Int} {n : Nat} (h : Pt N M num u C l w own e nx n) : ∀ b, own b → M ≤ b ∧ b < w.heap.size := by
  obtain ⟨vs, mv, lv, Cc, Ct, ub, kb, h1, h2, h3, h4, h5, h6, h7, h8, h9, h10, rfl⟩ := h.ex
  intro b hb
  rcases hb with rfl | hb
  · exact ⟨Nat.le_refl _, h1.arr.lt⟩
  · have := h1.scp.ge hb; omega
theorem Pt.block {N M : Nat} {num : Int} {u : Tt} {C : Int → Bool} {l : List Int} {w w' : World} {own : Nat → Prop} {e : List (Int × Int)} {nx : Int} {n : Nat} (h : Pt N M num u C l w own e nx n) (hb : ∀ b, own b → w'.heap[b]? = w.heap[b]?) (hlt : ∀ b, b < M → w'.heap[b]? = w.heap[b]?) (hs : w.heap.size ≤ w'.heap.size) : Pt N M num u C l w' own e nx n := by
  obtain ⟨⟨vs, mv, lv, Cc, Ct, ub, kb, h1, h2, h3, h4, h5, h6, h7, ⟨m8, h8⟩, ⟨m9, T, h9, h9'⟩, h10, rfl⟩, lo⟩ := h
  exact ⟨⟨vs, mv, lv, Cc, Ct, ub, kb, ⟨⟨(hb M (.inl rfl)).trans h1.arr.b⟩, h1.m, h1.l, h1.nm, h1.nl, h1.scp.blocks (fun b q => hb b (.inr q)), h1.lt, Nat.le_trans h1.le hs⟩, h2, h3, h4.move (fun b o v q hv => (World.cell?_of_block (w := w) (a := ⟨b, o, none⟩) (hlt b (Nat.lt_of_lt_of_le q h10.2.2))).trans hv) (fun _ h => h), h5, h6, h7, ⟨m8, h8.block (hlt _ h10.1)⟩, ⟨m9, T, h9.block (hlt _ h10.2.1), h9'⟩, h10, rfl⟩, lo⟩
theorem Pt.stays {N M : Nat} {num : Int} {u : Tt} {C : Int → Bool} {l : List Int} {w w' : World} {own : Nat → Prop} {e : List (Int × Int)} {nx : Int} {n : Nat} (h : Pt N M num u C l w own e nx n) (hb : Below w.heap.size w w') : Pt N M num u C l w' own e nx n := by
  have hM : M < w.heap.size := by obtain ⟨vs, mv, lv, Cc, Ct, ub, kb, h1, -⟩ := h.ex; exact h1.arr.lt
  exact h.block (fun b q => hb.block b (h.own b q).2) (fun b q => hb.block b (by omega)) hb.size
theorem Pt.up {N M : Nat} {num : Int} {u : Tt} {C : Int → Bool} {l : List Int} {w : World} {own : Nat → Prop} {e : List (Int × Int)} {nx : Int} {n m : Nat} (h : Pt N M num u C l w own e nx n) (hn : n ≤ m) : Pt N M num u C l w own e nx m := by
  obtain ⟨⟨vs, mv, lv, Cc, Ct, ub, kb, h1, h2⟩, lo⟩ := h
  exact ⟨⟨vs, mv, lv, Cc, Ct, ub, kb, h1.up hn, h2⟩, lo⟩
theorem Pt.other {N M : Nat} {num : Int} {u : Tt} {C : Int → Bool} {l : List Int} {w : World} {own : Nat → Prop} {e : List (Int × Int)} {nx : Int} {n : Nat} (h : Pt N M num u C l w own e nx n) {p : Addr} (hp : ¬ own p.block) (hM : M ≤ p.block) (v : Value) : Pt N M num u C l (w.setCell p v) own e nx n := h.block (fun b q => Below.heap_setCell _ _ _ _ (fun e => hp (e ▸ q))) (fun b q => Below.heap_setCell _ _ _ _ (by omega)) (by simp only [World.setCell, Array.size_modify]; exact Nat.le_refl _)
theorem Pt.keeps {N M : Nat} {num : Int} {u : Tt} {C : Int → Bool} {l : List Int} {w w' : World} {own own' : Nat → Prop} {e : List (Int × Int)} {nx : Int} {n : Nat} (h : Pt N M num u C l w own e nx n) (hev : Ev own w own' w') : Keeps (fun b => b < N) w w' := hev.lt (fun b hb => Nat.le_trans h.le (h.own b hb).1)
/-- The walker in it. -/
theorem Pt.walk {N M : Nat} {num : Int} {u : Tt} {C : Int → Bool} {l : List Int} {w : World} {own : Nat → Prop} {e : List (Int × Int)} {nx : Int} {n : Nat} (h : Pt N M num u C l w own e nx n) : ∃ vs mv lv, Wk w M PT vs 0 (M + 1) mv lv e n ∧ own = (fun b => b = M ∨ Os mv lv b) ∧ ∀ w' vs' mv' lv' e' n', vs' = (vs.set (0 + 2) mv').set (0 + 2 + 1) lv' → Wk w' M PT vs' 0 (M + 1) mv' lv' e' n' → Ev (Om M mv lv) w (Om M mv' lv') w' → ∃ own', Pt N M num u C l w' own' e' nx n' ∧ Ev own w own' w' := by
  have hkk := h
  obtain ⟨⟨vs, mv, lv, Cc, Ct, ub, kb, h1, h2, h3, h4, h5, h6, h7, ⟨m8, h8⟩, ⟨m9, T, h9, h9'⟩, h10, rfl⟩, lo⟩ := h
  refine ⟨vs, mv, lv, h1, rfl, fun w' vs' mv' lv' e' n' hvs h' hev => ?_⟩
  obtain ⟨-, -, g3⟩ := set_two (mv' := mv') (lv' := lv') h1.m h1.l
  have hM := h1.arr.lt
  have nb : ∀ C, C < M → ¬ Om M mv lv C := fun C hC hq => by
    rcases hq with hq | hq
    · omega
    · have := h1.scp.ge hq; omega
  have hv : ∀ j, 6 ≤ j → vs'[j]? = vs[j]? := fun j hj => by rw [hvs]; exact g3 j (by omega) (by omega)
  have hev' : Ev (fun b => b = M ∨ Os mv lv b) w (fun b => b = M ∨ Os mv' lv' b) w' := hev
  exact ⟨_, ⟨⟨vs', mv', lv', Cc, Ct, ub, kb, h', (hv _ (by omega)).trans h2, fun j v q => (hv _ (by omega)).trans (h3 j v q), h4.move (hkk.keeps hev') (fun _ h => h), (hv _ (by omega)).trans h5, (hv _ (by omega)).trans h6, (hv _ (by omega)).trans h7, ⟨m8, h8.block (hev.block Cc (by omega) (nb Cc h10.1))⟩, ⟨m9, T, h9.block (hev.block Ct (by omega) (nb Ct h10.2.1)), h9'⟩, h10, rfl⟩, lo⟩, hev'⟩
end Go.Proofs.YtfeppchgmobfpaaGreatDoor
