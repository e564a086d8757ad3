/- Rows of types that are written anew; what putting into a list comes to. -/
import Derived.Test.YtfeppchgmobfpaaGreatDoorTgK
namespace Go.Proofs.YtfeppchgmobfpaaGreatDoor
open Go.RowKit
set_option linter.unusedVariables false
set_option linter.unusedSimpArgs false

theorem Tt.putL_at (num : Int) (u : Tt) (C : Int → Bool) (l : List Int) {L : List Tt} {i : Nat} {x : Tt} (hx : L[i]? = some x) (e : List (Int × Int)) (nx : Int) : Tt.putL num u C l (L.drop i) e nx = ((Tt.put num u C l x e nx).1 :: (Tt.putL num u C l (L.drop (i + 1)) e (Tt.put num u C l x e nx).2.2).1, (Tt.put num u C l x e nx).2.1 || (Tt.putL num u C l (L.drop (i + 1)) e (Tt.put num u C l x e nx).2.2).2.1, (Tt.putL num u C l (L.drop (i + 1)) e (Tt.put num u C l x e nx).2.2).2.2) := by
  rw [Tt.drop_at hx, Tt.putL]
theorem sl_form {w : World} {K : Nat → Prop} {k : Nat} {v0 v1 v2 v3 : Value} {t : Tt} (h : TAt w K k [v0, v1, v2, v3] t) : ∃ x y a' c' m' a c m, v0 = .int .i64 x ∧ v1 = .int .i64 y ∧ v2 = .slice a' m' c' ∧ v3 = .slice a m c := by
  obtain ⟨a', c', a, c, e⟩ := h.form
  injection e with e0 e
  injection e with e1 e
  injection e with e2 e
  injection e with e3 e
  exact ⟨_, _, _, _, _, _, _, _, e0, e1, e2, e3⟩
theorem Rw.cells {N : Nat → Prop} {n0 : Nat} {w : World} {own : Nat → Prop} {g cap k : Nat} {L : List Tt} (h : Rw N n0 w own g cap k L) {i : Nat} {x : Tt} (hx : L[i]? = some x) : ∃ u0 u1 u2 u3, w.cell? ⟨g, i * 4, none⟩ = some u0 ∧ w.cell? ⟨g, i * 4 + 1, none⟩ = some u1 ∧ w.cell? ⟨g, i * 4 + 2, none⟩ = some u2 ∧ w.cell? ⟨g, i * 4 + 3, none⟩ = some u3 ∧ ∀ j, w.frozen? ⟨g, j, none⟩ = false := by
  obtain ⟨cur, h1, h2, h3⟩ := h.ex
  obtain ⟨vs, s1, s2⟩ := h3 i x hx
  obtain ⟨a', c', a, c, rfl⟩ := s2.form
  exact ⟨_, _, _, _, (h1.cell _).trans (s1 0 _ rfl), (h1.cell _).trans (s1 1 _ rfl), (h1.cell _).trans (s1 2 _ rfl), (h1.cell _).trans (s1 3 _ rfl), h1.frozen⟩
/-- Four cells are written. -/
theorem Ev.put4 {own o1 : Nat → Prop} {w w1 : World} (h : Ev own w o1 w1) {g i : Nat} (hg : w.heap.size ≤ g) (v0 v1 v2 v3 : Value) : Ev own w o1 ((((w1.setCell ⟨g, i * 4, none⟩ v0).setCell ⟨g, i * 4 + 1, none⟩ v1).setCell ⟨g, i * 4 + 2, none⟩ v2).setCell ⟨g, i * 4 + 3, none⟩ v3) := Ev.new (Ev.new (Ev.new (Ev.new h (p := ⟨g, i * 4, none⟩) hg _) (p := ⟨g, i * 4 + 1, none⟩) hg _) (p := ⟨g, i * 4 + 2, none⟩) hg _) (p := ⟨g, i * 4 + 3, none⟩) hg _
theorem Pt.put4 {N M : Nat} {num : Int} {u : Tt} {C : Int → Bool} {l : List Int} {w : World} {own : Nat → Prop} {e : List (Int × Int)} {nx : Int} {n : Nat} (h : Pt N M num u C l w own e nx n) {g i : Nat} (hg : ¬ own g) (hM : M ≤ g) (v0 v1 v2 v3 : Value) : Pt N M num u C l ((((w.setCell ⟨g, i * 4, none⟩ v0).setCell ⟨g, i * 4 + 1, none⟩ v1).setCell ⟨g, i * 4 + 2, none⟩ v2).setCell ⟨g, i * 4 + 3, none⟩ v3) own e nx n := (((h.other (p := ⟨g, i * 4, none⟩) hg hM _).other (p := ⟨g, i * 4 + 1, none⟩) hg hM _).other (p := ⟨g, i * 4 + 2, none⟩) hg hM _).other (p := ⟨g, i * 4 + 3, none⟩) hg hM _
theorem set_mid {L done : List Tt} {i : Nat} {x : Tt} (hd : done = L.take i) (hi : i < L.length) : L.set i x = (done ++ [x]) ++ L.drop (i + 1) := by
  rw [hd, List.set_eq_take_append_cons_drop, if_pos hi, List.append_assoc]; rfl
theorem set_mid2 {L done : List Tt} {i : Nat} {y x : Tt} (hd : done.length = i) : (done ++ y :: L.drop (i + 1)).set i x = (done ++ [x]) ++ L.drop (i + 1) := by
  subst hd
  rw [List.set_append_right _ _ (Nat.le_refl _), Nat.sub_self, List.append_assoc]; rfl
/-- The number and the parts of one of them are written anew. -/
theorem Rw.put2 {M : Nat → Prop} {n0 : Nat} {w : World} {own : Nat → Prop} {g cap k : Nat} {L : List Tt} (h : Rw M n0 w own g cap k L) {i : Nat} {x : Tt} (hx : L[i]? = some x) {n' : Int} (hn : R64 n') {kv : Value} {ks : List Tt} {k' : Nat} (hk : TAtL w (fun b => Kr M n0 own w b ∧ b ≠ g) k' kv ks) : Rw M n0 ((w.setCell ⟨g, i * 4 + 1, none⟩ (.int .i64 n')).setCell ⟨g, i * 4 + 3, none⟩ kv) own g cap (max k k' + 1) (L.set i (.mk x.k n' x.ls ks)) := by
  have hi := (List.getElem?_eq_some_iff.1 hx).1
  obtain ⟨⟨cur, h1, h2, h3⟩, no, ge, le, mx⟩ := h
  have hkp : ∀ {u : World} {p : Addr} {v : Value}, p.block = g → Keeps (fun b => Kr M n0 own w b ∧ b ≠ g) u (u.setCell p v) := fun {u p v} hp => Keeps.set (fun hb => hb.2 hp) v
  have K2 : Keeps (fun b => Kr M n0 own w b ∧ b ≠ g) w ((w.setCell ⟨g, i * 4 + 1, none⟩ (.int .i64 n')).setCell ⟨g, i * 4 + 3, none⟩ kv) := (hkp rfl).trans (hkp rfl)
  have hK : ∀ b, (Kr M n0 own w b ∧ b ≠ g) → (Kr M n0 own ((w.setCell ⟨g, i * 4 + 1, none⟩ (.int .i64 n')).setCell ⟨g, i * 4 + 3, none⟩ kv) b ∧ b ≠ g) := fun b hb => ⟨⟨hb.1.1, by simp only [World.setCell, Array.size_modify]; exact hb.1.2.1, hb.1.2.2⟩, hb.2⟩
  refine ⟨⟨(cur.set (i * 4 + 1) (.int .i64 n')).set (i * 4 + 3) kv, (h1.set _ _).set _ _, by simp only [List.length_set]; exact h2, fun j y hy => ?_⟩, no, ge, by rw [List.length_set]; exact le, by rw [List.length_set]; exact mx⟩
  by_cases hj : i = j
  · subst hj
    rw [List.getElem?_set_self hi] at hy
    injection hy with hy
    subst hy
    obtain ⟨vs, s1, s2⟩ := h3 i x hx
    cases k with
    | zero => exact s2.elim
    | succ m =>
      obtain ⟨u, v, rfl, q1, q2, q3, q4⟩ := s2
      have hl : i * 4 + 3 < cur.length := by omega
      refine ⟨[.int .i64 x.k, .int .i64 n', u, kv], fun m v hm => ?_, ⟨u, kv, rfl, q1, hn, q3.move K2 hK, (TAtL.le (hk.move K2 hK) (by omega))⟩⟩
      have z0 := s1 0 _ rfl
      have z2 := s1 2 _ rfl
      match m, hm with
      | 0, hm => injection hm with hm; subst hm; rw [List.getElem?_set_ne (by omega), List.getElem?_set_ne (by omega)]; exact z0
      | 1, hm => injection hm with hm; subst hm; rw [List.getElem?_set_ne (by omega), List.getElem?_set_self (by omega)]
      | 2, hm => injection hm with hm; subst hm; rw [List.getElem?_set_ne (by omega), List.getElem?_set_ne (by omega)]; exact z2
      | 3, hm => injection hm with hm; subst hm; rw [List.getElem?_set_self (by simp; omega)]
      | m + 4, hm => simp at hm
  · rw [List.getElem?_set_ne hj] at hy
    obtain ⟨vs, s1, s2⟩ := h3 j y hy
    have := s2.len
    exact ⟨vs, (s1.set_ne (by omega) _).set_ne (by omega) _, (s2.move K2 hK).le (by omega)⟩
/-- What putting into a list comes to. -/
def Pokl (I : Nat → Prop) (N M : Nat) (num : Int) (u : Tt) (C : Int → Bool) (l : List Int) (P : List Tt × Bool × Int) (w : World) (own : Nat → Prop) (e : List (Int × Int)) (nx : Int) (n c : Nat) (r : Ending) (w' : World) : Prop :=
  ∃ a' c' k' own', r = .returned (.tuple #[.slice a' P.1.length c', .bool P.2.1]) ∧ TAtL w' (Kr I w.heap.size own' w') k' (.slice a' P.1.length c') P.1 ∧ Pt N M num u C l w' own' e P.2.2 (n + c * 8388608) ∧ Ev own w own' w' ∧ P.2.2 + from_ l P.2.2 ≤ nx + from_ l nx + c
def PutOf (I : Nat → Prop) (N M : Nat) (num : Int) (u : Tt) (C : Int → Bool) (l : List Int) (k : Nat) : Prop := ∀ (w : World) (own : Nat → Prop) (e : List (Int × Int)) (nx : Int) (n : Nat) (a : Option Addr) (c : Nat) (L : List Tt), Pt N M num u C l w own e nx n → (∀ b, I b → b < w.heap.size ∧ ¬ own b) → TAtL w I k (.slice a L.length c) L → e.length + Tt.deepestL L ≤ 2097152 → n + Tt.cntL L * 8388608 ≤ 2305843009213693952 → nx + from_ l nx + Tt.cntL L ≤ 4611686018427387904 →
  Calls Tryz.prog 44 #[.pointer (some ⟨M, 0, none⟩), .slice a L.length c] w (Pokl I N M num u C l (Tt.putL num u C l L e nx) w own e nx n (Tt.cntL L))
end Go.Proofs.YtfeppchgmobfpaaGreatDoor
