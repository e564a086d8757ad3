/- renewed: a node with what is made of each of its parts, in new memory. -/
import Derived.Test.YtknlpeloaapaiaaTpB
namespace Go.Proofs.Ytknlpeloaapaiaa
open Go.RowKit
set_option linter.unusedVariables false
set_option linter.unusedSimpArgs false

theorem results_cell1 {fn : Func} {p : Tmp} {ty : TypeId} (h : fn.results = #[.cell p ty]) (tmps : Array Value) (P : Program) (w : World) :
    (results fn tmps).run P w = ((asAddr (tmps.getD p undef)).run P w).andThen fun a w₁ => ((loadVar ty a).run P w₁) := by
  simp only [results, h]
  simp [Sem.run_bind, Result.andThen]
theorem addr_add (b o k : Nat) : (⟨b, o, none⟩ : Addr).add k = ⟨b, o + k, none⟩ := by
  unfold Addr.add
  by_cases h : k = 0
  · subst h; simp
  · simp [h]
/-- What Clone leaves: the same values, in a block of its own. -/
def CloneT (w : World) (K : Nat → Prop) (n : Nat) (l : List Tp) (e : Ending) (w' : World) : Prop := ∃ v', e = .returned v' ∧ Below w.heap.size w w' ∧ ((l = [] ∧ ∃ p c, v' = .slice p 0 c) ∨ ∃ g cap cur, v' = .slice (some ⟨g, 0, none⟩) l.length cap ∧ w.heap.size ≤ g ∧ l.length ≤ cap ∧ Arr w' g 24 cur ∧ ∀ (i : Nat) x, l[i]? = some x → ∃ a c, TAt w K n [.int .i64 x.k, .int .i64 x.n, .slice a x.ks.length c] x ∧ Seg cur (i * 3) [.int .i64 x.k, .int .i64 x.n, .slice a x.ks.length c])
theorem clone_T (w : World) (K : Nat → Prop) (n : Nat) (v : Value) (l : List Tp) (h : TAtL w K n v l) (hl : l.length ≤ 1048576) : Calls Try.prog 112 #[v] w (CloneT w K n l) := by
  by_cases h0 : l = []
  · subst h0
    obtain ⟨a, c, rfl, -⟩ := h.form
    cases a with
    | none => exact (clone_nilT w 0 c).mono fun e w' ⟨h1, h2⟩ => ⟨_, h1, by rw [h2]; exact Below.refl _ _, .inl ⟨rfl, _, _, rfl⟩⟩
    | some a =>
      refine (clone_rawT w a 0 c [] rfl (fun j u hj => by simp at hj) (fun u hu => by cases hu) (by omega)).mono ?_
      rintro e w' ⟨v', rfl, hown, hb⟩
      refine ⟨v', rfl, hb, .inl ⟨rfl, ?_⟩⟩
      rcases hown.2 with ⟨h, -⟩ | ⟨g, cap, cur, h, -⟩
      · exact ⟨_, _, h⟩
      · exact ⟨_, _, h⟩
  · have hE := h
    obtain ⟨b, o, c, rfl, -, -, -, -⟩ := h.resolve_right (fun h => h0 h.1)
    have hcell : ∀ j, j < l.length * 3 → ∃ u, w.cell? ⟨b, o + j, none⟩ = some u ∧ u.oneCell' = true := by
      intro j hj
      obtain ⟨x, hx⟩ : ∃ x, l[j / 3]? = some x := ⟨_, List.getElem?_eq_getElem (by omega)⟩
      obtain ⟨vx, tx, x0, x1, x2, -, -⟩ := hE.elem hx
      obtain ⟨ax, cx, ex⟩ := tx.form
      simp only [List.cons.injEq, and_true, true_and] at ex
      subst ex
      rcases (by omega : j % 3 = 0 ∨ j % 3 = 1 ∨ j % 3 = 2) with hr | hr | hr
      · exact ⟨_, by rw [show o + j = o + j / 3 * 3 by omega]; exact x0, rfl⟩
      · exact ⟨_, by rw [show o + j = o + j / 3 * 3 + 1 by omega]; exact x1, rfl⟩
      · exact ⟨_, by rw [show o + j = o + j / 3 * 3 + 2 by omega]; exact x2, rfl⟩
    have hvl : ((List.range (l.length * 3)).map fun j => (w.cell? ⟨b, o + j, none⟩).getD (.bool false)).length = l.length * 3 := by simp
    have hvals : ∀ (j : Nat) u, ((List.range (l.length * 3)).map fun j => (w.cell? ⟨b, o + j, none⟩).getD (.bool false))[j]? = some u → w.cell? ⟨b, o + j, none⟩ = some u ∧ u.oneCell' = true := by
      intro j u hu
      obtain ⟨hj, e⟩ := List.getElem?_eq_some_iff.1 hu
      rw [hvl] at hj
      obtain ⟨u', h1, h2⟩ := hcell j hj
      simp [h1] at e
      subst e
      exact ⟨h1, h2⟩
    have hget : ∀ (j : Nat) u, j < l.length * 3 → w.cell? ⟨b, o + j, none⟩ = some u → ((List.range (l.length * 3)).map fun j => (w.cell? ⟨b, o + j, none⟩).getD (.bool false))[j]? = some u := by
      intro j u hj hu
      simp [hj, hu]
    generalize ((List.range (l.length * 3)).map fun j => (w.cell? ⟨b, o + j, none⟩).getD (.bool false)) = vals at hvl hvals hget
    refine (clone_rawT w ⟨b, o, none⟩ l.length c vals hvl (fun j u hj => by rw [addr_add]; exact (hvals j u hj).1) (fun u hu => by obtain ⟨j, hj⟩ := List.getElem?_of_mem hu; exact (hvals j u hj).2) hl).mono ?_
    rintro e w' ⟨v', rfl, hown, hb⟩
    refine ⟨v', rfl, hb, .inr ?_⟩
    rcases hown.2 with ⟨-, hz⟩ | ⟨g, cap, cur, rfl, hg, hh, hc, hm, hs, ht⟩
    · exact absurd (List.eq_nil_of_length_eq_zero hz) h0
    · refine ⟨g, cap, cur.toList, rfl, hg, hc, ⟨by rw [hh]⟩, fun i x hx => ?_⟩
      have hi := (List.getElem?_eq_some_iff.1 hx).1
      obtain ⟨vx, tx, x0, x1, x2, -, -⟩ := hE.elem hx
      obtain ⟨ax, cx, ex⟩ := tx.form
      simp only [List.cons.injEq, and_true, true_and] at ex
      subst ex
      have hcur : ∀ (j : Nat) u, vals[j]? = some u → cur.toList[j]? = some u := by
        intro j u hu
        rw [← ht] at hu
        rw [List.getElem?_take] at hu
        split at hu
        · exact hu
        · cases hu
      refine ⟨ax, cx, tx, fun j u hu => ?_⟩
      match j, hu with
      | 0, hu => simp at hu; subst hu; exact hcur _ _ (hget _ _ (by omega) (by rw [← Nat.add_assoc]; exact x0))
      | 1, hu => simp at hu; subst hu; exact hcur _ _ (hget _ _ (by omega) (by rw [← Nat.add_assoc]; exact x1))
      | 2, hu => simp at hu; subst hu; exact hcur _ _ (hget _ _ (by omega) (by rw [← Nat.add_assoc]; exact x2))
      | j + 3, hu => simp at hu
/-- What is made of a node, in new memory. -/
def MadeOf (g : FuncId) (fs : Array Value) (m : Tp → Tp) (w : World) (n : Nat) : Prop :=
  ∀ (wz : World) (vs : List Value) (t : Tp), Below w.heap.size w wz → TAt w (fun b => b < w.heap.size) n vs t → (m t).cnt ≤ 1000 →
    Calls Try.prog g (fs ++ #[.agg vs.toArray]) wz fun e w' => ∃ vs' n', e = .returned (.agg vs'.toArray) ∧ TAt w' (fun b => wz.heap.size ≤ b) n' vs' (m t) ∧ Below wz.heap.size wz w'
theorem Tp.cntL_len : ∀ l : List Tp, l.length ≤ Tp.cntL l
  | [] => Nat.le_refl _
  | x :: r => by rw [Tp.cntL]; have := Tp.cntL_len r; have : 1 ≤ x.cnt := (by cases x; rw [Tp.cnt]; omega); simp; omega
theorem Tp.cnt_le_cntL {l : List Tp} {x : Tp} (h : x ∈ l) : x.cnt ≤ Tp.cntL l := by
  induction l with
  | nil => cases h
  | cons y r ih =>
    rw [Tp.cntL]
    rcases List.mem_cons.1 h with rfl | h
    · omega
    · have := ih h; omega

theorem Seg.set3 {cur : List Value} {o : Nat} {a b c : Value} (h : o + 2 < cur.length) : Seg (((cur.set o a).set (o + 1) b).set (o + 2) c) o [a, b, c] := by
  intro j v hv
  match j, hv with
  | 0, hv => simp at hv; subst hv; simp [List.getElem?_set]; omega
  | 1, hv => simp at hv; subst hv; simp [List.getElem?_set]; omega
  | 2, hv => simp at hv; subst hv; simp [List.getElem?_set]; omega
  | j + 3, hv => simp at hv
theorem Seg.other3 {cur : List Value} {o p : Nat} {a b c : Value} {vs : List Value} (h : Seg cur p vs) (hv : vs.length = 3) (hp : p + 2 < o ∨ o + 2 < p) : Seg (((cur.set o a).set (o + 1) b).set (o + 2) c) p vs := by
  intro j v hj
  have hj3 := (List.getElem?_eq_some_iff.1 hj).1
  have := h j v hj
  rw [List.getElem?_set_ne (by omega), List.getElem?_set_ne (by omega), List.getElem?_set_ne (by omega)]
  exact this
end Go.Proofs.Ytknlpeloaapaiaa
