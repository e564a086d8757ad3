/- append([]T{}, v...): a list of its own. -/
import Derived.Test.YtknlpeloaapaiaaTpV
import Derived.Test.YtknlpeloaapaiaaTpI
import Derived.Test.YtknlpeloaapaiaaTpPu
import Derived.Laws.AppendOwn
import Derived.Laws.AppendOwnNone
namespace Go.Proofs.Ytknlpeloaapaiaa
open Go.RowKit
set_option linter.unusedVariables false
set_option linter.unusedSimpArgs false

/-- What a slice that is appended holds. -/
def Src (w : World) (k : Nat) (v : Value) (m : Nat) (news : List Value) : Prop := (v = .slice none 0 0 ∧ m = 0 ∧ news = []) ∨ ∃ ad c, v = .slice (some ad) m c ∧ news.length = m * k ∧ (∀ (j : Nat) u, news[j]? = some u → w.cell? (ad.add j) = some u) ∧ ∀ u ∈ news, u.oneCell' = true
/-- nil, or a row. -/
def Sly (v : Value) : Prop := v = .slice none 0 0 ∨ ∃ ad m c, v = .slice (some ad) m c
theorem Src.below {w w' : World} {k : Nat} {v : Value} {m : Nat} {news : List Value} (h : Src w k v m news) (hb : Below w.heap.size w w') : Src w' k v m news := by
  rcases h with h | ⟨ad, c, h1, h2, h3, h4⟩
  · exact .inl h
  · exact .inr ⟨ad, c, h1, h2, fun j u hu => (hb.cell (World.block_lt_of_cell? w _ (h3 j u hu))).trans (h3 j u hu), h4⟩

theorem wp_copy {P : Program} {ops : Array Oper} {rest : List Oper} {o : Oper} {a : Act} {w : World} {Q : Exit → Act → World → Prop} (hgd : o.guard = none) (s x : Operand) (t : TypeId)
    (ho : o.op = .call { callee := .builtin .append, args := #[s, x], argTypes := #[t, t] })
    (g : Nat) (e : TypeId) (i : TypeInfo) (z : Value) (size bytes : Nat) (ht : P.underlying t = some (.slice e)) (hi : P.info? e = some i) (hz : i.zero = some z)
    (hsize : i.size = size) (hby : i.bytes = bytes) (hzs : z.cells.size = size) (hsz : 0 < size) (hs : a.eval s = .slice (some ⟨g, 0, none⟩) 0 0) (hown : w.ownsRow g e size (.slice (some ⟨g, 0, none⟩) 0 0) 0 [])
    (v : Value) (m : Nat) (news : List Value) (hx : a.eval x = v) (hsrc : Src w size v m news) (hm : m ≤ 1048576) (hb : bytes ≤ 64) (hg : g ≤ w.heap.size)
    (h : ∀ v' w', w'.ownsRow g e size v' m news → Below g w w' → wpList P ops Q rest (a.put o.dst v') w') : wpList P ops Q (o :: rest) a w := by
  rcases hsrc with ⟨rfl, rfl, rfl⟩ | ⟨ad, c, rfl, hl, hnews, h1⟩
  · exact wpList_append_own_none hgd s x t ho g e i size ht hi _ 0 [] hs hown hx (h _ _ hown (Below.refl _ _))
  · refine wpList_append_own w hgd s x t ho g e i z size bytes ht hi hz hsize hby hzs hsz _ 0 [] hs hown ad m c news hx hl hnews h1 (by unfold maxLen; omega) (by rw [Nat.zero_add]; exact Nat.le_trans (Nat.mul_le_mul hm hb) (by decide)) hg ?_
    intro v' w' h2 h3 _
    rw [Nat.zero_add, List.nil_append] at h2
    exact h v' w' h2 ((Below.refl g w).grown h3 hg (fun b hb => (hown.lt b hb).1))
theorem TAtL.src {w : World} {K : Nat → Prop} {n : Nat} {v : Value} {l : List Tp} (h : TAtL w K n v l) (hs : Sly v) : ∃ vals, Src w 3 v l.length vals ∧ ∀ (i : Nat) x, l[i]? = some x → ∃ vs, TAt w K n vs x ∧ Seg vals (i * 3) vs := by
  by_cases h0 : l = []
  · subst h0
    refine ⟨[], ?_, fun i x hx => by simp at hx⟩
    obtain ⟨a, c, rfl, -⟩ := h.form
    rcases hs with hs | ⟨ad, m, c', hs⟩
    · exact .inl ⟨hs, rfl, rfl⟩
    · injection hs with e1 e2 e3
      subst e1
      exact .inr ⟨ad, c, rfl, rfl, fun j u hu => by simp at hu, fun u hu => by cases hu⟩
  · have hE := h
    obtain ⟨b, o, c, rfl, -, -, -, -⟩ := h.resolve_right (fun h => h0 h.1)
    have hcell : ∀ j, j < l.length * 3 → ∃ u, w.cell? ⟨b, o + j, none⟩ = some u ∧ u.oneCell' = true := by
      intro j hj
      obtain ⟨x, hx⟩ : ∃ x, l[j / 3]? = some x := ⟨_, List.getElem?_eq_getElem (by omega)⟩
      obtain ⟨vx, tx, x0, x1, x2, -, -⟩ := hE.elem hx
      obtain ⟨ax, cx, ex⟩ := tx.form
      simp only [List.cons.injEq, and_true, true_and] at ex
      subst ex
      rcases (by omega : j % 3 = 0 ∨ j % 3 = 1 ∨ j % 3 = 2) with hr | hr | hr
      · exact ⟨_, by rw [show o + j = o + j / 3 * 3 by omega]; exact x0, rfl⟩
      · exact ⟨_, by rw [show o + j = o + j / 3 * 3 + 1 by omega]; exact x1, rfl⟩
      · exact ⟨_, by rw [show o + j = o + j / 3 * 3 + 2 by omega]; exact x2, rfl⟩
    have hvl : ((List.range (l.length * 3)).map fun j => (w.cell? ⟨b, o + j, none⟩).getD (.bool false)).length = l.length * 3 := by simp
    have hvals : ∀ (j : Nat) u, ((List.range (l.length * 3)).map fun j => (w.cell? ⟨b, o + j, none⟩).getD (.bool false))[j]? = some u → w.cell? ⟨b, o + j, none⟩ = some u ∧ u.oneCell' = true := by
      intro j u hu
      obtain ⟨hj, e⟩ := List.getElem?_eq_some_iff.1 hu
      rw [hvl] at hj
      obtain ⟨u', h1, h2⟩ := hcell j hj
      simp [h1] at e
      subst e
      exact ⟨h1, h2⟩
    have hget : ∀ (j : Nat) u, j < l.length * 3 → w.cell? ⟨b, o + j, none⟩ = some u → ((List.range (l.length * 3)).map fun j => (w.cell? ⟨b, o + j, none⟩).getD (.bool false))[j]? = some u := by
      intro j u hj hu
      simp [hj, hu]
    generalize ((List.range (l.length * 3)).map fun j => (w.cell? ⟨b, o + j, none⟩).getD (.bool false)) = vals at hvl hvals hget
    refine ⟨vals, .inr ⟨⟨b, o, none⟩, c, rfl, hvl, fun j u hj => by rw [addr_add]; exact (hvals j u hj).1, fun u hu => by obtain ⟨j, hj⟩ := List.getElem?_of_mem hu; exact (hvals j u hj).2⟩, fun i x hx => ?_⟩
    have hi := (List.getElem?_eq_some_iff.1 hx).1
    obtain ⟨vx, tx, x0, x1, x2, -, -⟩ := hE.elem hx
    obtain ⟨ax, cx, ex⟩ := tx.form
    simp only [List.cons.injEq, and_true, true_and] at ex
    subst ex
    refine ⟨_, tx, fun j u hu => ?_⟩
    match j, hu with
    | 0, hu => simp at hu; subst hu; exact hget _ _ (by omega) (by rw [← Nat.add_assoc]; exact x0)
    | 1, hu => simp at hu; subst hu; exact hget _ _ (by omega) (by rw [← Nat.add_assoc]; exact x1)
    | 2, hu => simp at hu; subst hu; exact hget _ _ (by omega) (by rw [← Nat.add_assoc]; exact x2)
    | j + 3, hu => simp at hu
theorem own_cell {w : World} {base : Nat} {e : TypeId} {k : Nat} {v : Value} {n : Nat} {xs : List Value} (h : w.ownsRow base e k v n xs) (h0 : n ≠ 0) : ∃ g cap, v = .slice (some ⟨g, 0, none⟩) n cap ∧ n ≤ cap ∧ n ≤ maxLen ∧ ∀ (j : Nat) u, xs[j]? = some u → w.cell? ⟨g, j, none⟩ = some u := by
  rcases h.2 with ⟨-, hz⟩ | ⟨g, cap, cur, rfl, hg, hh, hc, hm, hs, ht⟩
  · exact absurd hz h0
  · refine ⟨g, cap, rfl, hc, Nat.le_trans hc hm, fun j u hu => ?_⟩
    rw [← ht, List.getElem?_take] at hu
    split at hu
    · rw [cell_at hh]; simpa using hu
    · cases hu
theorem TAtL.of_own {w : World} {g n : Nat} {e : TypeId} {v : Value} {l : List Tp} {vals : List Value} (h : w.ownsRow g e 3 v l.length vals) (hf : ∀ (i : Nat) x, l[i]? = some x → ∃ vs, TAt w Any n vs x ∧ Seg vals (i * 3) vs) : TAtL w Any n v l := by
  by_cases h0 : l = []
  · subst h0
    obtain ⟨p, c, rfl⟩ := own_form h
    exact .inr ⟨rfl, _, _, rfl⟩
  · obtain ⟨b, cap, rfl, h1, h2, h3⟩ := own_cell h (fun h => h0 (List.eq_nil_of_length_eq_zero h))
    refine .inl ⟨b, 0, cap, rfl, trivial, h1, h2, fun i x hx => ?_⟩
    obtain ⟨vs, g1, g2⟩ := hf i x hx
    exact ⟨vs, fun j u hu => by rw [Nat.zero_add]; exact h3 _ _ (g2 j u hu), g1⟩
theorem Ls.src {w : World} {K : Nat → Prop} {v : Value} {l : List Int} (h : Ls w K v l) (hs : Sly v) : Src w 1 v l.length (l.map (.int .i64)) := by
  by_cases h0 : l = []
  · subst h0
    obtain ⟨a, c, rfl, -⟩ := h.form
    rcases hs with hs | ⟨ad, m, c', hs⟩
    · exact .inl ⟨hs, rfl, rfl⟩
    · injection hs with e1 e2 e3
      subst e1
      exact .inr ⟨ad, c, rfl, rfl, fun j u hu => by simp at hu, fun u hu => by cases hu⟩
  · obtain ⟨b, o, c, rfl, -, -, -, hl⟩ := h.resolve_right (fun h => h0 h.1)
    refine .inr ⟨⟨b, o, none⟩, c, rfl, by simp, fun j u hu => ?_, fun u hu => ?_⟩
    · rw [List.getElem?_map] at hu
      obtain ⟨x, hx, rfl⟩ := Option.map_eq_some_iff.1 hu
      rw [addr_add]; exact hl j x hx
    · obtain ⟨x, -, rfl⟩ := List.mem_map.1 hu
      rfl
theorem Ls.of_own {w : World} {g : Nat} {e : TypeId} {v : Value} {l : List Int} (h : w.ownsRow g e 1 v l.length (l.map (.int .i64))) : Ls w Any v l := by
  by_cases h0 : l = []
  · subst h0
    obtain ⟨p, c, rfl⟩ := own_form h
    exact .inr ⟨rfl, _, _, rfl⟩
  · obtain ⟨b, cap, rfl, h1, h2, h3⟩ := own_cell h (fun h => h0 (List.eq_nil_of_length_eq_zero h))
    refine .inl ⟨b, 0, cap, rfl, trivial, h1, h2, fun i x hx => ?_⟩
    rw [Nat.zero_add]
    exact h3 _ _ (by rw [List.getElem?_map, hx]; rfl)
theorem info_int : (Try.prog.info? 3).map (fun i => (i.zero, i.size, i.bytes)) = some (some (.int .i64 0), 1, 8) := by kernel_rfl
end Go.Proofs.Ytknlpeloaapaiaa
