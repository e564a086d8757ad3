/- The document's put: what is kept while a list is built. append([]T{}, v...): a list of its own. What the reading of an argument gives: types, schemes, lists in memory. Plain mathematics of the order of texts. -/
import Derived.Laws.AppendOwn
import Derived.Laws.AppendOwnNone
import Derived.Test.YtigliglmejkakaaGreatRows
import Derived.WalkKit
import Derived.ProofKit
import Derived.OpenShut
import Derived.ShutString
import Derived.Carry
import Derived.Deep.Slices
import Derived.Lib.SmallJoins
import Derived.Lib.Bytealg
import Derived.Below
import Derived.Test.YtigliglmejkakaaGreatRac
import Derived.Test.YtigliglmejkakaaGreatRad
import Derived.Test.YtigliglmejkakaaGreatRab
namespace Go.Proofs.YtigliglmejkakaaGreat
open Go.RowKit
set_option linter.unusedVariables false
set_option linter.unusedSimpArgs false

theorem own_stays {w w' : World} {base : Nat} {e : TypeId} {size : Nat} {v : Value} {n : Nat} {xs : List Value} (h : w.ownsRow base e size v n xs) (hb : Below w.heap.size w w') : w'.ownsRow base e size v n xs := by
  refine ⟨h.1, ?_⟩
  rcases h.2 with h2 | ⟨g, cap, cur, h1, h2, h3, h4⟩
  · exact .inl h2
  · have hg : g < w.heap.size := by
      rcases Nat.lt_or_ge g w.heap.size with h' | h'
      · exact h'
      · simp [Array.getElem?_eq_none h'] at h3
    exact .inr ⟨g, cap, cur, h1, h2, by rw [hb.block g hg]; exact h3, h4⟩
theorem TAt.both {w : World} {K : Nat → Prop} : ∀ {n : Nat} {vs : List Value} {t : Tp}, TAt w K n vs t → TAt w (fun b => K b ∧ b < w.heap.size) n vs t
  | 0, _, _, h => h
  | n + 1, vs, t, ⟨v, h1, h2, h3, h4⟩ => by
    refine ⟨v, h1, h2, h3, ?_⟩
    rcases h4 with ⟨b, o, c, hv, hb, hl, hm, hc⟩ | h4
    · cases hks : t.ks with
      | nil => exact .inr ⟨rfl, _, _, by rw [hv, hks]; rfl⟩
      | cons x r =>
        rw [hks] at hv hl hm hc
        refine .inl ⟨b, o, c, hv, ⟨hb, ?_⟩, hl, hm, fun i y hy => ?_⟩
        · obtain ⟨vs', g1, g2⟩ := hc 0 x rfl
          obtain ⟨a, c2, rfl⟩ := g2.form
          exact World.block_lt_of_cell? w _ (g1 0 _ rfl)
        · obtain ⟨vs', g1, g2⟩ := hc i y hy
          exact ⟨vs', g1, TAt.both g2⟩
    · exact .inr h4
/-- The blocks in which what was put in lies: old ones, or new ones behind the boxes; not the row ov. -/
def Kp (B0 s : Nat) (ov : Value) : Nat → Prop := fun b => (b < B0 ∨ s + 3 ≤ b) ∧ ov.ownBlock ≠ some b
structure Pst (w : World) (B0 : Nat) (t : Tp) (pm : Tp → Tp) (v : Value) (k N : Nat) (ov : Value) (xs : List Value) (wr : World) : Prop where
  bl : Below w.heap.size w wr
  sz : w.heap.size + 3 ≤ wr.heap.size
  tb : Arr wr w.heap.size 24 [.int .i64 t.k, .int .i64 t.n, v]
  rs : Arr wr (w.heap.size + 1) 24 [.int .i64 0, .int .i64 0, .slice none 0 0]
  ob : Arr wr (w.heap.size + 2) 24 [.int .i64 t.k, .int .i64 t.n, ov]
  own : wr.ownsRow (w.heap.size + 3) 24 3 ov k xs
  el : ∀ (i : Nat) x, i < k → t.ks[i]? = some x → ∃ a c, TAt wr (Kp B0 w.heap.size ov) N [.int .i64 (pm x).k, .int .i64 (pm x).n, .slice a (pm x).ks.length c] (pm x) ∧ Seg xs (i * 3) [.int .i64 (pm x).k, .int .i64 (pm x).n, .slice a (pm x).ks.length c]
theorem Pst.stays {w : World} {B0 : Nat} {t : Tp} {pm : Tp → Tp} {v : Value} {k N : Nat} {ov : Value} {xs : List Value} {wr wz : World} (h : Pst w B0 t pm v k N ov xs wr) (hb : Below wr.heap.size wr wz) : Pst w B0 t pm v k N ov xs wz :=
  ⟨bl_tr h.bl hb, Nat.le_trans h.sz hb.size, h.tb.stays hb, h.rs.stays hb, h.ob.stays hb, own_stays h.own hb, fun i x hi hx => by obtain ⟨a, c, h1, h2⟩ := h.el i x hi hx; exact ⟨a, c, h1.below hb, h2⟩⟩
theorem own_form {w : World} {base : Nat} {e : TypeId} {size : Nat} {v : Value} {n : Nat} {xs : List Value} (h : w.ownsRow base e size v n xs) : ∃ p c, v = .slice p n c := by
  rcases h.2 with ⟨rfl, rfl⟩ | ⟨g, cap, cur, rfl, -⟩
  · exact ⟨_, _, rfl⟩
  · exact ⟨_, _, rfl⟩
theorem Arr.grown {w w' : World} {g : Nat} {T : TypeId} {cur : List Value} {row : Option Nat} (h : Arr w g T cur) (hg : w.grownBy w' row) (hn : some g ≠ row) : Arr w' g T cur := ⟨by rw [hg.block g h.lt hn]; exact h.b⟩
theorem Pst.app {w : World} {B0 : Nat} {t : Tp} {pm : Tp → Tp} {v : Value} {k N : Nat} {ov v' : Value} {xs : List Value} {w1 w2 : World} (h : Pst w B0 t pm v k N ov xs w1) {x : Tp} (hk : k < t.ks.length) (hx : t.ks[k]? = some x) {n' : Nat} {a : Option Addr} {c : Nat}
    (hT : TAt w1 (Kp B0 w.heap.size ov) n' [.int .i64 (pm x).k, .int .i64 (pm x).n, .slice a (pm x).ks.length c] (pm x)) (hB : B0 ≤ w.heap.size)
    (hown : w2.ownsRow (w.heap.size + 3) 24 3 v' (k + 1) (xs ++ [.int .i64 (pm x).k, .int .i64 (pm x).n, .slice a (pm x).ks.length c])) (hg : w1.grownBy w2 ov.ownBlock) (hf : Fresh w1 ov v') :
    Pst w B0 t pm v (k + 1) (max N n') v' (xs ++ [.int .i64 (pm x).k, .int .i64 (pm x).n, .slice a (pm x).ks.length c]) (w2.setCell ⟨w.heap.size + 2, 2, none⟩ v') := by
  have hrow : ∀ b, ov.ownBlock = some b → w.heap.size + 3 ≤ b := fun b hb => (h.own.lt b hb).1
  have hrow' : ∀ b, v'.ownBlock = some b → w.heap.size + 3 ≤ b := fun b hb => (hown.lt b hb).1
  have ne : ∀ b, b < w.heap.size + 3 → some b ≠ ov.ownBlock := fun b hb e => by have := hrow b e.symm; omega
  have mv : ∀ {n0 : Nat} {vs : List Value} {y : Tp}, TAt w1 (Kp B0 w.heap.size ov) n0 vs y → TAt (w2.setCell ⟨w.heap.size + 2, 2, none⟩ v') (Kp B0 w.heap.size v') n0 vs y := by
    intro n0 vs y hy
    refine hy.both.move (fun b o u hb hu => ?_) (fun b hb => ⟨hb.1.1, fun e => ?_⟩)
    · rw [World.cell?_of_block (w := w2) (Below.heap_setCell _ _ _ _ (by show b ≠ w.heap.size + 2; rcases hb.1.1 with h | h <;> omega)), World.cell?_of_block (w := w1) (hg.block b hb.2 (fun e => hb.1.2 e.symm))]
      exact hu
    · rcases hf with h1 | h1
      · exact hb.1.2 (by rw [← h1]; exact e)
      · have := h1 b e; have := hb.2; omega
  have hxl : xs.length = k * 3 := h.own.1
  refine ⟨bl_set _ _ (h.bl.grown hg (by have := h.sz; omega) (fun b hb => by have := hrow b hb; omega)) (by show _ ≤ w.heap.size + 2; omega), by have := hg.size; have := h.sz; simp [World.setCell]; omega, (h.tb.grown hg (ne _ (by omega))).other (by show _ ≠ w.heap.size + 2; omega) _, (h.rs.grown hg (ne _ (by omega))).other (by show _ ≠ w.heap.size + 2; omega) _, (h.ob.grown hg (ne _ (by omega))).set 2 v', ?_, fun i y hi hy => ?_⟩
  · exact hown.kept (row := some (w.heap.size + 2)) ⟨rfl, rfl, rfl, by simp [World.setCell], fun b _ hb => Below.heap_setCell _ _ _ _ (fun e => hb (by simp [e]))⟩ (Or.inr (fun e => by have := hrow' _ e; omega))
  · by_cases he : i = k
    · subst he
      rw [hx] at hy
      injection hy with hy
      subst hy
      refine ⟨a, c, (mv hT).le (Nat.le_max_right _ _), fun j u hu => ?_⟩
      rw [List.getElem?_append_right (by omega), hxl]
      rw [show i * 3 + j - i * 3 = j by omega]
      exact hu
    · obtain ⟨a1, c1, g1, g2⟩ := h.el i y (by omega) hy
      refine ⟨a1, c1, (mv g1).le (Nat.le_max_left _ _), fun j u hu => ?_⟩
      have hj := (List.getElem?_eq_some_iff.1 hu).1
      simp only [List.length_cons, List.length_nil] at hj
      rw [List.getElem?_append_left (by omega)]
      exact g2 j u hu
theorem Pst.fin {w : World} {B0 : Nat} {t : Tp} {pm : Tp → Tp} {v : Value} {N : Nat} {ov : Value} {xs : List Value} {wr W : World} (h : Pst w B0 t pm v t.ks.length N ov xs wr) (hB : B0 ≤ w.heap.size) (hk : Keeps (fun b => b < B0 ∨ w.heap.size + 3 ≤ b) wr W) (h64 : R64 t.k ∧ R64 t.n) (hl : t.ks.length ≤ 1000) :
    TAt W (fun b => b < B0 ∨ w.heap.size ≤ b) (N + 1) [.int .i64 t.k, .int .i64 t.n, ov] (.mk t.k t.n (t.ks.map pm)) := by
  refine ⟨_, rfl, h64.1, h64.2, (show TRow _ _ _ _ (t.ks.map pm) from ?_)⟩
  rcases h.own.2 with ⟨rfl, h0⟩ | ⟨g, cap, cur, rfl, hg, hh, hc, hm, hs, htk⟩
  · exact .inr ⟨by rw [List.eq_nil_of_length_eq_zero h0]; rfl, _, _, rfl⟩
  · refine .inl ⟨g, 0, cap, by rw [List.length_map], .inr (by omega), by rw [List.length_map]; exact hc, by rw [List.length_map]; unfold maxLen; omega, fun i y hy => ?_⟩
    rw [List.getElem?_map] at hy
    obtain ⟨x, hx, rfl⟩ := Option.map_eq_some_iff.1 hy
    obtain ⟨a, c, h1, h2⟩ := h.el i x (List.getElem?_eq_some_iff.1 hx).1 hx
    refine ⟨_, fun j u hu => ?_, h1.move (fun b o u hb hu => hk b o u hb.1 hu) (fun b hb => hb.1.elim .inl (fun h => .inr (by omega)))⟩
    have := h2 j u hu
    rw [← htk, List.getElem?_take] at this
    split at this
    · refine hk g _ _ (.inr hg) ?_
      rw [cell_at hh, Nat.zero_add]
      simpa using this
    · cases this
end Go.Proofs.YtigliglmejkakaaGreat

namespace Go.Proofs.YtigliglmejkakaaGreat
open Go.RowKit
set_option linter.unusedVariables false
set_option linter.unusedSimpArgs false

/-- What a slice that is appended holds. -/
def Src (w : World) (k : Nat) (v : Value) (m : Nat) (news : List Value) : Prop := (v = .slice none 0 0 ∧ m = 0 ∧ news = []) ∨ ∃ ad c, v = .slice (some ad) m c ∧ news.length = m * k ∧ (∀ (j : Nat) u, news[j]? = some u → w.cell? (ad.add j) = some u) ∧ ∀ u ∈ news, u.oneCell' = true
/-- nil, or a row. -/
def Sly (v : Value) : Prop := v = .slice none 0 0 ∨ ∃ ad m c, v = .slice (some ad) m c
theorem Src.below {w w' : World} {k : Nat} {v : Value} {m : Nat} {news : List Value} (h : Src w k v m news) (hb : Below w.heap.size w w') : Src w' k v m news := by
  rcases h with h | ⟨ad, c, h1, h2, h3, h4⟩
  · exact .inl h
  · exact .inr ⟨ad, c, h1, h2, fun j u hu => (hb.cell (World.block_lt_of_cell? w _ (h3 j u hu))).trans (h3 j u hu), h4⟩

theorem wp_copy {P : Program} {ops : Array Oper} {rest : List Oper} {o : Oper} {a : Act} {w : World} {Q : Exit → Act → World → Prop} (hgd : o.guard = none) (s x : Operand) (t : TypeId)
    (ho : o.op = .call { callee := .builtin .append, args := #[s, x], argTypes := #[t, t] })
    (g : Nat) (e : TypeId) (i : TypeInfo) (z : Value) (size bytes : Nat) (ht : P.underlying t = some (.slice e)) (hi : P.info? e = some i) (hz : i.zero = some z)
    (hsize : i.size = size) (hby : i.bytes = bytes) (hzs : z.cells.size = size) (hsz : 0 < size) (hs : a.eval s = .slice (some ⟨g, 0, none⟩) 0 0) (hown : w.ownsRow g e size (.slice (some ⟨g, 0, none⟩) 0 0) 0 [])
    (v : Value) (m : Nat) (news : List Value) (hx : a.eval x = v) (hsrc : Src w size v m news) (hm : m ≤ 1048576) (hb : bytes ≤ 64) (hg : g ≤ w.heap.size)
    (h : ∀ v' w', w'.ownsRow g e size v' m news → Below g w w' → wpList P ops Q rest (a.put o.dst v') w') : wpList P ops Q (o :: rest) a w := by
  rcases hsrc with ⟨rfl, rfl, rfl⟩ | ⟨ad, c, rfl, hl, hnews, h1⟩
  · exact wpList_append_own_none hgd s x t ho g e i size ht hi _ 0 [] hs hown hx (h _ _ hown (Below.refl _ _))
  · refine wpList_append_own w hgd s x t ho g e i z size bytes ht hi hz hsize hby hzs hsz _ 0 [] hs hown ad m c news hx hl hnews h1 (by unfold maxLen; omega) (by rw [Nat.zero_add]; exact Nat.le_trans (Nat.mul_le_mul hm hb) (by decide)) hg ?_
    intro v' w' h2 h3 _
    rw [Nat.zero_add, List.nil_append] at h2
    exact h v' w' h2 ((Below.refl g w).grown h3 hg (fun b hb => (hown.lt b hb).1))
theorem TAtL.src {w : World} {K : Nat → Prop} {n : Nat} {v : Value} {l : List Tp} (h : TAtL w K n v l) (hs : Sly v) : ∃ vals, Src w 3 v l.length vals ∧ ∀ (i : Nat) x, l[i]? = some x → ∃ vs, TAt w K n vs x ∧ Seg vals (i * 3) vs := by
  by_cases h0 : l = []
  · subst h0
    refine ⟨[], ?_, fun i x hx => by simp at hx⟩
    obtain ⟨a, c, rfl, -⟩ := h.form
    rcases hs with hs | ⟨ad, m, c', hs⟩
    · exact .inl ⟨hs, rfl, rfl⟩
    · injection hs with e1 e2 e3
      subst e1
      exact .inr ⟨ad, c, rfl, rfl, fun j u hu => by simp at hu, fun u hu => by cases hu⟩
  · have hE := h
    obtain ⟨b, o, c, rfl, -, -, -, -⟩ := h.resolve_right (fun h => h0 h.1)
    have hcell : ∀ j, j < l.length * 3 → ∃ u, w.cell? ⟨b, o + j, none⟩ = some u ∧ u.oneCell' = true := by
      intro j hj
      obtain ⟨x, hx⟩ : ∃ x, l[j / 3]? = some x := ⟨_, List.getElem?_eq_getElem (by omega)⟩
      obtain ⟨vx, tx, x0, x1, x2, -, -⟩ := hE.elem hx
      obtain ⟨ax, cx, ex⟩ := tx.form
      simp only [List.cons.injEq, and_true, true_and] at ex
      subst ex
      rcases (by omega : j % 3 = 0 ∨ j % 3 = 1 ∨ j % 3 = 2) with hr | hr | hr
      · exact ⟨_, by rw [show o + j = o + j / 3 * 3 by omega]; exact x0, rfl⟩
      · exact ⟨_, by rw [show o + j = o + j / 3 * 3 + 1 by omega]; exact x1, rfl⟩
      · exact ⟨_, by rw [show o + j = o + j / 3 * 3 + 2 by omega]; exact x2, rfl⟩
    have hvl : ((List.range (l.length * 3)).map fun j => (w.cell? ⟨b, o + j, none⟩).getD (.bool false)).length = l.length * 3 := by simp
    have hvals : ∀ (j : Nat) u, ((List.range (l.length * 3)).map fun j => (w.cell? ⟨b, o + j, none⟩).getD (.bool false))[j]? = some u → w.cell? ⟨b, o + j, none⟩ = some u ∧ u.oneCell' = true := by
      intro j u hu
      obtain ⟨hj, e⟩ := List.getElem?_eq_some_iff.1 hu
      rw [hvl] at hj
      obtain ⟨u', h1, h2⟩ := hcell j hj
      simp [h1] at e
      subst e
      exact ⟨h1, h2⟩
    have hget : ∀ (j : Nat) u, j < l.length * 3 → w.cell? ⟨b, o + j, none⟩ = some u → ((List.range (l.length * 3)).map fun j => (w.cell? ⟨b, o + j, none⟩).getD (.bool false))[j]? = some u := by
      intro j u hj hu
      simp [hj, hu]
    generalize ((List.range (l.length * 3)).map fun j => (w.cell? ⟨b, o + j, none⟩).getD (.bool false)) = vals at hvl hvals hget
    refine ⟨vals, .inr ⟨⟨b, o, none⟩, c, rfl, hvl, fun j u hj => by rw [addr_add]; exact (hvals j u hj).1, fun u hu => by obtain ⟨j, hj⟩ := List.getElem?_of_mem hu; exact (hvals j u hj).2⟩, fun i x hx => ?_⟩
    have hi := (List.getElem?_eq_some_iff.1 hx).1
    obtain ⟨vx, tx, x0, x1, x2, -, -⟩ := hE.elem hx
    obtain ⟨ax, cx, ex⟩ := tx.form
    simp only [List.cons.injEq, and_true, true_and] at ex
    subst ex
    refine ⟨_, tx, fun j u hu => ?_⟩
    match j, hu with
    | 0, hu => simp at hu; subst hu; exact hget _ _ (by omega) (by rw [← Nat.add_assoc]; exact x0)
    | 1, hu => simp at hu; subst hu; exact hget _ _ (by omega) (by rw [← Nat.add_assoc]; exact x1)
    | 2, hu => simp at hu; subst hu; exact hget _ _ (by omega) (by rw [← Nat.add_assoc]; exact x2)
    | j + 3, hu => simp at hu
theorem own_cell {w : World} {base : Nat} {e : TypeId} {k : Nat} {v : Value} {n : Nat} {xs : List Value} (h : w.ownsRow base e k v n xs) (h0 : n ≠ 0) : ∃ g cap, v = .slice (some ⟨g, 0, none⟩) n cap ∧ n ≤ cap ∧ n ≤ maxLen ∧ ∀ (j : Nat) u, xs[j]? = some u → w.cell? ⟨g, j, none⟩ = some u := by
  rcases h.2 with ⟨-, hz⟩ | ⟨g, cap, cur, rfl, hg, hh, hc, hm, hs, ht⟩
  · exact absurd hz h0
  · refine ⟨g, cap, rfl, hc, Nat.le_trans hc hm, fun j u hu => ?_⟩
    rw [← ht, List.getElem?_take] at hu
    split at hu
    · rw [cell_at hh]; simpa using hu
    · cases hu
theorem TAtL.of_own {w : World} {g n : Nat} {e : TypeId} {v : Value} {l : List Tp} {vals : List Value} (h : w.ownsRow g e 3 v l.length vals) (hf : ∀ (i : Nat) x, l[i]? = some x → ∃ vs, TAt w Any n vs x ∧ Seg vals (i * 3) vs) : TAtL w Any n v l := by
  by_cases h0 : l = []
  · subst h0
    obtain ⟨p, c, rfl⟩ := own_form h
    exact .inr ⟨rfl, _, _, rfl⟩
  · obtain ⟨b, cap, rfl, h1, h2, h3⟩ := own_cell h (fun h => h0 (List.eq_nil_of_length_eq_zero h))
    refine .inl ⟨b, 0, cap, rfl, trivial, h1, h2, fun i x hx => ?_⟩
    obtain ⟨vs, g1, g2⟩ := hf i x hx
    exact ⟨vs, fun j u hu => by rw [Nat.zero_add]; exact h3 _ _ (g2 j u hu), g1⟩
theorem Ls.src {w : World} {K : Nat → Prop} {v : Value} {l : List Int} (h : Ls w K v l) (hs : Sly v) : Src w 1 v l.length (l.map (.int .i64)) := by
  by_cases h0 : l = []
  · subst h0
    obtain ⟨a, c, rfl, -⟩ := h.form
    rcases hs with hs | ⟨ad, m, c', hs⟩
    · exact .inl ⟨hs, rfl, rfl⟩
    · injection hs with e1 e2 e3
      subst e1
      exact .inr ⟨ad, c, rfl, rfl, fun j u hu => by simp at hu, fun u hu => by cases hu⟩
  · obtain ⟨b, o, c, rfl, -, -, -, hl⟩ := h.resolve_right (fun h => h0 h.1)
    refine .inr ⟨⟨b, o, none⟩, c, rfl, by simp, fun j u hu => ?_, fun u hu => ?_⟩
    · rw [List.getElem?_map] at hu
      obtain ⟨x, hx, rfl⟩ := Option.map_eq_some_iff.1 hu
      rw [addr_add]; exact hl j x hx
    · obtain ⟨x, -, rfl⟩ := List.mem_map.1 hu
      rfl
theorem Ls.of_own {w : World} {g : Nat} {e : TypeId} {v : Value} {l : List Int} (h : w.ownsRow g e 1 v l.length (l.map (.int .i64))) : Ls w Any v l := by
  by_cases h0 : l = []
  · subst h0
    obtain ⟨p, c, rfl⟩ := own_form h
    exact .inr ⟨rfl, _, _, rfl⟩
  · obtain ⟨b, cap, rfl, h1, h2, h3⟩ := own_cell h (fun h => h0 (List.eq_nil_of_length_eq_zero h))
    refine .inl ⟨b, 0, cap, rfl, trivial, h1, h2, fun i x hx => ?_⟩
    rw [Nat.zero_add]
    exact h3 _ _ (by rw [List.getElem?_map, hx]; rfl)
theorem info_int : (Tryz.prog.info? 3).map (fun i => (i.zero, i.size, i.bytes)) = some (some (.int .i64 0), 1, 8) := by kernel_rfl
end Go.Proofs.YtigliglmejkakaaGreat

namespace Go.Proofs.YtigliglmejkakaaGreat
open Go.ChangeShapes Go.WideShapes Go.ChangeAt Go.RowKit Go.Deep
set_option linter.unusedVariables false

theorem ty_laid : laidOutB Tryz.prog = true := by kernel_rfl
theorem cells_int : Tryz.prog.cellsOf 3 = 1 := by kernel_rfl
theorem cells_ty : Tryz.prog.cellsOf 24 = 3 := by kernel_rfl
theorem cells_tys : Tryz.prog.cellsOf 22 = 1 := by kernel_rfl
theorem wf_range {n : Int} (h : (Lit.int .i64 n).wf = true) : R64 n := by
  unfold R64
  simp [Lit.wf, IntKind.min, IntKind.max, IntKind.signed, IntKind.bits] at h
  omega
variable {H : Type} {enc : TypeId × Value → H} {W : World}
/-- What the reading of one type gives. -/
def Opens (H : Type) (enc : TypeId × Value → H) (W : World) (m : Nat) : Prop :=
  ∀ (cs : List Value) (x : DataW H × List MemPlace), DataW.trod enc Tryz.prog W 0 (fun _ => true) true m 24 cs = some x → ∃ t, TAt W (fun b => b < W.heap.size) m cs t ∧ t.cnt ≤ Rows.uptoBulk x.1
theorem addr_add' (b o k : Nat) : (⟨b, o, none⟩ : Addr).add k = ⟨b, o + k, none⟩ := by
  unfold Addr.add
  by_cases h : k = 0
  · subst h; simp
  · simp [h]

theorem open_row {fuel : Nat} {cs : List Value} {x : DataW H × List MemPlace} (ih : ∀ m, m < fuel → Opens H enc W m) (h : DataW.trod enc Tryz.prog W 0 (fun _ => true) true fuel 22 cs = some x) :
    ∃ v l, cs = [v] ∧ TAtL W (fun b => b < W.heap.size) fuel v l ∧ Tp.cntL l ≤ Rows.uptoBulk x.1 := by
  rcases DataW.trod_slice Tryz.underlying22 h with ⟨rfl, rfl⟩ | ⟨a, len, cap, elems, rest, n, rfl, rfl, rfl, -, hl, hm, hlen, hel, -, -⟩
  · exact ⟨_, [], rfl, .inr ⟨rfl, _, _, rfl⟩, Nat.zero_le _⟩
  · rw [cells_ty] at hel
    have h1 : ∀ i, i < len → ∃ t : Tp, ∃ y cs', elems[i]? = some y ∧ W.cells? 0 (a.add (i * 3)) 3 = some cs' ∧ TAt W (fun b => b < W.heap.size) n cs' t ∧ t.cnt ≤ Rows.uptoBulk y.1 := by
      intro i hi
      obtain ⟨y, hy⟩ : ∃ y, elems[i]? = some y := ⟨_, List.getElem?_eq_getElem (by omega)⟩
      have := hel i hi
      rw [hy] at this
      obtain ⟨cs', hcs, htr⟩ := Option.bind_eq_some_iff.1 this
      obtain ⟨t, h1, h2⟩ := ih n (Nat.lt_succ_self _) cs' y htr
      exact ⟨t, y, cs', hy, hcs, h1, h2⟩
    have inh : Inhabited Tp := ⟨.mk 0 0 []⟩
    obtain ⟨f, hf⟩ := choose_lt (n := len) (p := fun i (t : Tp) => ∃ y cs', elems[i]? = some y ∧ W.cells? 0 (a.add (i * 3)) 3 = some cs' ∧ TAt W (fun b => b < W.heap.size) n cs' t ∧ t.cnt ≤ Rows.uptoBulk y.1) h1
    have hcnt : ∀ (k : Nat) (es : List (DataW H × List MemPlace)), es = elems.drop k → Tp.cntL (((List.range len).drop k).map f) ≤ Rows.uptoBulkAll (es.map (·.1)) := by
      intro k es
      induction es generalizing k with
      | nil =>
        intro he
        have : elems.length ≤ k := by have := congrArg List.length he; simp at this; omega
        rw [List.drop_eq_nil_of_le (by rw [List.length_range]; omega)]
        exact Nat.zero_le _
      | cons y es ihh =>
        intro he
        have hk : k < elems.length := by have := congrArg List.length he; simp at this; omega
        rw [List.drop_eq_getElem_cons hk] at he
        injection he with e1 e2
        have h2 := ihh (k + 1) e2
        obtain ⟨y', cs', g1, -, -, g2⟩ := hf k (by omega)
        rw [List.getElem?_eq_getElem hk, ← e1] at g1
        injection g1 with g1
        subst g1
        rw [List.drop_eq_getElem_cons (by rw [List.length_range]; omega), List.getElem_range, List.map_cons, Tp.cntL, List.map_cons, Rows.uptoBulkAll]
        omega
    refine ⟨_, (List.range len).map f, rfl, ?_, ?_⟩
    · rcases Nat.eq_zero_or_pos len with h0 | h0
      · subst h0
        exact .inr ⟨rfl, _, _, rfl⟩
      · obtain ⟨b, off, spot⟩ := a
        obtain ⟨_, cs0, -, hcs0, -⟩ := hf 0 h0
        obtain ⟨-, hl0, hc0⟩ := World.cells?_some hcs0
        have c0 := hc0 0 (by decide)
        rw [List.getElem?_eq_getElem (by omega)] at c0
        have hspot : spot = none := by simpa [Addr.add] using World.cell?_spot c0
        subst hspot
        have hb : b < W.heap.size := by simpa [Addr.add] using World.block_lt_of_cell? _ _ c0
        refine .inl ⟨b, off, cap, by rw [List.length_map, List.length_range], hb, by rw [List.length_map, List.length_range]; exact hl, by rw [List.length_map, List.length_range]; omega, fun i t hi => ?_⟩
        rw [List.getElem?_map] at hi
        obtain ⟨j, hj, rfl⟩ := Option.map_eq_some_iff.1 hi
        obtain ⟨hi2, hj2⟩ := List.getElem?_eq_some_iff.1 hj
        rw [List.length_range] at hi2
        rw [List.getElem_range] at hj2
        subst hj2
        obtain ⟨_, cs', -, hcs, hat, -⟩ := hf i hi2
        obtain ⟨-, hcl, hce⟩ := World.cells?_some hcs
        refine ⟨cs', fun q u hu => ?_, hat.le (Nat.le_succ _)⟩
        obtain ⟨hq1, hq2⟩ := List.getElem?_eq_some_iff.1 hu
        have := hce q (by omega)
        rw [addr_add', addr_add'] at this
        rw [hu] at this
        exact this
    · have := hcnt 0 elems rfl
      rw [List.drop_zero] at this
      rw [Rows.uptoBulk]
      omega

set_option maxRecDepth 100000 in
theorem opens_step (n : Nat) (ih : ∀ m, m < n → Opens H enc W m) : Opens H enc W n := by
  intro cs x h
  obtain ⟨xs, n', rfl, rfl, hl, hlen, hf⟩ := DataW.trod_struct Tryz.underlying24 h
  rw [cells_ty] at hl
  match cs, hl, xs, hlen with
  | [c0, c1, c2], _, [y0, y1, y2], _ =>
    have h0 := hf 0 _ rfl
    have h1 := hf 1 _ rfl
    have h2 := hf 2 _ rfl
    replace h0 : DataW.trod enc Tryz.prog W 0 (fun _ => true) true n' 3 [c0] = some y0 := by simpa [cells_int] using h0
    replace h1 : DataW.trod enc Tryz.prog W 0 (fun _ => true) true n' 3 [c1] = some y1 := by simpa [cells_int] using h1
    replace h2 : DataW.trod enc Tryz.prog W 0 (fun _ => true) true n' 22 [c2] = some y2 := by simpa [cells_tys] using h2
    obtain ⟨i0, e0, rfl, w0⟩ := DataW.trod_int Tryz.underlying3 h0
    obtain rfl : c0 = _ := by simpa using e0
    obtain ⟨i1, e1, rfl, w1⟩ := DataW.trod_int Tryz.underlying3 h1
    obtain rfl : c1 = _ := by simpa using e1
    obtain ⟨v2, l2, e2, a2, b2⟩ := open_row (fun m hm => ih m (by omega)) h2
    obtain rfl : c2 = _ := by simpa using e2
    refine ⟨.mk i0 i1 l2, ⟨_, rfl, wf_range w0, wf_range w1, a2⟩, ?_⟩
    simp only [Tp.cnt, Rows.uptoBulk, Rows.uptoBulkAll, List.map_cons, List.map_nil]
    omega
theorem opens_all (n : Nat) : Opens H enc W n := by
  induction n using Nat.strongRecOn with
  | _ n ih => exact opens_step n ih
set_option maxRecDepth 100000 in
/-- A type that came in. -/
theorem open_type {base : Nat} {v : Value} {d : DataW H} {p : List MemPlace} (hok : Value.okWide Tryz.prog W .any base 24 v) (h : DataW.Trod enc Tryz.prog W 0 (fun _ => true) true 24 v d p) : ∃ n vs t, v = .agg vs.toArray ∧ TAt W Any n vs t ∧ t.cnt ≤ Rows.uptoBulk d := by
  obtain ⟨cs, rfl, hsz⟩ := okWide_struct Tryz.underlying24 hok
  obtain ⟨fuel, hf⟩ := h
  obtain ⟨t, h1, h2⟩ := opens_all fuel _ _ hf
  exact ⟨fuel, cs.toList, t, by simp, h1.any, h2⟩
set_option maxRecDepth 100000 in
/-- A list of types that came in. -/
theorem open_types {base : Nat} {v : Value} {d : DataW H} {p : List MemPlace} (hok : Value.okWide Tryz.prog W .any base 22 v) (h : DataW.Trod enc Tryz.prog W 0 (fun _ => true) true 22 v d p) : ∃ n l, TAtL W Any n v l ∧ Tp.cntL l ≤ Rows.uptoBulk d := by
  obtain ⟨a0, len, cap, rfl⟩ := okWide_slice Tryz.underlying22 hok
  obtain ⟨fuel, hf⟩ := h
  obtain ⟨v', l, e1, h1, h2⟩ := open_row (fun m _ => opens_all m) hf
  obtain rfl : v' = _ := by simpa [Value.cells] using e1.symm
  exact ⟨fuel, l, h1.any, h2⟩
theorem bulk_map (D : Nat → DataW H) (hD : ∀ i, 1 ≤ Rows.uptoBulk (D i)) : ∀ l : List Nat, l.length ≤ Rows.uptoBulkAll (l.map D)
  | [] => Nat.zero_le _
  | x :: r => by have := bulk_map D hD r; have := hD x; rw [List.map_cons, Rows.uptoBulkAll, List.length_cons]; omega
theorem bulk_pos (d : DataW H) : 1 ≤ Rows.uptoBulk d := by
  cases d with
  | lit l => cases l <;> simp [Rows.uptoBulk]
  | _ => simp [Rows.uptoBulk]
set_option maxRecDepth 100000 in
theorem open_intl {base : Nat} {v : Value} {d : DataW H} {p : List MemPlace} (hok : Value.okWide Tryz.prog W .any base 38 v) (h : DataW.Trod enc Tryz.prog W 0 (fun _ => true) true 38 v d p) : ∃ l, Ls W Any v l ∧ (∀ x ∈ l, R64 x) ∧ l.length ≤ Rows.uptoBulk d := by
  obtain ⟨a0, len, cap, rfl⟩ := okWide_slice Tryz.underlying38 hok
  obtain ⟨fuel, hf⟩ := h
  have hf' : DataW.trod enc Tryz.prog W 0 (fun _ => true) true fuel 38 [.slice a0 len cap] = some (d, p) := by simpa [Value.cells] using hf
  rcases open_slice1 Tryz.underlying38 cells_int hf' with ⟨e, e2⟩ | ⟨a, len', cap', m, n, V, D, Pl, e, -, hl, hm, hmm, e2, hx⟩
  · have e : Value.slice a0 len cap = .slice none 0 0 := by simpa using e
    injection e with e1 e2 e3
    subst e1; subst e2; subst e3
    exact ⟨[], .inr ⟨rfl, _, _, rfl⟩, (fun x hx => by cases hx), Nat.zero_le _⟩
  · have e : Value.slice a0 len cap = .slice (some a) len' cap' := by simpa using e
    injection e with q1 q2 q3
    subst q1; subst q2; subst q3
    injection e2 with e2 e3
    subst e2
    have hm2 : m = cap := by simpa using hmm
    clear hmm
    have h1 : ∀ i, i < len → ∃ x : Int, W.cell? (a.add i) = some (.int .i64 x) ∧ R64 x := by
      intro i hi
      obtain ⟨g1, g2⟩ := hx i (by omega)
      obtain ⟨x, e0, -, wx⟩ := DataW.trod_int Tryz.underlying3 g2
      refine ⟨x, ?_, wf_range wx⟩
      rw [g1]
      simpa using e0
    obtain ⟨f, hf⟩ := choose_lt (n := len) (p := fun i (x : Int) => W.cell? (a.add i) = some (.int .i64 x) ∧ R64 x) h1
    refine ⟨(List.range len).map f, ?_, (fun x hx => by obtain ⟨i, hi, rfl⟩ := List.mem_map.1 hx; exact (hf i (List.mem_range.1 hi)).2), ?_⟩
    · rcases Nat.eq_zero_or_pos len with h0 | h0
      · subst h0
        exact .inr ⟨rfl, _, _, rfl⟩
      · obtain ⟨b, off, spot⟩ := a
        have c0 := (hf 0 h0).1
        have hspot : spot = none := by simpa [Addr.add] using World.cell?_spot c0
        subst hspot
        refine .inl ⟨b, off, cap, by rw [List.length_map, List.length_range], trivial, by rw [List.length_map, List.length_range]; exact hl, by rw [List.length_map, List.length_range]; omega, fun i x hi => ?_⟩
        rw [List.getElem?_map] at hi
        obtain ⟨j, hj, rfl⟩ := Option.map_eq_some_iff.1 hi
        obtain ⟨hi2, hj2⟩ := List.getElem?_eq_some_iff.1 hj
        rw [List.length_range] at hi2
        rw [List.getElem_range] at hj2
        subst hj2
        have := (hf i hi2).1
        rw [addr_add'] at this
        exact this
    · have := bulk_map D (fun i => bulk_pos _) (List.range len)
      rw [List.length_map, Rows.uptoBulk]
      omega
theorem cells_sch : Tryz.prog.cellsOf 42 = 4 := by kernel_rfl
set_option maxRecDepth 100000 in
/-- A scheme that came in. -/
theorem open_scheme {base : Nat} {v : Value} {d : DataW H} {p : List MemPlace} (hok : Value.okWide Tryz.prog W .any base 42 v) (h : DataW.Trod enc Tryz.prog W 0 (fun _ => true) true 42 v d p) : ∃ n g vs t, v = .agg (.int .i64 g :: vs).toArray ∧ R64 g ∧ TAt W Any n vs t ∧ t.cnt ≤ Rows.uptoBulk d := by
  obtain ⟨cs, rfl, hsz⟩ := okWide_struct Tryz.underlying42 hok
  obtain ⟨fuel, hf⟩ := h
  obtain ⟨xs, n', rfl, hx, hl, hlen, hf⟩ := DataW.trod_struct Tryz.underlying42 hf
  rw [cells_sch] at hl
  obtain ⟨cl⟩ := cs
  simp only [Value.cells] at hl hf
  match cl, hl, xs, hlen with
  | [c0, c1, c2, c3], _, [y0, y1], _ =>
    have h0 := hf 0 _ rfl
    have h1 := hf 1 _ rfl
    replace h0 : DataW.trod enc Tryz.prog W 0 (fun _ => true) true n' 3 [c0] = some y0 := by simpa [cells_int] using h0
    replace h1 : DataW.trod enc Tryz.prog W 0 (fun _ => true) true n' 24 [c1, c2, c3] = some y1 := by simpa [cells_ty] using h1
    obtain ⟨i0, e0, rfl, w0⟩ := DataW.trod_int Tryz.underlying3 h0
    obtain rfl : c0 = _ := by simpa using e0
    obtain ⟨t, g1, g2⟩ := opens_all n' _ _ h1
    refine ⟨n', i0, [c1, c2, c3], t, rfl, wf_range w0, g1.any, ?_⟩
    injection hx with hx _
    rw [hx]
    simp only [Rows.uptoBulk, Rows.uptoBulkAll, List.map_cons, List.map_nil]
    omega
end Go.Proofs.YtigliglmejkakaaGreat

namespace Go.Proofs.YtigliglmejkakaaGreat
open Go.Lib
set_option linter.unusedVariables false

theorem Nm.cmp_refl : ∀ x : List UInt8, compareBytes x x = 0
  | [] => rfl
  | a :: ra => by
    rw [compareBytes, if_neg (UInt8.lt_irrefl a), if_neg (UInt8.lt_irrefl a)]
    exact Nm.cmp_refl ra
theorem Nm.u8_eq {a b : UInt8} (h1 : ¬ a < b) (h2 : ¬ b < a) : a = b := UInt8.le_antisymm (UInt8.not_lt.1 h2) (UInt8.not_lt.1 h1)
theorem Nm.cmp_eq : ∀ {x y : List UInt8}, compareBytes x y = 0 → x = y
  | [], [], _ => rfl
  | [], _ :: _, h => by simp [compareBytes] at h
  | _ :: _, [], h => by simp [compareBytes] at h
  | a :: ra, b :: bs, h => by
    rw [compareBytes] at h
    split at h
    · simp at h
    · split at h
      · simp at h
      · rename_i h1 h2
        rw [Nm.u8_eq h1 h2, Nm.cmp_eq h]
theorem Nm.cmp_swap : ∀ x y : List UInt8, compareBytes y x = - compareBytes x y
  | [], [] => rfl
  | [], _ :: _ => by simp [compareBytes]
  | _ :: _, [] => by simp [compareBytes]
  | a :: ra, b :: bs => by
    rw [compareBytes, compareBytes]
    by_cases h1 : a < b
    · rw [if_neg (UInt8.lt_asymm h1), if_pos h1, if_pos h1]; rfl
    · by_cases h2 : b < a
      · rw [if_pos h2, if_neg h1, if_pos h2]
      · rw [if_neg h2, if_neg h1, if_neg h1, if_neg h2, Nm.cmp_swap ra bs]
theorem Nm.cmp_three : ∀ x y : List UInt8, compareBytes x y = -1 ∨ compareBytes x y = 0 ∨ compareBytes x y = 1
  | [], [] => .inr (.inl rfl)
  | [], _ :: _ => .inl (by simp [compareBytes])
  | _ :: _, [] => .inr (.inr (by simp [compareBytes]))
  | a :: ra, b :: bs => by
    rw [compareBytes]
    split
    · exact .inl rfl
    · split
      · exact .inr (.inr rfl)
      · exact Nm.cmp_three ra bs
theorem Nm.cmp_trans : ∀ {x y z : List UInt8}, compareBytes x y = -1 → compareBytes y z = -1 → compareBytes x z = -1
  | [], [], _, h, _ => by simp [compareBytes] at h
  | [], _ :: _, [], _, h => by simp [compareBytes] at h
  | [], _ :: _, _ :: _, _, _ => by simp [compareBytes]
  | _ :: _, [], _, h, _ => by simp [compareBytes] at h
  | _ :: _, _ :: _, [], _, h => by simp [compareBytes] at h
  | a :: ra, b :: bs, c :: cs, h1, h2 => by
    rw [compareBytes] at h1 h2 ⊢
    by_cases hab : a < b
    · by_cases hbc : b < c
      · rw [if_pos (UInt8.lt_trans hab hbc)]
      · rw [if_neg hbc] at h2
        by_cases hcb : c < b
        · rw [if_pos hcb] at h2; simp at h2
        · rw [← Nm.u8_eq hbc hcb, if_pos hab]
    · rw [if_neg hab] at h1
      by_cases hba : b < a
      · rw [if_pos hba] at h1; simp at h1
      · rw [if_neg hba] at h1
        obtain rfl := Nm.u8_eq hab hba
        by_cases hbc : a < c
        · rw [if_pos hbc]
        · rw [if_neg hbc] at h2 ⊢
          by_cases hcb : c < a
          · rw [if_pos hcb] at h2; simp at h2
          · rw [if_neg hcb] at h2 ⊢
            exact Nm.cmp_trans h1 h2
/-- Less or the same goes through a third text. -/
theorem Nm.cmp_le {x y z : List UInt8} (h1 : compareBytes x y ≤ 0) (h2 : compareBytes y z ≤ 0) : compareBytes x z ≤ 0 := by
  rcases Nm.cmp_three x y with a | a | a
  · rcases Nm.cmp_three y z with b | b | b
    · rw [Nm.cmp_trans a b]; omega
    · rw [← Nm.cmp_eq b, a]; omega
    · omega
  · rw [Nm.cmp_eq a]; exact h2
  · omega
end Go.Proofs.YtigliglmejkakaaGreat
