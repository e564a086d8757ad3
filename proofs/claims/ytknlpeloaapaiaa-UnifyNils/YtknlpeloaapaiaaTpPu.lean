/- The document's put: what is kept while a list is built. -/
import Derived.Test.YtknlpeloaapaiaaTpF
import Derived.Test.YtknlpeloaapaiaaTpGr
namespace Go.Proofs.Ytknlpeloaapaiaa
open Go.RowKit
set_option linter.unusedVariables false
set_option linter.unusedSimpArgs false

theorem own_stays {w w' : World} {base : Nat} {e : TypeId} {size : Nat} {v : Value} {n : Nat} {xs : List Value} (h : w.ownsRow base e size v n xs) (hb : Below w.heap.size w w') : w'.ownsRow base e size v n xs := by
  refine ⟨h.1, ?_⟩
  rcases h.2 with h2 | ⟨g, cap, cur, h1, h2, h3, h4⟩
  · exact .inl h2
  · have hg : g < w.heap.size := by
      rcases Nat.lt_or_ge g w.heap.size with h' | h'
      · exact h'
      · simp [Array.getElem?_eq_none h'] at h3
    exact .inr ⟨g, cap, cur, h1, h2, by rw [hb.block g hg]; exact h3, h4⟩
theorem TAt.both {w : World} {K : Nat → Prop} : ∀ {n : Nat} {vs : List Value} {t : Tp}, TAt w K n vs t → TAt w (fun b => K b ∧ b < w.heap.size) n vs t
  | 0, _, _, h => h
  | n + 1, vs, t, ⟨v, h1, h2, h3, h4⟩ => by
    refine ⟨v, h1, h2, h3, ?_⟩
    rcases h4 with ⟨b, o, c, hv, hb, hl, hm, hc⟩ | h4
    · cases hks : t.ks with
      | nil => exact .inr ⟨rfl, _, _, by rw [hv, hks]; rfl⟩
      | cons x r =>
        rw [hks] at hv hl hm hc
        refine .inl ⟨b, o, c, hv, ⟨hb, ?_⟩, hl, hm, fun i y hy => ?_⟩
        · obtain ⟨vs', g1, g2⟩ := hc 0 x rfl
          obtain ⟨a, c2, rfl⟩ := g2.form
          exact World.block_lt_of_cell? w _ (g1 0 _ rfl)
        · obtain ⟨vs', g1, g2⟩ := hc i y hy
          exact ⟨vs', g1, TAt.both g2⟩
    · exact .inr h4
/-- The blocks in which what was put in lies: old ones, or new ones behind the boxes; not the row ov. -/
def Kp (B0 s : Nat) (ov : Value) : Nat → Prop := fun b => (b < B0 ∨ s + 3 ≤ b) ∧ ov.ownBlock ≠ some b
structure Pst (w : World) (B0 : Nat) (t : Tp) (pm : Tp → Tp) (v : Value) (k N : Nat) (ov : Value) (xs : List Value) (wr : World) : Prop where
  bl : Below w.heap.size w wr
  sz : w.heap.size + 3 ≤ wr.heap.size
  tb : Arr wr w.heap.size 24 [.int .i64 t.k, .int .i64 t.n, v]
  rs : Arr wr (w.heap.size + 1) 24 [.int .i64 0, .int .i64 0, .slice none 0 0]
  ob : Arr wr (w.heap.size + 2) 24 [.int .i64 t.k, .int .i64 t.n, ov]
  own : wr.ownsRow (w.heap.size + 3) 24 3 ov k xs
  el : ∀ (i : Nat) x, i < k → t.ks[i]? = some x → ∃ a c, TAt wr (Kp B0 w.heap.size ov) N [.int .i64 (pm x).k, .int .i64 (pm x).n, .slice a (pm x).ks.length c] (pm x) ∧ Seg xs (i * 3) [.int .i64 (pm x).k, .int .i64 (pm x).n, .slice a (pm x).ks.length c]
theorem Pst.stays {w : World} {B0 : Nat} {t : Tp} {pm : Tp → Tp} {v : Value} {k N : Nat} {ov : Value} {xs : List Value} {wr wz : World} (h : Pst w B0 t pm v k N ov xs wr) (hb : Below wr.heap.size wr wz) : Pst w B0 t pm v k N ov xs wz :=
  ⟨bl_tr h.bl hb, Nat.le_trans h.sz hb.size, h.tb.stays hb, h.rs.stays hb, h.ob.stays hb, own_stays h.own hb, fun i x hi hx => by obtain ⟨a, c, h1, h2⟩ := h.el i x hi hx; exact ⟨a, c, h1.below hb, h2⟩⟩
theorem own_form {w : World} {base : Nat} {e : TypeId} {size : Nat} {v : Value} {n : Nat} {xs : List Value} (h : w.ownsRow base e size v n xs) : ∃ p c, v = .slice p n c := by
  rcases h.2 with ⟨rfl, rfl⟩ | ⟨g, cap, cur, rfl, -⟩
  · exact ⟨_, _, rfl⟩
  · exact ⟨_, _, rfl⟩
theorem Arr.grown {w w' : World} {g : Nat} {T : TypeId} {cur : List Value} {row : Option Nat} (h : Arr w g T cur) (hg : w.grownBy w' row) (hn : some g ≠ row) : Arr w' g T cur := ⟨by rw [hg.block g h.lt hn]; exact h.b⟩
theorem Pst.app {w : World} {B0 : Nat} {t : Tp} {pm : Tp → Tp} {v : Value} {k N : Nat} {ov v' : Value} {xs : List Value} {w1 w2 : World} (h : Pst w B0 t pm v k N ov xs w1) {x : Tp} (hk : k < t.ks.length) (hx : t.ks[k]? = some x) {n' : Nat} {a : Option Addr} {c : Nat}
    (hT : TAt w1 (Kp B0 w.heap.size ov) n' [.int .i64 (pm x).k, .int .i64 (pm x).n, .slice a (pm x).ks.length c] (pm x)) (hB : B0 ≤ w.heap.size)
    (hown : w2.ownsRow (w.heap.size + 3) 24 3 v' (k + 1) (xs ++ [.int .i64 (pm x).k, .int .i64 (pm x).n, .slice a (pm x).ks.length c])) (hg : w1.grownBy w2 ov.ownBlock) (hf : Fresh w1 ov v') :
    Pst w B0 t pm v (k + 1) (max N n') v' (xs ++ [.int .i64 (pm x).k, .int .i64 (pm x).n, .slice a (pm x).ks.length c]) (w2.setCell ⟨w.heap.size + 2, 2, none⟩ v') := by
  have hrow : ∀ b, ov.ownBlock = some b → w.heap.size + 3 ≤ b := fun b hb => (h.own.lt b hb).1
  have hrow' : ∀ b, v'.ownBlock = some b → w.heap.size + 3 ≤ b := fun b hb => (hown.lt b hb).1
  have ne : ∀ b, b < w.heap.size + 3 → some b ≠ ov.ownBlock := fun b hb e => by have := hrow b e.symm; omega
  have mv : ∀ {n0 : Nat} {vs : List Value} {y : Tp}, TAt w1 (Kp B0 w.heap.size ov) n0 vs y → TAt (w2.setCell ⟨w.heap.size + 2, 2, none⟩ v') (Kp B0 w.heap.size v') n0 vs y := by
    intro n0 vs y hy
    refine hy.both.move (fun b o u hb hu => ?_) (fun b hb => ⟨hb.1.1, fun e => ?_⟩)
    · rw [World.cell?_of_block (w := w2) (Below.heap_setCell _ _ _ _ (by show b ≠ w.heap.size + 2; rcases hb.1.1 with h | h <;> omega)), World.cell?_of_block (w := w1) (hg.block b hb.2 (fun e => hb.1.2 e.symm))]
      exact hu
    · rcases hf with h1 | h1
      · exact hb.1.2 (by rw [← h1]; exact e)
      · have := h1 b e; have := hb.2; omega
  have hxl : xs.length = k * 3 := h.own.1
  refine ⟨bl_set _ _ (h.bl.grown hg (by have := h.sz; omega) (fun b hb => by have := hrow b hb; omega)) (by show _ ≤ w.heap.size + 2; omega), by have := hg.size; have := h.sz; simp [World.setCell]; omega, (h.tb.grown hg (ne _ (by omega))).other (by show _ ≠ w.heap.size + 2; omega) _, (h.rs.grown hg (ne _ (by omega))).other (by show _ ≠ w.heap.size + 2; omega) _, (h.ob.grown hg (ne _ (by omega))).set 2 v', ?_, fun i y hi hy => ?_⟩
  · exact hown.kept (row := some (w.heap.size + 2)) ⟨rfl, rfl, rfl, by simp [World.setCell], fun b _ hb => Below.heap_setCell _ _ _ _ (fun e => hb (by simp [e]))⟩ (Or.inr (fun e => by have := hrow' _ e; omega))
  · by_cases he : i = k
    · subst he
      rw [hx] at hy
      injection hy with hy
      subst hy
      refine ⟨a, c, (mv hT).le (Nat.le_max_right _ _), fun j u hu => ?_⟩
      rw [List.getElem?_append_right (by omega), hxl]
      rw [show i * 3 + j - i * 3 = j by omega]
      exact hu
    · obtain ⟨a1, c1, g1, g2⟩ := h.el i y (by omega) hy
      refine ⟨a1, c1, (mv g1).le (Nat.le_max_left _ _), fun j u hu => ?_⟩
      have hj := (List.getElem?_eq_some_iff.1 hu).1
      simp only [List.length_cons, List.length_nil] at hj
      rw [List.getElem?_append_left (by omega)]
      exact g2 j u hu
theorem Pst.fin {w : World} {B0 : Nat} {t : Tp} {pm : Tp → Tp} {v : Value} {N : Nat} {ov : Value} {xs : List Value} {wr W : World} (h : Pst w B0 t pm v t.ks.length N ov xs wr) (hB : B0 ≤ w.heap.size) (hk : Keeps (fun b => b < B0 ∨ w.heap.size + 3 ≤ b) wr W) (h64 : R64 t.k ∧ R64 t.n) (hl : t.ks.length ≤ 1000) :
    TAt W (fun b => b < B0 ∨ w.heap.size ≤ b) (N + 1) [.int .i64 t.k, .int .i64 t.n, ov] (.mk t.k t.n (t.ks.map pm)) := by
  refine ⟨_, rfl, h64.1, h64.2, (show TRow _ _ _ _ (t.ks.map pm) from ?_)⟩
  rcases h.own.2 with ⟨rfl, h0⟩ | ⟨g, cap, cur, rfl, hg, hh, hc, hm, hs, htk⟩
  · exact .inr ⟨by rw [List.eq_nil_of_length_eq_zero h0]; rfl, _, _, rfl⟩
  · refine .inl ⟨g, 0, cap, by rw [List.length_map], .inr (by omega), by rw [List.length_map]; exact hc, by rw [List.length_map]; unfold maxLen; omega, fun i y hy => ?_⟩
    rw [List.getElem?_map] at hy
    obtain ⟨x, hx, rfl⟩ := Option.map_eq_some_iff.1 hy
    obtain ⟨a, c, h1, h2⟩ := h.el i x (List.getElem?_eq_some_iff.1 hx).1 hx
    refine ⟨_, fun j u hu => ?_, h1.move (fun b o u hb hu => hk b o u hb.1 hu) (fun b hb => hb.1.elim .inl (fun h => .inr (by omega)))⟩
    have := h2 j u hu
    rw [← htk, List.getElem?_take] at this
    split at this
    · refine hk g _ _ (.inr hg) ?_
      rw [cell_at hh, Nat.zero_add]
      simpa using this
    · cases this
end Go.Proofs.Ytknlpeloaapaiaa
