/- renewed: the walk. fresh, replaced. The document's grown. The document's put: what is kept while a list is built. Schemes: plain mathematics. What stands in a type: plain mathematics. -/
import Derived.Test.YtjodgnkhociaaaaGreatQab
import Derived.Test.YtjodgnkhociaaaaGreatQaa
namespace Go.Proofs.YtjodgnkhociaaaaGreat
open Go.RowKit
set_option linter.unusedVariables false
set_option linter.unusedSimpArgs false

/-- What stands in the new list: what was made of the first k, then what was there. -/
structure Ren (w : World) (n : Nat) (m : Tp → Tp) (t : Tp) (v' : Value) (g : Nat) (k N : Nat) (cur : List Value) (wr : World) : Prop where
  bl : Below w.heap.size w wr
  box : Arr wr w.heap.size 47 [.int .i64 t.k, .int .i64 t.n, v']
  res : Arr wr (w.heap.size + 1) 47 [.int .i64 0, .int .i64 0, .slice none 0 0]
  arr : Arr wr g 47 cur
  hg : w.heap.size + 2 ≤ g
  done : ∀ (i : Nat) x, i < k → t.ks[i]? = some x → ∃ a c, TAt wr (fun b => g < b) N [.int .i64 (m x).k, .int .i64 (m x).n, .slice a (m x).ks.length c] (m x) ∧ Seg cur (i * 3) [.int .i64 (m x).k, .int .i64 (m x).n, .slice a (m x).ks.length c]
  todo : ∀ (i : Nat) x, k ≤ i → t.ks[i]? = some x → ∃ a c, TAt w (fun b => b < w.heap.size) n [.int .i64 x.k, .int .i64 x.n, .slice a x.ks.length c] x ∧ Seg cur (i * 3) [.int .i64 x.k, .int .i64 x.n, .slice a x.ks.length c]
theorem Ren.stays {w : World} {n : Nat} {m : Tp → Tp} {t : Tp} {v' : Value} {g k N : Nat} {cur : List Value} {wr wz : World} (h : Ren w n m t v' g k N cur wr) (hb : Below wr.heap.size wr wz) : Ren w n m t v' g k N cur wz :=
  ⟨bl_tr h.bl hb, h.box.stays hb, h.res.stays hb, h.arr.stays hb, h.hg, fun i x hi hx => by obtain ⟨a, c, h1, h2⟩ := h.done i x hi hx; exact ⟨a, c, h1.below hb, h2⟩, h.todo⟩
theorem Ren.store {w : World} {n : Nat} {m : Tp → Tp} {t : Tp} {v' : Value} {g k N : Nat} {cur : List Value} {wr : World} (h : Ren w n m t v' g k N cur wr) (hk : k < t.ks.length) {x : Tp} (hx : t.ks[k]? = some x) {N' : Nat} {a : Option Addr} {c : Nat} (hT : TAt wr (fun b => g < b) N' [.int .i64 (m x).k, .int .i64 (m x).n, .slice a (m x).ks.length c] (m x)) :
    Ren w n m t v' g (k + 1) (max N N') (((cur.set (k * 3) (.int .i64 (m x).k)).set (k * 3 + 1) (.int .i64 (m x).n)).set (k * 3 + 2) (.slice a (m x).ks.length c)) (((wr.setCell ⟨g, k * 3, none⟩ (.int .i64 (m x).k)).setCell ⟨g, k * 3 + 1, none⟩ (.int .i64 (m x).n)).setCell ⟨g, k * 3 + 2, none⟩ (.slice a (m x).ks.length c)) := by
  have hg := h.hg
  have hK : ∀ (W : World) j u, Keeps (fun b => g < b) W (W.setCell ⟨g, j, none⟩ u) := fun W j u => Keeps.set (K := fun b => g < b) (p := ⟨g, j, none⟩) (fun h => Nat.lt_irrefl g h) u
  have hKK : Keeps (fun b => g < b) wr (((wr.setCell ⟨g, k * 3, none⟩ (.int .i64 (m x).k)).setCell ⟨g, k * 3 + 1, none⟩ (.int .i64 (m x).n)).setCell ⟨g, k * 3 + 2, none⟩ (.slice a (m x).ks.length c)) := ((hK _ _ _).trans (hK _ _ _)).trans (hK _ _ _)
  obtain ⟨a0, c0, -, hs0⟩ := h.todo k x (Nat.le_refl _) hx
  have hlen : k * 3 + 2 < cur.length := (List.getElem?_eq_some_iff.1 (hs0 2 _ rfl)).1
  refine ⟨bl_set _ _ (bl_set _ _ (bl_set _ _ h.bl (by show _ ≤ g; omega)) (by show _ ≤ g; omega)) (by show _ ≤ g; omega), ((h.box.other (by show _ ≠ g; omega) _).other (by show _ ≠ g; omega) _).other (by show _ ≠ g; omega) _, ((h.res.other (by show _ ≠ g; omega) _).other (by show _ ≠ g; omega) _).other (by show _ ≠ g; omega) _, ((h.arr.set _ _).set _ _).set _ _, hg, fun i y hi hy => ?_, fun i y hi hy => ?_⟩
  · by_cases he : i = k
    · subst he
      rw [hx] at hy
      injection hy with hy
      subst hy
      exact ⟨a, c, (hT.move hKK (fun _ h => h)).le (Nat.le_max_right _ _), Seg.set3 hlen⟩
    · obtain ⟨a1, c1, h1, h2⟩ := h.done i y (by omega) hy
      exact ⟨a1, c1, (h1.move hKK (fun _ h => h)).le (Nat.le_max_left _ _), h2.other3 rfl (by omega)⟩
  · obtain ⟨a1, c1, h1, h2⟩ := h.todo i y (by omega) hy
    exact ⟨a1, c1, h1, h2.other3 rfl (by omega)⟩

theorem Ren.fin {w : World} {n : Nat} {m : Tp → Tp} {t : Tp} {g cap N : Nat} {cur : List Value} {wr W : World} (h : Ren w n m t (.slice (some ⟨g, 0, none⟩) t.ks.length cap) g t.ks.length N cur wr) (hk : Keeps (fun b => w.heap.size + 2 ≤ b) wr W) (h64 : R64 t.k ∧ R64 t.n) (hl : t.ks.length ≤ 1000) (hc : t.ks.length ≤ cap) : TAt W (fun b => w.heap.size ≤ b) (N + 1) [.int .i64 t.k, .int .i64 t.n, .slice (some ⟨g, 0, none⟩) t.ks.length cap] (.mk t.k t.n (t.ks.map m)) := by
  have hg := h.hg
  refine ⟨_, rfl, h64.1, h64.2, (show TRow _ _ _ _ (t.ks.map m) from .inl ⟨g, 0, cap, by rw [List.length_map], by omega, by rw [List.length_map]; exact hc, by rw [List.length_map]; unfold maxLen; omega, fun i y hy => ?_⟩)⟩
  rw [List.getElem?_map] at hy
  obtain ⟨x, hx, rfl⟩ := Option.map_eq_some_iff.1 hy
  obtain ⟨a, c, h1, h2⟩ := h.done i x (List.getElem?_eq_some_iff.1 hx).1 hx
  refine ⟨_, ?_, h1.move (fun b o v hb hv => hk b o v (show _ ≤ _ by omega) hv) (fun b hb => by omega)⟩
  rw [Nat.zero_add]
  exact fun j v hv => hk g _ _ hg (Seg.cells h.arr h2 j v hv)
theorem clone_form {w w' : World} {K : Nat → Prop} {n : Nat} {l : List Tp} {v' : Value} (h : (l = [] ∧ ∃ p c, v' = .slice p 0 c) ∨ ∃ g cap cur, v' = .slice (some ⟨g, 0, none⟩) l.length cap ∧ w.heap.size ≤ g ∧ l.length ≤ cap ∧ Arr w' g 47 cur ∧ ∀ (i : Nat) x, l[i]? = some x → ∃ a c, TAt w K n [.int .i64 x.k, .int .i64 x.n, .slice a x.ks.length c] x ∧ Seg cur (i * 3) [.int .i64 x.k, .int .i64 x.n, .slice a x.ks.length c]) : ∃ p c, v' = .slice p l.length c := by
  rcases h with ⟨rfl, p, c, rfl⟩ | ⟨g, cap, cur, rfl, -⟩
  · exact ⟨_, _, rfl⟩
  · exact ⟨_, _, rfl⟩
/-- Behind the copying. -/
theorem Ren.start {w W2 w3 : World} {n : Nat} {m : Tp → Tp} {t : Tp} {v v' : Value} {g : Nat} {cur : List Value} (hb : Below w.heap.size w W2) (h3 : Below W2.heap.size W2 w3) (hB : Arr W2 w.heap.size 47 [.int .i64 t.k, .int .i64 t.n, v]) (hR : Arr W2 (w.heap.size + 1) 47 [.int .i64 0, .int .i64 0, .slice none 0 0]) (hs : W2.heap.size = w.heap.size + 2) (hg : W2.heap.size ≤ g) (ha : Arr w3 g 47 cur)
    (hl : ∀ (i : Nat) x, t.ks[i]? = some x → ∃ a c, TAt W2 (fun b => b < w.heap.size) n [.int .i64 x.k, .int .i64 x.n, .slice a x.ks.length c] x ∧ Seg cur (i * 3) [.int .i64 x.k, .int .i64 x.n, .slice a x.ks.length c]) :
    Ren w n m t v' g 0 0 cur (w3.setCell ⟨w.heap.size, 2, none⟩ v') := by
  refine ⟨bl_set _ _ (bl_tr hb h3) (Nat.le_refl _), (hB.stays h3).set 2 v', (hR.stays h3).other (by show _ ≠ w.heap.size; omega) _, ha.other (by show _ ≠ w.heap.size; omega) _, by omega, fun i x hi => absurd hi (Nat.not_lt_zero _), fun i x _ hx => ?_⟩
  obtain ⟨a, c, h1, h2⟩ := hl i x hx
  exact ⟨a, c, h1.move (fun b o u hb' hu => by rw [← hb.cell (p := ⟨b, o, none⟩) hb']; exact hu) (fun _ h => h), h2⟩

end Go.Proofs.YtjodgnkhociaaaaGreat

namespace Go.Proofs.YtjodgnkhociaaaaGreat
open Go.RowKit
set_option linter.unusedVariables false
set_option linter.unusedSimpArgs false

def Made (w : World) (t : Tp) (e : Ending) (w' : World) : Prop := ∃ vs' n', e = .returned (.agg vs'.toArray) ∧ TAt w' (fun b => w.heap.size ≤ b) n' vs' t ∧ Below w.heap.size w w'
theorem Made.form {w w' : World} {t : Tp} {e : Ending} (h : Made w t e w') : ∃ a n' c, e = .returned (.agg #[.int .i64 t.k, .int .i64 t.n, .slice a t.ks.length c]) ∧ TAt w' (fun b => w.heap.size ≤ b) n' [.int .i64 t.k, .int .i64 t.n, .slice a t.ks.length c] t ∧ Below w.heap.size w w' := by
  obtain ⟨vs', n', rfl, h1, h2⟩ := h
  obtain ⟨a, c, rfl⟩ := h1.form
  exact ⟨a, n', c, rfl, h1, h2⟩
theorem Tp.eta (t : Tp) : Tp.mk t.k t.n t.ks = t := by cases t; rfl
theorem Tp.cnt_ks (t : Tp) : t.cnt = Tp.cntL t.ks + 1 := by cases t; rw [Tp.cnt]; rfl
/-- What was made is stored in the box of the answer. -/
theorem made_store {w W2 w' : World} {t : Tp} {n' : Nat} {vs : List Value} {u0 u1 u2 : Value} (hb : Below w.heap.size w W2) (hs : w.heap.size + 2 ≤ W2.heap.size) (h1 : TAt w' (fun b => W2.heap.size ≤ b) n' vs t) (h2 : Below W2.heap.size W2 w') :
    TAt (((w'.setCell ⟨w.heap.size + 1, 0, none⟩ u0).setCell ⟨w.heap.size + 1, 1, none⟩ u1).setCell ⟨w.heap.size + 1, 2, none⟩ u2) (fun b => w.heap.size ≤ b) n' vs t ∧ Below w.heap.size w (((w'.setCell ⟨w.heap.size + 1, 0, none⟩ u0).setCell ⟨w.heap.size + 1, 1, none⟩ u1).setCell ⟨w.heap.size + 1, 2, none⟩ u2) := by
  have hK : ∀ (W : World) j u, Keeps (fun b => W2.heap.size ≤ b) W (W.setCell ⟨w.heap.size + 1, j, none⟩ u) := fun W j u => Keeps.set (K := fun b => W2.heap.size ≤ b) (p := ⟨w.heap.size + 1, j, none⟩) (fun h => by simp at h; omega) u
  exact ⟨h1.move (((hK _ _ _).trans (hK _ _ _)).trans (hK _ _ _)) (fun b hb => by omega), bl_set _ _ (bl_set _ _ (bl_set _ _ (bl_tr hb h2) (by show _ ≤ w.heap.size + 1; omega)) (by show _ ≤ w.heap.size + 1; omega)) (by show _ ≤ w.heap.size + 1; omega)⟩
theorem res_box (w : World) (o : Obj) : Arr ((w.alloc o).alloc (.cells #[.int .i64 0, .int .i64 0, .slice none 0 0] 47)) (w.heap.size + 1) 47 [.int .i64 0, .int .i64 0, .slice none 0 0] := ⟨by have := heap_alloc_at (w.alloc o) (.cells #[.int .i64 0, .int .i64 0, .slice none 0 0] 47); rw [size_alloc] at this; exact this⟩

theorem Tp.putL_map (kind : Int) (fr : List Int) (to : List Tp) : ∀ l, Tp.putL kind fr to l = l.map (Tp.put kind fr to)
  | [] => by rw [Tp.putL]; rfl
  | x :: r => by rw [Tp.putL, Tp.putL_map kind fr to r]; rfl
theorem Tp.put_none {kind : Int} {fr : List Int} {to : List Tp} {t : Tp} (h : Tp.by kind fr to t.k t.n = none) : Tp.put kind fr to t = .mk t.k t.n (t.ks.map (Tp.put kind fr to)) := by
  obtain ⟨k, n, ks⟩ := t
  simp only [Tp.k, Tp.n, Tp.ks] at h ⊢
  rw [Tp.put, h, Tp.putL_map]
theorem Tp.put_some {kind : Int} {fr : List Int} {to : List Tp} {t u : Tp} (h : Tp.by kind fr to t.k t.n = some u) : Tp.put kind fr to t = u := by
  obtain ⟨k, n, ks⟩ := t
  simp only [Tp.k, Tp.n] at h
  rw [Tp.put, h]
end Go.Proofs.YtjodgnkhociaaaaGreat

namespace Go.Proofs.YtjodgnkhociaaaaGreat
open Go.RowKit
set_option linter.unusedVariables false
set_option linter.unusedSimpArgs false

end Go.Proofs.YtjodgnkhociaaaaGreat

namespace Go.Proofs.YtjodgnkhociaaaaGreat
open Go.RowKit
set_option linter.unusedVariables false
set_option linter.unusedSimpArgs false

theorem own_stays {w w' : World} {base : Nat} {e : TypeId} {size : Nat} {v : Value} {n : Nat} {xs : List Value} (h : w.ownsRow base e size v n xs) (hb : Below w.heap.size w w') : w'.ownsRow base e size v n xs := by
  refine ⟨h.1, ?_⟩
  rcases h.2 with h2 | ⟨g, cap, cur, h1, h2, h3, h4⟩
  · exact .inl h2
  · have hg : g < w.heap.size := by
      rcases Nat.lt_or_ge g w.heap.size with h' | h'
      · exact h'
      · simp [Array.getElem?_eq_none h'] at h3
    exact .inr ⟨g, cap, cur, h1, h2, by rw [hb.block g hg]; exact h3, h4⟩
theorem TAt.both {w : World} {K : Nat → Prop} : ∀ {n : Nat} {vs : List Value} {t : Tp}, TAt w K n vs t → TAt w (fun b => K b ∧ b < w.heap.size) n vs t
  | 0, _, _, h => h
  | n + 1, vs, t, ⟨v, h1, h2, h3, h4⟩ => by
    refine ⟨v, h1, h2, h3, ?_⟩
    rcases h4 with ⟨b, o, c, hv, hb, hl, hm, hc⟩ | h4
    · cases hks : t.ks with
      | nil => exact .inr ⟨rfl, _, _, by rw [hv, hks]; rfl⟩
      | cons x r =>
        rw [hks] at hv hl hm hc
        refine .inl ⟨b, o, c, hv, ⟨hb, ?_⟩, hl, hm, fun i y hy => ?_⟩
        · obtain ⟨vs', g1, g2⟩ := hc 0 x rfl
          obtain ⟨a, c2, rfl⟩ := g2.form
          exact World.block_lt_of_cell? w _ (g1 0 _ rfl)
        · obtain ⟨vs', g1, g2⟩ := hc i y hy
          exact ⟨vs', g1, TAt.both g2⟩
    · exact .inr h4
/-- The blocks in which what was put in lies: old ones, or new ones behind the boxes; not the row ov. -/
def Kp (B0 s : Nat) (ov : Value) : Nat → Prop := fun b => (b < B0 ∨ s + 3 ≤ b) ∧ ov.ownBlock ≠ some b
structure Pst (w : World) (B0 : Nat) (t : Tp) (pm : Tp → Tp) (v : Value) (k N : Nat) (ov : Value) (xs : List Value) (wr : World) : Prop where
  bl : Below w.heap.size w wr
  sz : w.heap.size + 3 ≤ wr.heap.size
  tb : Arr wr w.heap.size 47 [.int .i64 t.k, .int .i64 t.n, v]
  rs : Arr wr (w.heap.size + 1) 47 [.int .i64 0, .int .i64 0, .slice none 0 0]
  ob : Arr wr (w.heap.size + 2) 47 [.int .i64 t.k, .int .i64 t.n, ov]
  own : wr.ownsRow (w.heap.size + 3) 47 3 ov k xs
  el : ∀ (i : Nat) x, i < k → t.ks[i]? = some x → ∃ a c, TAt wr (Kp B0 w.heap.size ov) N [.int .i64 (pm x).k, .int .i64 (pm x).n, .slice a (pm x).ks.length c] (pm x) ∧ Seg xs (i * 3) [.int .i64 (pm x).k, .int .i64 (pm x).n, .slice a (pm x).ks.length c]
theorem Pst.stays {w : World} {B0 : Nat} {t : Tp} {pm : Tp → Tp} {v : Value} {k N : Nat} {ov : Value} {xs : List Value} {wr wz : World} (h : Pst w B0 t pm v k N ov xs wr) (hb : Below wr.heap.size wr wz) : Pst w B0 t pm v k N ov xs wz :=
  ⟨bl_tr h.bl hb, Nat.le_trans h.sz hb.size, h.tb.stays hb, h.rs.stays hb, h.ob.stays hb, own_stays h.own hb, fun i x hi hx => by obtain ⟨a, c, h1, h2⟩ := h.el i x hi hx; exact ⟨a, c, h1.below hb, h2⟩⟩
theorem own_form {w : World} {base : Nat} {e : TypeId} {size : Nat} {v : Value} {n : Nat} {xs : List Value} (h : w.ownsRow base e size v n xs) : ∃ p c, v = .slice p n c := by
  rcases h.2 with ⟨rfl, rfl⟩ | ⟨g, cap, cur, rfl, -⟩
  · exact ⟨_, _, rfl⟩
  · exact ⟨_, _, rfl⟩
theorem Arr.grown {w w' : World} {g : Nat} {T : TypeId} {cur : List Value} {row : Option Nat} (h : Arr w g T cur) (hg : w.grownBy w' row) (hn : some g ≠ row) : Arr w' g T cur := ⟨by rw [hg.block g h.lt hn]; exact h.b⟩
theorem Pst.app {w : World} {B0 : Nat} {t : Tp} {pm : Tp → Tp} {v : Value} {k N : Nat} {ov v' : Value} {xs : List Value} {w1 w2 : World} (h : Pst w B0 t pm v k N ov xs w1) {x : Tp} (hk : k < t.ks.length) (hx : t.ks[k]? = some x) {n' : Nat} {a : Option Addr} {c : Nat}
    (hT : TAt w1 (Kp B0 w.heap.size ov) n' [.int .i64 (pm x).k, .int .i64 (pm x).n, .slice a (pm x).ks.length c] (pm x)) (hB : B0 ≤ w.heap.size)
    (hown : w2.ownsRow (w.heap.size + 3) 47 3 v' (k + 1) (xs ++ [.int .i64 (pm x).k, .int .i64 (pm x).n, .slice a (pm x).ks.length c])) (hg : w1.grownBy w2 ov.ownBlock) (hf : Fresh w1 ov v') :
    Pst w B0 t pm v (k + 1) (max N n') v' (xs ++ [.int .i64 (pm x).k, .int .i64 (pm x).n, .slice a (pm x).ks.length c]) (w2.setCell ⟨w.heap.size + 2, 2, none⟩ v') := by
  have hrow : ∀ b, ov.ownBlock = some b → w.heap.size + 3 ≤ b := fun b hb => (h.own.lt b hb).1
  have hrow' : ∀ b, v'.ownBlock = some b → w.heap.size + 3 ≤ b := fun b hb => (hown.lt b hb).1
  have ne : ∀ b, b < w.heap.size + 3 → some b ≠ ov.ownBlock := fun b hb e => by have := hrow b e.symm; omega
  have mv : ∀ {n0 : Nat} {vs : List Value} {y : Tp}, TAt w1 (Kp B0 w.heap.size ov) n0 vs y → TAt (w2.setCell ⟨w.heap.size + 2, 2, none⟩ v') (Kp B0 w.heap.size v') n0 vs y := by
    intro n0 vs y hy
    refine hy.both.move (fun b o u hb hu => ?_) (fun b hb => ⟨hb.1.1, fun e => ?_⟩)
    · rw [World.cell?_of_block (w := w2) (Below.heap_setCell _ _ _ _ (by show b ≠ w.heap.size + 2; rcases hb.1.1 with h | h <;> omega)), World.cell?_of_block (w := w1) (hg.block b hb.2 (fun e => hb.1.2 e.symm))]
      exact hu
    · rcases hf with h1 | h1
      · exact hb.1.2 (by rw [← h1]; exact e)
      · have := h1 b e; have := hb.2; omega
  have hxl : xs.length = k * 3 := h.own.1
  refine ⟨bl_set _ _ (h.bl.grown hg (by have := h.sz; omega) (fun b hb => by have := hrow b hb; omega)) (by show _ ≤ w.heap.size + 2; omega), by have := hg.size; have := h.sz; simp [World.setCell]; omega, (h.tb.grown hg (ne _ (by omega))).other (by show _ ≠ w.heap.size + 2; omega) _, (h.rs.grown hg (ne _ (by omega))).other (by show _ ≠ w.heap.size + 2; omega) _, (h.ob.grown hg (ne _ (by omega))).set 2 v', ?_, fun i y hi hy => ?_⟩
  · exact hown.kept (row := some (w.heap.size + 2)) ⟨rfl, rfl, rfl, by simp [World.setCell], fun b _ hb => Below.heap_setCell _ _ _ _ (fun e => hb (by simp [e]))⟩ (Or.inr (fun e => by have := hrow' _ e; omega))
  · by_cases he : i = k
    · subst he
      rw [hx] at hy
      injection hy with hy
      subst hy
      refine ⟨a, c, (mv hT).le (Nat.le_max_right _ _), fun j u hu => ?_⟩
      rw [List.getElem?_append_right (by omega), hxl]
      rw [show i * 3 + j - i * 3 = j by omega]
      exact hu
    · obtain ⟨a1, c1, g1, g2⟩ := h.el i y (by omega) hy
      refine ⟨a1, c1, (mv g1).le (Nat.le_max_left _ _), fun j u hu => ?_⟩
      have hj := (List.getElem?_eq_some_iff.1 hu).1
      simp only [List.length_cons, List.length_nil] at hj
      rw [List.getElem?_append_left (by omega)]
      exact g2 j u hu
theorem Pst.fin {w : World} {B0 : Nat} {t : Tp} {pm : Tp → Tp} {v : Value} {N : Nat} {ov : Value} {xs : List Value} {wr W : World} (h : Pst w B0 t pm v t.ks.length N ov xs wr) (hB : B0 ≤ w.heap.size) (hk : Keeps (fun b => b < B0 ∨ w.heap.size + 3 ≤ b) wr W) (h64 : R64 t.k ∧ R64 t.n) (hl : t.ks.length ≤ 1000) :
    TAt W (fun b => b < B0 ∨ w.heap.size ≤ b) (N + 1) [.int .i64 t.k, .int .i64 t.n, ov] (.mk t.k t.n (t.ks.map pm)) := by
  refine ⟨_, rfl, h64.1, h64.2, (show TRow _ _ _ _ (t.ks.map pm) from ?_)⟩
  rcases h.own.2 with ⟨rfl, h0⟩ | ⟨g, cap, cur, rfl, hg, hh, hc, hm, hs, htk⟩
  · exact .inr ⟨by rw [List.eq_nil_of_length_eq_zero h0]; rfl, _, _, rfl⟩
  · refine .inl ⟨g, 0, cap, by rw [List.length_map], .inr (by omega), by rw [List.length_map]; exact hc, by rw [List.length_map]; unfold maxLen; omega, fun i y hy => ?_⟩
    rw [List.getElem?_map] at hy
    obtain ⟨x, hx, rfl⟩ := Option.map_eq_some_iff.1 hy
    obtain ⟨a, c, h1, h2⟩ := h.el i x (List.getElem?_eq_some_iff.1 hx).1 hx
    refine ⟨_, fun j u hu => ?_, h1.move (fun b o u hb hu => hk b o u hb.1 hu) (fun b hb => hb.1.elim .inl (fun h => .inr (by omega)))⟩
    have := h2 j u hu
    rw [← htk, List.getElem?_take] at this
    split at this
    · refine hk g _ _ (.inr hg) ?_
      rw [cell_at hh, Nat.zero_add]
      simpa using this
    · cases this
end Go.Proofs.YtjodgnkhociaaaaGreat

namespace Go.Proofs.YtjodgnkhociaaaaGreat
open Go.RowKit
set_option linter.unusedVariables false
set_option linter.unusedSimpArgs false

theorem hid {p : Prop} (h : p) : Hid p := h
/-- Do the numbers rise by one from i on? -/
def Tp.ups : List Int → Nat → Bool
  | [], _ => true
  | x :: r, i => decide (x = i) && Tp.ups r (i + 1)
/-- Is the scheme right? -/
def Tp.rightS (g : Int) (t : Tp) : Bool := t.right && (Tp.ups (Tp.found 8 t []) 0 && decide (((Tp.found 8 t []).length : Int) = g))
theorem Tp.ups_at {l : List Int} {k : Nat} {x : Int} (hx : l[k]? = some x) : Tp.ups (l.drop k) k = (decide (x = k) && Tp.ups (l.drop (k + 1)) (k + 1)) := by
  obtain ⟨h1, e1⟩ := List.getElem?_eq_some_iff.1 hx
  rw [List.drop_eq_getElem_cons h1, e1, Tp.ups]
mutual
/-- Each node's kind and number made anew. -/
def Tp.ren (f : Int → Int → Int × Int) : Tp → Tp
  | .mk k n ks => .mk (f k n).1 (f k n).2 (Tp.renL f ks)
def Tp.renL (f : Int → Int → Int × Int) : List Tp → List Tp
  | [] => []
  | x :: r => Tp.ren f x :: Tp.renL f r
end
theorem Tp.renL_map (f : Int → Int → Int × Int) : ∀ l : List Tp, Tp.renL f l = l.map (Tp.ren f)
  | [] => by rw [Tp.renL]; rfl
  | x :: r => by rw [Tp.renL, Tp.renL_map f r]; rfl
theorem Tp.ren_eq (f : Int → Int → Int × Int) (t : Tp) : Tp.ren f t = .mk (f t.k t.n).1 (f t.k t.n).2 (t.ks.map (Tp.ren f)) := by
  obtain ⟨k, n, ks⟩ := t
  rw [Tp.ren, Tp.renL_map]; rfl
mutual
theorem Tp.cnt_ren (f : Int → Int → Int × Int) : ∀ t : Tp, (Tp.ren f t).cnt = t.cnt
  | .mk k n ks => by rw [Tp.ren, Tp.cnt, Tp.cnt, Tp.cntL_ren f ks]
theorem Tp.cntL_ren (f : Int → Int → Int × Int) : ∀ l : List Tp, Tp.cntL (Tp.renL f l) = Tp.cntL l
  | [] => by rw [Tp.renL]
  | x :: r => by rw [Tp.renL, Tp.cntL, Tp.cntL, Tp.cnt_ren f x, Tp.cntL_ren f r]
end
end Go.Proofs.YtjodgnkhociaaaaGreat

namespace Go.Proofs.YtjodgnkhociaaaaGreat
open Go.RowKit
set_option linter.unusedVariables false
set_option linter.unusedSimpArgs false

mutual
/-- The nodes of a kind, from the left. -/
def Tp.all (kind : Int) : Tp → List Int
  | .mk k n ks => (if k = kind then [n] else []) ++ Tp.allL kind ks
def Tp.allL (kind : Int) : List Tp → List Int
  | [] => []
  | x :: r => Tp.all kind x ++ Tp.allL kind r
end
/-- A list without what comes again. -/
def dd (l : List Int) (xs : List Int) : List Int := xs.foldl Tp.ins l
mutual
theorem Tp.found_dd (kind : Int) : ∀ (t : Tp) (l : List Int), Tp.found kind t l = dd l (Tp.all kind t)
  | .mk k n ks, l => by
    rw [Tp.found_mk, Tp.all, Tp.foundL_dd kind ks]
    by_cases h : k = kind
    · rw [if_pos h, if_pos h]; rfl
    · rw [if_neg h, if_neg h]; rfl
theorem Tp.foundL_dd (kind : Int) : ∀ (ts : List Tp) (l : List Int), Tp.foundL kind ts l = dd l (Tp.allL kind ts)
  | [], l => by rw [Tp.foundL_nil, Tp.allL]; rfl
  | x :: r, l => by rw [Tp.foundL_cons, Tp.allL, Tp.found_dd kind x, Tp.foundL_dd kind r]; unfold dd; rw [List.foldl_append]
end
theorem mem_ins {l : List Int} {n x : Int} : x ∈ Tp.ins l n ↔ x ∈ l ∨ x = n := by
  unfold Tp.ins
  by_cases h : n ∈ l
  · rw [if_pos h]
    constructor
    · exact .inl
    · rintro (h1 | rfl)
      · exact h1
      · exact h
  · rw [if_neg h]; simp
theorem mem_dd : ∀ {xs l : List Int} {x : Int}, x ∈ dd l xs ↔ x ∈ l ∨ x ∈ xs
  | [], l, x => by simp [dd]
  | y :: r, l, x => by
    show x ∈ dd (Tp.ins l y) r ↔ _
    rw [mem_dd, mem_ins]
    simp [or_assoc]
theorem dd_nodup : ∀ (xs l : List Int), l.Nodup → (dd l xs).Nodup
  | [], l, h => h
  | y :: r, l, h => by
    show (dd (Tp.ins l y) r).Nodup
    refine dd_nodup r _ ?_
    unfold Tp.ins
    by_cases hm : y ∈ l
    · rw [if_pos hm]; exact h
    · rw [if_neg hm]
      rw [List.nodup_append]
      refine ⟨h, by simp, fun a ha b hb e => ?_⟩
      rw [List.mem_singleton.1 hb] at e
      exact hm (e ▸ ha)
theorem dd_len : ∀ (xs l : List Int), (dd l xs).length ≤ l.length + xs.length
  | [], l => by simp [dd]
  | y :: r, l => by
    have h := dd_len r (Tp.ins l y)
    have h2 : (Tp.ins l y).length ≤ l.length + 1 := by
      unfold Tp.ins
      split
      · omega
      · simp
    show (dd (Tp.ins l y) r).length ≤ _
    simp only [List.length_cons]
    omega
mutual
theorem Tp.all_len (kind : Int) : ∀ t : Tp, (Tp.all kind t).length ≤ t.cnt
  | .mk k n ks => by
    rw [Tp.all, Tp.cnt, List.length_append]
    have := Tp.allL_len kind ks
    split
    · simp; omega
    · simp; omega
theorem Tp.allL_len (kind : Int) : ∀ l : List Tp, (Tp.allL kind l).length ≤ Tp.cntL l
  | [] => by rw [Tp.allL]; simp
  | x :: r => by
    rw [Tp.allL, Tp.cntL, List.length_append]
    have := Tp.all_len kind x
    have := Tp.allL_len kind r
    omega
end
theorem Tp.found_len (kind : Int) (t : Tp) : (Tp.found kind t []).length ≤ t.cnt := by
  rw [Tp.found_dd]
  have h1 := dd_len (Tp.all kind t) []
  have h2 := Tp.all_len kind t
  simp only [List.length_nil] at h1
  omega
theorem Tp.found_nodup (kind : Int) (t : Tp) : (Tp.found kind t []).Nodup := by rw [Tp.found_dd]; exact dd_nodup _ _ (by simp)
theorem Tp.mem_fnd {kind : Int} {t : Tp} {x : Int} : x ∈ Tp.found kind t [] ↔ x ∈ Tp.all kind t := by rw [Tp.found_dd, mem_dd]; simp
theorem Tp.mem_allL {kind : Int} {x : Int} : ∀ {l : List Tp}, x ∈ Tp.allL kind l ↔ ∃ t ∈ l, x ∈ Tp.all kind t
  | [] => by rw [Tp.allL]; simp
  | y :: r => by rw [Tp.allL, List.mem_append, Tp.mem_allL]; simp
theorem Tp.all_eq (kind : Int) (t : Tp) : Tp.all kind t = (if t.k = kind then [t.n] else []) ++ Tp.allL kind t.ks := by
  obtain ⟨k, n, ks⟩ := t
  rw [Tp.all]; rfl
theorem TAt.all64 {w : World} {K : Nat → Prop} (kind : Int) : ∀ {n : Nat} {vs : List Value} {t : Tp}, TAt w K n vs t → ∀ x ∈ Tp.all kind t, R64 x
  | 0, _, _, h, _, _ => h.elim
  | n + 1, vs, t, ⟨v, h1, h2, h3, h4⟩, x, hx => by
    rw [Tp.all_eq] at hx
    rcases List.mem_append.1 hx with hx | hx
    · split at hx
      · rw [List.mem_singleton.1 hx]; exact h3
      · cases hx
    · obtain ⟨y, hy, hxy⟩ := Tp.mem_allL.1 hx
      rcases h4 with ⟨b, o, c, hv, hb, hl, hm, hc⟩ | ⟨h0, -⟩
      · obtain ⟨i, hi⟩ := List.getElem?_of_mem hy
        obtain ⟨vs', -, g2⟩ := hc i y hi
        exact TAt.all64 kind g2 x hxy
      · rw [h0] at hy; cases hy
theorem TAt.found64 {w : World} {K : Nat → Prop} (kind : Int) {n : Nat} {vs : List Value} {t : Tp} (h : TAt w K n vs t) : ∀ x ∈ Tp.found kind t [], R64 x := fun x hx => h.all64 kind x (Tp.mem_fnd.1 hx)
end Go.Proofs.YtjodgnkhociaaaaGreat
