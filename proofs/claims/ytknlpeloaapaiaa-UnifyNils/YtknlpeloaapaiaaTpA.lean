/- How types lie in memory; what calls leave as it was. -/
import Derived.WalkKit
import Derived.Below
import Derived.Deep.Draws
import Derived.Test.YtknlpeloaapaiaaTpP
namespace Go.Proofs.Ytknlpeloaapaiaa
open Go.RowKit
set_option linter.unusedVariables false

/-- The cells from a place on hold these values. -/
def Cells (w : World) (b o : Nat) (vs : List Value) : Prop := ∀ (j : Nat) v, vs[j]? = some v → w.cell? ⟨b, o + j, none⟩ = some v
/-- An int's range. -/
def R64 (n : Int) : Prop := -9223372036854775808 ≤ n ∧ n ≤ 9223372036854775807
/-- A slice of types, in a block of K. -/
def TRow (w : World) (K : Nat → Prop) (R : List Value → Tp → Prop) (v : Value) (l : List Tp) : Prop :=
  (∃ b o c, v = .slice (some ⟨b, o, none⟩) l.length c ∧ K b ∧ l.length ≤ c ∧ l.length ≤ maxLen ∧ ∀ (i : Nat) x, l[i]? = some x → ∃ vs, Cells w b (o + i * 3) vs ∧ R vs x) ∨ (l = [] ∧ ∃ p c, v = .slice p 0 c)
/-- The values vs are the type t. -/
def TAt (w : World) (K : Nat → Prop) : Nat → List Value → Tp → Prop
  | 0, _, _ => False
  | n + 1, vs, t => ∃ v, vs = [.int .i64 t.k, .int .i64 t.n, v] ∧ R64 t.k ∧ R64 t.n ∧ TRow w K (TAt w K n) v t.ks
def TAtL (w : World) (K : Nat → Prop) (n : Nat) (v : Value) (l : List Tp) : Prop := TRow w K (TAt w K n) v l
def Keeps (K : Nat → Prop) (w w' : World) : Prop := ∀ (b o : Nat) v, K b → w.cell? ⟨b, o, none⟩ = some v → w'.cell? ⟨b, o, none⟩ = some v
theorem Keeps.refl (K : Nat → Prop) (w : World) : Keeps K w w := fun _ _ _ _ h => h
theorem Keeps.trans {K : Nat → Prop} {a b c : World} (h : Keeps K a b) (h' : Keeps K b c) : Keeps K a c := fun x o v hk hv => h' x o v hk (h x o v hk hv)
theorem Keeps.of_below {K : Nat → Prop} {w w' : World} (h : Below w.heap.size w w') : Keeps K w w' := fun b o v _ hv => (h.cell (World.block_lt_of_cell? w _ hv)).trans hv
theorem TRow.move {w w' : World} {K K' : Nat → Prop} {R R' : List Value → Tp → Prop} {v : Value} {l : List Tp} (h : TRow w K R v l) (hk : Keeps K w w') (hK : ∀ b, K b → K' b) (hR : ∀ vs x, R vs x → R' vs x) : TRow w' K' R' v l := by
  rcases h with ⟨b, o, c, hv, hb, hl, hm, hc⟩ | h
  · refine .inl ⟨b, o, c, hv, hK b hb, hl, hm, fun i x hx => ?_⟩
    obtain ⟨vs, h1, h2⟩ := hc i x hx
    exact ⟨vs, fun j u hu => hk _ _ _ hb (h1 j u hu), hR _ _ h2⟩
  · exact .inr h
theorem TAt.move {w w' : World} {K K' : Nat → Prop} (hk : Keeps K w w') (hK : ∀ b, K b → K' b) : ∀ {n : Nat} {vs : List Value} {t : Tp}, TAt w K n vs t → TAt w' K' n vs t
  | 0, _, _, h => h
  | n + 1, vs, t, ⟨v, h1, h2, h3, h4⟩ => ⟨v, h1, h2, h3, h4.move hk hK fun _ _ q => TAt.move hk hK q⟩
theorem TAt.succ {w : World} {K : Nat → Prop} : ∀ {n : Nat} {vs : List Value} {t : Tp}, TAt w K n vs t → TAt w K (n + 1) vs t
  | 0, _, _, h => h.elim
  | n + 1, vs, t, ⟨v, h1, h2, h3, h4⟩ => ⟨v, h1, h2, h3, h4.move (Keeps.refl _ _) (fun _ h => h) fun _ _ q => TAt.succ q⟩
theorem TAt.le {w : World} {K : Nat → Prop} {n m : Nat} {vs : List Value} {t : Tp} (h : TAt w K n vs t) (hm : n ≤ m) : TAt w K m vs t := by
  induction m with
  | zero => obtain rfl : n = 0 := by omega
            exact h
  | succ m ih =>
    by_cases he : n = m + 1
    · subst he; exact h
    · exact (ih (by omega)).succ
theorem TAtL.move {w w' : World} {K K' : Nat → Prop} {n : Nat} {v : Value} {l : List Tp} (h : TAtL w K n v l) (hk : Keeps K w w') (hK : ∀ b, K b → K' b) : TAtL w' K' n v l := TRow.move h hk hK fun _ _ q => TAt.move hk hK q
theorem TAtL.le {w : World} {K : Nat → Prop} {n m : Nat} {v : Value} {l : List Tp} (h : TAtL w K n v l) (hm : n ≤ m) : TAtL w K m v l := TRow.move h (Keeps.refl _ _) (fun _ h => h) fun _ _ q => TAt.le q hm
theorem TAtL.form {w : World} {K : Nat → Prop} {n : Nat} {v : Value} {l : List Tp} (h : TAtL w K n v l) : ∃ a c, v = .slice a l.length c ∧ l.length ≤ maxLen := by
  rcases h with ⟨b, o, c, rfl, -, -, hm, -⟩ | ⟨rfl, p, c, rfl⟩
  · exact ⟨_, _, rfl, hm⟩
  · exact ⟨_, _, rfl, Nat.zero_le _⟩
theorem TAt.open_ {w : World} {K : Nat → Prop} {n : Nat} {vs : List Value} {t : Tp} (h : TAt w K (n + 1) vs t) : ∃ v, vs = [.int .i64 t.k, .int .i64 t.n, v] ∧ R64 t.k ∧ R64 t.n ∧ TAtL w K n v t.ks := h
theorem TAt.form {w : World} {K : Nat → Prop} {n : Nat} {vs : List Value} {t : Tp} (h : TAt w K n vs t) : ∃ a c, vs = [.int .i64 t.k, .int .i64 t.n, .slice a t.ks.length c] := by
  cases n with
  | zero => exact h.elim
  | succ n =>
    obtain ⟨v, rfl, -, -, h4⟩ := h
    obtain ⟨a, c, rfl, -⟩ := TAtL.form h4
    exact ⟨a, c, rfl⟩
abbrev Any : Nat → Prop := fun _ => True
theorem TAt.any {w : World} {K : Nat → Prop} {n : Nat} {vs : List Value} {t : Tp} (h : TAt w K n vs t) : TAt w Any n vs t := h.move (Keeps.refl _ _) fun _ _ => trivial
theorem TAtL.any {w : World} {K : Nat → Prop} {n : Nat} {v : Value} {l : List Tp} (h : TAtL w K n v l) : TAtL w Any n v l := h.move (Keeps.refl _ _) fun _ _ => trivial
theorem TAt.below {w w' : World} {K : Nat → Prop} {n : Nat} {vs : List Value} {t : Tp} (h : TAt w K n vs t) (hb : Below w.heap.size w w') : TAt w' K n vs t := h.move (Keeps.of_below hb) fun _ h => h
theorem TAtL.below {w w' : World} {K : Nat → Prop} {n : Nat} {v : Value} {l : List Tp} (h : TAtL w K n v l) (hb : Below w.heap.size w w') : TAtL w' K n v l := h.move (Keeps.of_below hb) fun _ h => h
theorem bl_alloc {w w1 : World} (h : Below w.heap.size w w1) (o : Obj) : Below w.heap.size w (w1.alloc o) := h.alloc h.size o
theorem bl_tr {w w1 w2 : World} (h : Below w.heap.size w w1) (h2 : Below w1.heap.size w1 w2) : Below w.heap.size w w2 := h.trans (h2.mono h.size)
theorem bl_drewN (w : World) (n : Nat) : Below w.heap.size w (w.drewN n) := by
  induction n with
  | zero => exact Below.refl _ _
  | succ k ih => exact ih.drew
theorem heap_alloc_at (w : World) (o : Obj) : (w.alloc o).heap[w.heap.size]? = some o := by
  show (w.heap.push o)[w.heap.size]? = some o
  rw [Array.getElem?_push_size]
theorem cell_at {w : World} {b : Nat} {cs : Array Value} {T : TypeId} {z : Nat × Nat} (h : w.heap[b]? = some (.cells cs T z)) (j : Nat) : w.cell? ⟨b, j, none⟩ = cs[j]? := by simp [World.cell?, h]
theorem size_alloc (w : World) (o : Obj) : (w.alloc o).heap.size = w.heap.size + 1 := by simp
/-- The i-th element of a slice of types: where it lies. -/
theorem TAtL.elem {w : World} {K : Nat → Prop} {n : Nat} {b o c m : Nat} {l : List Tp} (h : TAtL w K n (.slice (some ⟨b, o, none⟩) m c) l) {i : Nat} {x : Tp} (hx : l[i]? = some x) : ∃ v, TAt w K n [.int .i64 x.k, .int .i64 x.n, v] x ∧ w.cell? ⟨b, o + i * 3, none⟩ = some (.int .i64 x.k) ∧ w.cell? ⟨b, o + i * 3 + 1, none⟩ = some (.int .i64 x.n) ∧ w.cell? ⟨b, o + i * 3 + 2, none⟩ = some v ∧ K b ∧ b < w.heap.size := by
  rcases h with ⟨b', o', c', hv, hb, hl, hm, hc⟩ | ⟨rfl, -⟩
  · obtain ⟨rfl, rfl⟩ : b = b' ∧ o = o' := by injection hv with e1 e2 e3; injection e1 with e1; injection e1 with e1 e2; exact ⟨e1, e2⟩
    obtain ⟨vs, h1, h2⟩ := hc i x hx
    obtain ⟨a, c2, e⟩ := h2.form
    subst e
    exact ⟨_, h2, h1 0 _ rfl, h1 1 _ rfl, h1 2 _ rfl, hb, World.block_lt_of_cell? w _ (h1 0 _ rfl)⟩
  · simp at hx

/-- What a step leaves alone: every block but those of own; new ones may be its own. -/
structure Ev (own : Nat → Prop) (w : World) (own' : Nat → Prop) (w' : World) : Prop where
  os : w'.os = w.os
  tape : w'.tape = w.tape
  output : w'.output = w.output
  size : w.heap.size ≤ w'.heap.size
  mine : ∀ b, own' b → own b ∨ w.heap.size ≤ b
  block : ∀ b, b < w.heap.size → ¬ own b → w'.heap[b]? = w.heap[b]?
theorem Ev.refl (own : Nat → Prop) (w : World) : Ev own w own w := ⟨rfl, rfl, rfl, Nat.le_refl _, fun _ h => .inl h, fun _ _ _ => rfl⟩
theorem Ev.trans {o0 o1 o2 : Nat → Prop} {a b c : World} (h : Ev o0 a o1 b) (k : Ev o1 b o2 c) : Ev o0 a o2 c :=
  ⟨k.os.trans h.os, k.tape.trans h.tape, k.output.trans h.output, Nat.le_trans h.size k.size,
   fun x hx => (k.mine x hx).elim (h.mine x) (fun h2 => .inr (Nat.le_trans h.size h2)),
   fun x hx hn => (k.block x (Nat.lt_of_lt_of_le hx h.size) (fun h1 => (h.mine x h1).elim hn (fun h2 => by omega))).trans (h.block x hx hn)⟩
theorem Ev.of_below {own : Nat → Prop} {w w' : World} (h : Below w.heap.size w w') : Ev own w own w' := ⟨h.os, h.tape, h.output, h.size, fun _ h => .inl h, fun x hx _ => h.block x hx⟩
theorem Ev.alloc {own o1 : Nat → Prop} {w w1 : World} (h : Ev own w o1 w1) (o : Obj) : Ev own w o1 (w1.alloc o) := h.trans (Ev.of_below (bl_alloc (Below.refl _ _) o))
theorem Ev.drew {own o1 : Nat → Prop} {w w1 : World} (h : Ev own w o1 w1) : Ev own w o1 w1.drew := h.trans (Ev.of_below (Below.refl _ _).drew)
theorem Ev.below {own : Nat → Prop} {w w' : World} {own' : Nat → Prop} {B : Nat} (h : Ev own w own' w') (hB : B ≤ w.heap.size) (ho : ∀ b, own b → B ≤ b) : Below B w w' :=
  ⟨h.os, h.tape, h.output, h.size, fun k hk => h.block k (by omega) (fun hq => by have := ho k hq; omega)⟩
theorem Ev.cell {own : Nat → Prop} {w w' : World} {own' : Nat → Prop} (h : Ev own w own' w') {p : Addr} (hp : p.block < w.heap.size) (hn : ¬ own p.block) : w'.cell? p = w.cell? p := World.cell?_of_block (w := w) (h.block p.block hp hn)
/-- The blocks that w has and that are not in own. -/
def Free (own : Nat → Prop) (w : World) : Nat → Prop := fun b => b < w.heap.size ∧ ¬ own b
theorem Ev.keeps {own : Nat → Prop} {w w' : World} {own' : Nat → Prop} (h : Ev own w own' w') : Keeps (Free own w) w w' := fun b o v hb hv => (h.cell (p := ⟨b, o, none⟩) hb.1 hb.2).trans hv
theorem TAt.old {w : World} {K : Nat → Prop} : ∀ {n : Nat} {vs : List Value} {t : Tp}, TAt w K n vs t → TAt w (fun b => b < w.heap.size) n vs t
  | 0, _, _, h => h
  | n + 1, vs, t, ⟨v, h1, h2, h3, h4⟩ => by
    refine ⟨v, h1, h2, h3, ?_⟩
    rcases h4 with ⟨b, o, c, hv, hb, hl, hm, hc⟩ | h4
    · cases hks : t.ks with
      | nil => exact .inr ⟨rfl, _, _, by rw [hv, hks]; rfl⟩
      | cons x r =>
        rw [hks] at hv hl hm hc
        refine .inl ⟨b, o, c, hv, ?_, hl, hm, fun i y hy => ?_⟩
        · obtain ⟨vs', g1, g2⟩ := hc 0 x rfl
          obtain ⟨a, c2, rfl⟩ := g2.form
          exact World.block_lt_of_cell? w _ (g1 0 _ rfl)
        · obtain ⟨vs', g1, g2⟩ := hc i y hy
          exact ⟨vs', g1, TAt.old g2⟩
    · exact .inr h4
theorem TAt.oldK {w : World} {own : Nat → Prop} : ∀ {n : Nat} {vs : List Value} {t : Tp}, TAt w (fun b => ¬ own b) n vs t → TAt w (Free own w) n vs t
  | 0, _, _, h => h
  | n + 1, vs, t, ⟨v, h1, h2, h3, h4⟩ => by
    refine ⟨v, h1, h2, h3, ?_⟩
    rcases h4 with ⟨b, o, c, hv, hb, hl, hm, hc⟩ | h4
    · cases hks : t.ks with
      | nil => exact .inr ⟨rfl, _, _, by rw [hv, hks]; rfl⟩
      | cons x r =>
        rw [hks] at hv hl hm hc
        refine .inl ⟨b, o, c, hv, ⟨?_, hb⟩, hl, hm, fun i y hy => ?_⟩
        · obtain ⟨vs', g1, g2⟩ := hc 0 x rfl
          obtain ⟨a, c2, rfl⟩ := g2.form
          exact World.block_lt_of_cell? w _ (g1 0 _ rfl)
        · obtain ⟨vs', g1, g2⟩ := hc i y hy
          exact ⟨vs', g1, TAt.oldK g2⟩
    · exact .inr h4
end Go.Proofs.Ytknlpeloaapaiaa
