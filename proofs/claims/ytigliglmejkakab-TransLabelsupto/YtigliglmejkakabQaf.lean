/- How target types lie in memory; what calls leave as it was. Target types that are being made: a node whose Kids are appended one by one. Schemes: plain mathematics. -/
import Derived.WalkKit
import Derived.Below
import Derived.Deep.Draws
import Derived.Test.YtigliglmejkakabQae
import Derived.Test.YtigliglmejkakabQad
import Derived.Test.YtigliglmejkakabQaa
namespace Go.Proofs.Ytigliglmejkakab.Tgt
open Go.RowKit
set_option linter.unusedVariables false

/-- The cells from a place on hold these values. -/
def Cells (w : World) (b o : Nat) (vs : List Value) : Prop := ∀ (j : Nat) v, vs[j]? = some v → w.cell? ⟨b, o + j, none⟩ = some v
/-- An int's range. -/
def R64 (n : Int) : Prop := -9223372036854775808 ≤ n ∧ n ≤ 9223372036854775807
/-- A slice of texts. -/
def Sl (w : World) (K : Nat → Prop) (v : Value) (l : List ByteArray) : Prop :=
  (∃ b o c, v = .slice (some ⟨b, o, none⟩) l.length c ∧ K b ∧ l.length ≤ c ∧ l.length ≤ maxLen ∧ ∀ (j : Nat) s, l[j]? = some s → w.cell? ⟨b, o + j, none⟩ = some (.string s)) ∨ (l = [] ∧ ∃ p c, v = .slice p 0 c)
/-- A slice of types, in a block of K. -/
def TRow (w : World) (K : Nat → Prop) (R : List Value → Tt → Prop) (v : Value) (l : List Tt) : Prop :=
  (∃ b o c, v = .slice (some ⟨b, o, none⟩) l.length c ∧ K b ∧ l.length ≤ c ∧ l.length ≤ maxLen ∧ ∀ (i : Nat) x, l[i]? = some x → ∃ vs, Cells w b (o + i * 4) vs ∧ R vs x) ∨ (l = [] ∧ ∃ p c, v = .slice p 0 c)
/-- The values vs are the type t. -/
def TAt (w : World) (K : Nat → Prop) : Nat → List Value → Tt → Prop
  | 0, _, _ => False
  | n + 1, vs, t => ∃ u v, vs = [.int .i64 t.k, .int .i64 t.n, u, v] ∧ R64 t.k ∧ R64 t.n ∧ Sl w K u t.ls ∧ TRow w K (TAt w K n) v t.ks
def TAtL (w : World) (K : Nat → Prop) (n : Nat) (v : Value) (l : List Tt) : Prop := TRow w K (TAt w K n) v l
/-- A type lies at a place. -/
def PAt (w : World) (K : Nat → Prop) (n b o : Nat) (t : Tt) : Prop := K b ∧ ∃ vs, Cells w b o vs ∧ TAt w K n vs t
def Keeps (K : Nat → Prop) (w w' : World) : Prop := ∀ (b o : Nat) v, K b → w.cell? ⟨b, o, none⟩ = some v → w'.cell? ⟨b, o, none⟩ = some v
theorem Keeps.refl (K : Nat → Prop) (w : World) : Keeps K w w := fun _ _ _ _ h => h
theorem Keeps.trans {K : Nat → Prop} {a b c : World} (h : Keeps K a b) (h' : Keeps K b c) : Keeps K a c := fun x o v hk hv => h' x o v hk (h x o v hk hv)
theorem Keeps.of_below {K : Nat → Prop} {w w' : World} (h : Below w.heap.size w w') : Keeps K w w' := fun b o v _ hv => (h.cell (World.block_lt_of_cell? w _ hv)).trans hv
theorem Sl.move {w w' : World} {K K' : Nat → Prop} {v : Value} {l : List ByteArray} (h : Sl w K v l) (hk : Keeps K w w') (hK : ∀ b, K b → K' b) : Sl w' K' v l := by
  rcases h with ⟨b, o, c, hv, hb, hl, hm, hc⟩ | h
  · exact .inl ⟨b, o, c, hv, hK b hb, hl, hm, fun j s hs => hk _ _ _ hb (hc j s hs)⟩
  · exact .inr h
theorem Sl.form {w : World} {K : Nat → Prop} {v : Value} {l : List ByteArray} (h : Sl w K v l) : ∃ a c, v = .slice a l.length c ∧ l.length ≤ maxLen := by
  rcases h with ⟨b, o, c, rfl, -, -, hm, -⟩ | ⟨rfl, p, c, rfl⟩
  · exact ⟨_, _, rfl, hm⟩
  · exact ⟨_, _, rfl, Nat.zero_le _⟩
theorem TRow.move {w w' : World} {K K' : Nat → Prop} {R R' : List Value → Tt → Prop} {v : Value} {l : List Tt} (h : TRow w K R v l) (hk : Keeps K w w') (hK : ∀ b, K b → K' b) (hR : ∀ vs x, R vs x → R' vs x) : TRow w' K' R' v l := by
  rcases h with ⟨b, o, c, hv, hb, hl, hm, hc⟩ | h
  · refine .inl ⟨b, o, c, hv, hK b hb, hl, hm, fun i x hx => ?_⟩
    obtain ⟨vs, h1, h2⟩ := hc i x hx
    exact ⟨vs, fun j u hu => hk _ _ _ hb (h1 j u hu), hR _ _ h2⟩
  · exact .inr h
theorem TAt.move {w w' : World} {K K' : Nat → Prop} (hk : Keeps K w w') (hK : ∀ b, K b → K' b) : ∀ {n : Nat} {vs : List Value} {t : Tt}, TAt w K n vs t → TAt w' K' n vs t
  | 0, _, _, h => h
  | n + 1, vs, t, ⟨u, v, h1, h2, h3, h5, h4⟩ => ⟨u, v, h1, h2, h3, h5.move hk hK, h4.move hk hK fun _ _ q => TAt.move hk hK q⟩
theorem TAt.succ {w : World} {K : Nat → Prop} : ∀ {n : Nat} {vs : List Value} {t : Tt}, TAt w K n vs t → TAt w K (n + 1) vs t
  | 0, _, _, h => h.elim
  | n + 1, vs, t, ⟨u, v, h1, h2, h3, h5, h4⟩ => ⟨u, v, h1, h2, h3, h5, h4.move (Keeps.refl _ _) (fun _ h => h) fun _ _ q => TAt.succ q⟩
theorem TAt.le {w : World} {K : Nat → Prop} {n m : Nat} {vs : List Value} {t : Tt} (h : TAt w K n vs t) (hm : n ≤ m) : TAt w K m vs t := by
  induction m with
  | zero => obtain rfl : n = 0 := by omega
            exact h
  | succ m ih =>
    by_cases he : n = m + 1
    · subst he; exact h
    · exact (ih (by omega)).succ
theorem TAtL.move {w w' : World} {K K' : Nat → Prop} {n : Nat} {v : Value} {l : List Tt} (h : TAtL w K n v l) (hk : Keeps K w w') (hK : ∀ b, K b → K' b) : TAtL w' K' n v l := TRow.move h hk hK fun _ _ q => TAt.move hk hK q
theorem TAtL.le {w : World} {K : Nat → Prop} {n m : Nat} {v : Value} {l : List Tt} (h : TAtL w K n v l) (hm : n ≤ m) : TAtL w K m v l := TRow.move h (Keeps.refl _ _) (fun _ h => h) fun _ _ q => TAt.le q hm
theorem TAtL.form {w : World} {K : Nat → Prop} {n : Nat} {v : Value} {l : List Tt} (h : TAtL w K n v l) : ∃ a c, v = .slice a l.length c ∧ l.length ≤ maxLen := by
  rcases h with ⟨b, o, c, rfl, -, -, hm, -⟩ | ⟨rfl, p, c, rfl⟩
  · exact ⟨_, _, rfl, hm⟩
  · exact ⟨_, _, rfl, Nat.zero_le _⟩
theorem TAt.open_ {w : World} {K : Nat → Prop} {n : Nat} {vs : List Value} {t : Tt} (h : TAt w K (n + 1) vs t) : ∃ u v, vs = [.int .i64 t.k, .int .i64 t.n, u, v] ∧ R64 t.k ∧ R64 t.n ∧ Sl w K u t.ls ∧ TAtL w K n v t.ks := h
theorem TAt.form {w : World} {K : Nat → Prop} {n : Nat} {vs : List Value} {t : Tt} (h : TAt w K n vs t) : ∃ a' c' a c, vs = [.int .i64 t.k, .int .i64 t.n, .slice a' t.ls.length c', .slice a t.ks.length c] := by
  cases n with
  | zero => exact h.elim
  | succ n =>
    obtain ⟨u, v, rfl, -, -, h5, h4⟩ := h
    obtain ⟨a, c, rfl, -⟩ := TAtL.form h4
    obtain ⟨a', c', rfl, -⟩ := h5.form
    exact ⟨a', c', a, c, rfl⟩
abbrev Any : Nat → Prop := fun _ => True
theorem TAt.any {w : World} {K : Nat → Prop} {n : Nat} {vs : List Value} {t : Tt} (h : TAt w K n vs t) : TAt w Any n vs t := h.move (Keeps.refl _ _) fun _ _ => trivial
theorem TAtL.any {w : World} {K : Nat → Prop} {n : Nat} {v : Value} {l : List Tt} (h : TAtL w K n v l) : TAtL w Any n v l := h.move (Keeps.refl _ _) fun _ _ => trivial
theorem Sl.below {w w' : World} {K : Nat → Prop} {v : Value} {l : List ByteArray} (h : Sl w K v l) (hb : Below w.heap.size w w') : Sl w' K v l := h.move (Keeps.of_below hb) fun _ h => h
theorem TAt.below {w w' : World} {K : Nat → Prop} {n : Nat} {vs : List Value} {t : Tt} (h : TAt w K n vs t) (hb : Below w.heap.size w w') : TAt w' K n vs t := h.move (Keeps.of_below hb) fun _ h => h
theorem TAtL.below {w w' : World} {K : Nat → Prop} {n : Nat} {v : Value} {l : List Tt} (h : TAtL w K n v l) (hb : Below w.heap.size w w') : TAtL w' K n v l := h.move (Keeps.of_below hb) fun _ h => h
theorem bl_alloc {w w1 : World} (h : Below w.heap.size w w1) (o : Obj) : Below w.heap.size w (w1.alloc o) := h.alloc h.size o
theorem bl_tr {w w1 w2 : World} (h : Below w.heap.size w w1) (h2 : Below w1.heap.size w1 w2) : Below w.heap.size w w2 := h.trans (h2.mono h.size)
theorem bl_drewN (w : World) (n : Nat) : Below w.heap.size w (w.drewN n) := by
  induction n with
  | zero => exact Below.refl _ _
  | succ k ih => exact ih.drew
theorem heap_alloc_at (w : World) (o : Obj) : (w.alloc o).heap[w.heap.size]? = some o := by
  show (w.heap.push o)[w.heap.size]? = some o
  rw [Array.getElem?_push_size]
theorem cell_at {w : World} {b : Nat} {cs : Array Value} {T : TypeId} {z : Nat × Nat} (h : w.heap[b]? = some (.cells cs T z)) (j : Nat) : w.cell? ⟨b, j, none⟩ = cs[j]? := by simp [World.cell?, h]
theorem size_alloc (w : World) (o : Obj) : (w.alloc o).heap.size = w.heap.size + 1 := by simp
/-- What blocks below a number abide. -/
theorem Keeps.lt {B : Nat} {w w' : World} (h : Below B w w') : Keeps (fun b => b < B) w w' := fun b o v hb hv => (h.cell (p := ⟨b, o, none⟩) hb).trans hv
theorem PAt.move {w w' : World} {K K' : Nat → Prop} {n b o : Nat} {t : Tt} (h : PAt w K n b o t) (hk : Keeps K w w') (hK : ∀ b, K b → K' b) : PAt w' K' n b o t := by
  obtain ⟨h0, vs, h1, h2⟩ := h
  exact ⟨hK b h0, vs, fun j v hv => hk b _ _ h0 (h1 j v hv), h2.move hk hK⟩
theorem PAt.le {w : World} {K : Nat → Prop} {n m b o : Nat} {t : Tt} (h : PAt w K n b o t) (hm : n ≤ m) : PAt w K m b o t := by
  obtain ⟨h0, vs, h1, h2⟩ := h
  exact ⟨h0, vs, h1, h2.le hm⟩
/-- What lies at the place. -/
theorem PAt.cells {w : World} {K : Nat → Prop} {n b o : Nat} {t : Tt} (h : PAt w K (n + 1) b o t) : ∃ a' c' a c, w.cell? ⟨b, o, none⟩ = some (.int .i64 t.k) ∧ w.cell? ⟨b, o + 1, none⟩ = some (.int .i64 t.n) ∧ w.cell? ⟨b, o + 2, none⟩ = some (.slice a' t.ls.length c') ∧ w.cell? ⟨b, o + 3, none⟩ = some (.slice a t.ks.length c) ∧ R64 t.k ∧ R64 t.n ∧ Sl w K (.slice a' t.ls.length c') t.ls ∧ TAtL w K n (.slice a t.ks.length c) t.ks := by
  obtain ⟨h0, vs, h1, u, v, rfl, h3, h4, h5, h6⟩ := h
  obtain ⟨a, c, rfl, -⟩ := TAtL.form h6
  obtain ⟨a', c', rfl, -⟩ := h5.form
  exact ⟨a', c', a, c, h1 0 _ rfl, h1 1 _ rfl, h1 2 _ rfl, h1 3 _ rfl, h3, h4, h5, h6⟩
theorem PAt.pos {w : World} {K : Nat → Prop} {n b o : Nat} {t : Tt} (h : PAt w K n b o t) : ∃ m, n = m + 1 := by
  cases n with
  | zero => obtain ⟨-, vs, -, h⟩ := h; exact h.elim
  | succ m => exact ⟨m, rfl⟩
theorem PAt.lt {w : World} {K : Nat → Prop} {n b o : Nat} {t : Tt} (h : PAt w K n b o t) : b < w.heap.size := by
  obtain ⟨m, rfl⟩ := h.pos
  obtain ⟨-, -, -, -, h1, -⟩ := h.cells
  exact World.block_lt_of_cell? w _ h1
/-- The i-th element of a slice of types: where it lies. -/
theorem TAtL.elem {w : World} {K : Nat → Prop} {n : Nat} {a : Option Addr} {c m : Nat} {l : List Tt} (h : TAtL w K n (.slice a m c) l) {i : Nat} {x : Tt} (hx : l[i]? = some x) : ∃ b o, a = some ⟨b, o, none⟩ ∧ PAt w K n b (o + i * 4) x := by
  rcases h with ⟨b', o', c', hv, hb, hl, hm, hc⟩ | ⟨rfl, -⟩
  · injection hv with e1 e2 e3
    obtain ⟨vs, h1, h2⟩ := hc i x hx
    exact ⟨b', o', e1, hb, vs, h1, h2⟩
  · simp at hx
theorem PAt.box {w : World} {K : Nat → Prop} {n : Nat} {vs : List Value} {t : Tt} (h : TAt w K n vs t) (T : TypeId) (hK : K w.heap.size) : PAt (w.alloc (.cells vs.toArray T)) K n w.heap.size 0 t := by
  refine ⟨hK, vs, fun j v hv => ?_, h.below (bl_alloc (Below.refl _ _) _)⟩
  rw [cell_at (heap_alloc_at _ _), Nat.zero_add]
  simpa using hv

/-- What a step leaves alone: every block but those of own; new ones may be its own. -/
structure Ev (own : Nat → Prop) (w : World) (own' : Nat → Prop) (w' : World) : Prop where
  os : w'.os = w.os
  tape : w'.tape = w.tape
  output : w'.output = w.output
  size : w.heap.size ≤ w'.heap.size
  mine : ∀ b, own' b → own b ∨ w.heap.size ≤ b
  block : ∀ b, b < w.heap.size → ¬ own b → w'.heap[b]? = w.heap[b]?
theorem Ev.refl (own : Nat → Prop) (w : World) : Ev own w own w := ⟨rfl, rfl, rfl, Nat.le_refl _, fun _ h => .inl h, fun _ _ _ => rfl⟩
theorem Ev.trans {o0 o1 o2 : Nat → Prop} {a b c : World} (h : Ev o0 a o1 b) (k : Ev o1 b o2 c) : Ev o0 a o2 c :=
  ⟨k.os.trans h.os, k.tape.trans h.tape, k.output.trans h.output, Nat.le_trans h.size k.size,
   fun x hx => (k.mine x hx).elim (h.mine x) (fun h2 => .inr (Nat.le_trans h.size h2)),
   fun x hx hn => (k.block x (Nat.lt_of_lt_of_le hx h.size) (fun h1 => (h.mine x h1).elim hn (fun h2 => by omega))).trans (h.block x hx hn)⟩
theorem Ev.of_below {own : Nat → Prop} {w w' : World} (h : Below w.heap.size w w') : Ev own w own w' := ⟨h.os, h.tape, h.output, h.size, fun _ h => .inl h, fun x hx _ => h.block x hx⟩
theorem Ev.alloc {own o1 : Nat → Prop} {w w1 : World} (h : Ev own w o1 w1) (o : Obj) : Ev own w o1 (w1.alloc o) := h.trans (Ev.of_below (bl_alloc (Below.refl _ _) o))
theorem Ev.drew {own o1 : Nat → Prop} {w w1 : World} (h : Ev own w o1 w1) : Ev own w o1 w1.drew := h.trans (Ev.of_below (Below.refl _ _).drew)
theorem Ev.below {own : Nat → Prop} {w w' : World} {own' : Nat → Prop} {B : Nat} (h : Ev own w own' w') (hB : B ≤ w.heap.size) (ho : ∀ b, own b → B ≤ b) : Below B w w' :=
  ⟨h.os, h.tape, h.output, h.size, fun k hk => h.block k (by omega) (fun hq => by have := ho k hq; omega)⟩
theorem Ev.cell {own : Nat → Prop} {w w' : World} {own' : Nat → Prop} (h : Ev own w own' w') {p : Addr} (hp : p.block < w.heap.size) (hn : ¬ own p.block) : w'.cell? p = w.cell? p := World.cell?_of_block (w := w) (h.block p.block hp hn)
/-- The blocks that w has and that are not in own. -/
def Free (own : Nat → Prop) (w : World) : Nat → Prop := fun b => b < w.heap.size ∧ ¬ own b
theorem Ev.keeps {own : Nat → Prop} {w w' : World} {own' : Nat → Prop} (h : Ev own w own' w') : Keeps (Free own w) w w' := fun b o v hb hv => (h.cell (p := ⟨b, o, none⟩) hb.1 hb.2).trans hv

theorem Sl.old {w : World} {K : Nat → Prop} {v : Value} {l : List ByteArray} (h : Sl w K v l) : Sl w (fun b => K b ∧ b < w.heap.size) v l := by
  rcases h with ⟨b, o, c, hv, hb, hl, hm, hc⟩ | h
  · cases l with
    | nil => exact .inr ⟨rfl, _, _, hv⟩
    | cons s r => exact .inl ⟨b, o, c, hv, ⟨hb, World.block_lt_of_cell? w _ (hc 0 s rfl)⟩, hl, hm, hc⟩
  · exact .inr h
theorem TAt.old {w : World} {K : Nat → Prop} : ∀ {n : Nat} {vs : List Value} {t : Tt}, TAt w K n vs t → TAt w (fun b => K b ∧ b < w.heap.size) n vs t
  | 0, _, _, h => h
  | n + 1, vs, t, ⟨u, v, h1, h2, h3, h5, h4⟩ => by
    refine ⟨u, v, h1, h2, h3, h5.old, ?_⟩
    rcases h4 with ⟨b, o, c, hv, hb, hl, hm, hc⟩ | h4
    · cases hks : t.ks with
      | nil => exact .inr ⟨rfl, _, _, by rw [hv, hks]; rfl⟩
      | cons x r =>
        rw [hks] at hv hl hm hc
        refine .inl ⟨b, o, c, hv, ⟨hb, ?_⟩, hl, hm, fun i y hy => ?_⟩
        · obtain ⟨vs', g1, g2⟩ := hc 0 x rfl
          obtain ⟨a', c', a, c2, rfl⟩ := g2.form
          exact World.block_lt_of_cell? w _ (g1 0 _ rfl)
        · obtain ⟨vs', g1, g2⟩ := hc i y hy
          exact ⟨vs', g1, TAt.old g2⟩
    · exact .inr h4
end Go.Proofs.Ytigliglmejkakab.Tgt

namespace Go.Proofs.Ytigliglmejkakab
open Go.RowKit
set_option linter.unusedVariables false
set_option linter.unusedSimpArgs false

theorem info_tt : (Try.prog.info? 32).map (fun i => (i.zero, i.size, i.bytes)) = some (some (.agg #[.int .i64 0, .int .i64 0, .slice none 0 0, .slice none 0 0]), 4, 64) := by kernel_rfl
/-- The node's box OB and the row of its Kids, which lies in blocks from base on. -/
structure Kd (OB base : Nat) (kk nn : Int) (ys : List Tgt.Tt) (N : Nat) (ov : Value) (xs : List Value) (wr : World) : Prop where
  lo : OB < base
  le : base ≤ wr.heap.size
  ob : Arr wr OB 32 [.int .i64 kk, .int .i64 nn, .slice none 0 0, ov]
  own : wr.ownsRow base 32 4 ov ys.length xs
  el : ∀ (i : Nat) y, ys[i]? = some y → ∃ a' c' a c, Tgt.TAt wr (fun b => base ≤ b ∧ ov.ownBlock ≠ some b) N [.int .i64 y.k, .int .i64 y.n, .slice a' y.ls.length c', .slice a y.ks.length c] y ∧ Seg xs (i * 4) [.int .i64 y.k, .int .i64 y.n, .slice a' y.ls.length c', .slice a y.ks.length c]
theorem Kd.stays {OB base : Nat} {kk nn : Int} {ys : List Tgt.Tt} {N : Nat} {ov : Value} {xs : List Value} {wr wz : World} (h : Kd OB base kk nn ys N ov xs wr) (hb : Below wr.heap.size wr wz) : Kd OB base kk nn ys N ov xs wz :=
  ⟨h.lo, Nat.le_trans h.le hb.size, h.ob.stays hb, own_stays h.own hb, fun i y hy => by obtain ⟨a', c', a, c, h1, h2⟩ := h.el i y hy; exact ⟨a', c', a, c, h1.below hb, h2⟩⟩
theorem Kd.start {w : World} (kk nn : Int) {cs : List Value} (hcs : cs = [.int .i64 kk, .int .i64 nn, .slice none 0 0, .slice none 0 0]) : Kd w.heap.size (w.heap.size + 1) kk nn [] 0 (.slice none 0 0) [] (w.alloc (.cells cs.toArray 32)) := by
  subst hcs
  exact ⟨Nat.lt_succ_self _, by rw [size_alloc]; exact Nat.le_refl _, ⟨heap_alloc_at _ _⟩, World.ownsRow_nil _ _ _ _, fun i y hy => by simp at hy⟩
theorem Kd.row {OB base : Nat} {kk nn : Int} {ys : List Tgt.Tt} {N : Nat} {ov : Value} {xs : List Value} {wr : World} (h : Kd OB base kk nn ys N ov xs wr) : ∀ b, ov.ownBlock = some b → base ≤ b := fun b hb => (h.own.lt b hb).1
theorem Tgt_both {w : World} {K : Nat → Prop} {n : Nat} {vs : List Value} {t : Tgt.Tt} (h : Tgt.TAt w K n vs t) : Tgt.TAt w (fun b => K b ∧ b < w.heap.size) n vs t := h.old
/-- One more. -/
theorem Kd.app {OB base : Nat} {kk nn : Int} {ys : List Tgt.Tt} {N : Nat} {ov v' : Value} {xs : List Value} {w1 w2 : World} (h : Kd OB base kk nn ys N ov xs w1) {y : Tgt.Tt} {n' : Nat} {a' a : Option Addr} {c' c : Nat}
    (hT : Tgt.TAt w1 (fun b => base ≤ b ∧ ov.ownBlock ≠ some b) n' [.int .i64 y.k, .int .i64 y.n, .slice a' y.ls.length c', .slice a y.ks.length c] y)
    (hown : w2.ownsRow base 32 4 v' (ys.length + 1) (xs ++ [.int .i64 y.k, .int .i64 y.n, .slice a' y.ls.length c', .slice a y.ks.length c])) (hg : w1.grownBy w2 ov.ownBlock) (hf : Fresh w1 ov v') :
    Kd OB base kk nn (ys ++ [y]) (max N n') v' (xs ++ [.int .i64 y.k, .int .i64 y.n, .slice a' y.ls.length c', .slice a y.ks.length c]) (w2.setCell ⟨OB, 3, none⟩ v') := by
  have hlo := h.lo
  have hrow := h.row
  have hrow' : ∀ b, v'.ownBlock = some b → base ≤ b := fun b hb => (hown.lt b hb).1
  have mv : ∀ {n0 : Nat} {vs : List Value} {z : Tgt.Tt}, Tgt.TAt w1 (fun b => base ≤ b ∧ ov.ownBlock ≠ some b) n0 vs z → Tgt.TAt (w2.setCell ⟨OB, 3, none⟩ v') (fun b => base ≤ b ∧ v'.ownBlock ≠ some b) n0 vs z := by
    intro n0 vs z hz
    refine hz.old.move (fun b o u hb hu => ?_) (fun b hb => ⟨hb.1.1, fun e => ?_⟩)
    · have hb1 := hb.1.1
      rw [World.cell?_of_block (w := w2) (Below.heap_setCell _ _ _ _ (by show b ≠ OB; omega)), World.cell?_of_block (w := w1) (hg.block b hb.2 (fun e => hb.1.2 e.symm))]
      exact hu
    · rcases hf with h1 | h1
      · exact hb.1.2 (by rw [← h1]; exact e)
      · have := h1 b e; have := hb.2; omega
  have hxl : xs.length = ys.length * 4 := h.own.1
  refine ⟨h.lo, by have := hg.size; have := h.le; simp [World.setCell]; omega, (h.ob.grown hg (fun e => by have := hrow _ e.symm; omega)).set 3 _, ?_, fun i z hz => ?_⟩
  · rw [List.length_append]
    exact hown.kept (row := some OB) ⟨rfl, rfl, rfl, by simp [World.setCell], fun b _ hb => Below.heap_setCell _ _ _ _ (fun e => hb (by simp [e]))⟩ (Or.inr (fun e => by have := hrow' _ e; omega))
  · by_cases he : i = ys.length
    · subst he
      rw [List.getElem?_append_right (Nat.le_refl _)] at hz
      simp at hz
      subst hz
      refine ⟨a', c', a, c, (mv hT).le (Nat.le_max_right _ _), fun j u hu => ?_⟩
      rw [List.getElem?_append_right (by omega), hxl]
      rw [show ys.length * 4 + j - ys.length * 4 = j by omega]
      exact hu
    · have hi : i < ys.length := by
        have := (List.getElem?_eq_some_iff.1 hz).1
        rw [List.length_append] at this
        simp at this
        omega
      rw [List.getElem?_append_left hi] at hz
      obtain ⟨a1, c1, a2, c2, g1, g2⟩ := h.el i z hz
      refine ⟨a1, c1, a2, c2, (mv g1).le (Nat.le_max_left _ _), fun j u hu => ?_⟩
      have hj := (List.getElem?_eq_some_iff.1 hu).1
      simp only [List.length_cons, List.length_nil] at hj
      rw [List.getElem?_append_left (by omega)]
      exact g2 j u hu
/-- Other boxes stay. -/
theorem Kd.other {OB base : Nat} {kk nn : Int} {ys : List Tgt.Tt} {N : Nat} {ov v' : Value} {xs : List Value} {w1 w2 : World} (h : Kd OB base kk nn ys N ov xs w1) (hg : w1.grownBy w2 ov.ownBlock) {b : Nat} {T : TypeId} {cur : List Value} (hA : Arr w1 b T cur) (hb : b < base) (hne : b ≠ OB) : Arr (w2.setCell ⟨OB, 3, none⟩ v') b T cur :=
  (hA.grown hg (fun e => by have := h.row _ e.symm; omega)).other hne _
theorem Kd.mid {OB base : Nat} {kk nn : Int} {ys : List Tgt.Tt} {N : Nat} {ov : Value} {xs : List Value} {w1 w2 : World} (h : Kd OB base kk nn ys N ov xs w1) (hg : w1.grownBy w2 ov.ownBlock) : Arr w2 OB 32 [.int .i64 kk, .int .i64 nn, .slice none 0 0, ov] ∧ ∀ {b : Nat} {T : TypeId} {cur : List Value}, Arr w1 b T cur → b < base → Arr w2 b T cur :=
  ⟨h.ob.grown hg (fun e => by have := h.row _ e.symm; have := h.lo; omega), fun hA hb => hA.grown hg (fun e => by have := h.row _ e.symm; omega)⟩
theorem Kd.below {OB base B : Nat} {kk nn : Int} {ys : List Tgt.Tt} {N : Nat} {ov v' : Value} {xs : List Value} {w w1 w2 : World} (h : Kd OB base kk nn ys N ov xs w1) (hg : w1.grownBy w2 ov.ownBlock) (hB : B ≤ OB) (hb : Below B w w1) : Below B w (w2.setCell ⟨OB, 3, none⟩ v') :=
  ((hb.grown hg (by have := h.le; have := h.lo; omega) (fun b e => by have := h.row _ e; have := h.lo; omega))).setCell (p := ⟨OB, 3, none⟩) hB _
theorem Kd.fin {OB base : Nat} {kk nn : Int} {ys : List Tgt.Tt} {N : Nat} {ov : Value} {xs : List Value} {wr W : World} (h : Kd OB base kk nn ys N ov xs wr) (hk : Tgt.Keeps (fun b => base ≤ b) wr W) (h1 : Tgt.R64 kk) (h2 : Tgt.R64 nn) (hl : ys.length ≤ 1099511627776) : Tgt.TAt W (fun b => base ≤ b) (N + 1) [.int .i64 kk, .int .i64 nn, .slice none 0 0, ov] (.mk kk nn [] ys) := by
  refine ⟨.slice none 0 0, ov, rfl, h1, h2, .inr ⟨rfl, none, 0, rfl⟩, ?_⟩
  show Tgt.TAtL W _ N ov ys
  rcases h.own.2 with ⟨rfl, h0⟩ | ⟨g, cap, cur, rfl, hb, hh, hle, hcm, hsz, htk⟩
  · exact .inr ⟨List.eq_nil_of_length_eq_zero h0, none, 0, rfl⟩
  · refine .inl ⟨g, 0, cap, rfl, hb, hle, by unfold maxLen; omega, fun i y hy => ?_⟩
    obtain ⟨a', c', a, c, g1, g2⟩ := h.el i y hy
    refine ⟨_, fun j u hu => hk g _ _ hb ?_, g1.move (fun b o u hb hu => hk b o u hb.1 hu) (fun b hb => hb.1)⟩
    have hq := g2 j u hu
    rw [← htk, List.getElem?_take] at hq
    split at hq
    · rw [cell_at hh, Nat.zero_add]
      rw [Array.getElem?_toList] at hq
      exact hq
    · cases hq
theorem Kd.kp {OB base : Nat} {kk nn : Int} {ys : List Tgt.Tt} {N : Nat} {ov : Value} {xs : List Value} {w1 w3 : World} (h : Kd OB base kk nn ys N ov xs w1) {n : Nat} {vs : List Value} {y : Tgt.Tt} (hT : Tgt.TAt w3 (fun b => w1.heap.size ≤ b) n vs y) : Tgt.TAt w3 (fun b => base ≤ b ∧ ov.ownBlock ≠ some b) n vs y :=
  hT.move (Tgt.Keeps.refl _ _) (fun b hb => ⟨Nat.le_trans h.le hb, fun e => by have := (h.own.lt b e).2; omega⟩)
theorem Kd.app4 {OB base : Nat} {kk nn : Int} {ys : List Tgt.Tt} {N : Nat} {ov v' : Value} {xs : List Value} {w1 w2 : World} (h : Kd OB base kk nn ys N ov xs w1) {y : Tgt.Tt} (hls : y.ls = []) {n' : Nat} {a : Option Addr} {c : Nat}
    (hT : Tgt.TAt w1 (fun b => base ≤ b ∧ ov.ownBlock ≠ some b) n' [.int .i64 y.k, .int .i64 y.n, .slice none 0 0, .slice a y.ks.length c] y)
    (hown : w2.ownsRow base 32 4 v' (ys.length + 1) (xs ++ [.int .i64 y.k, .int .i64 y.n, .slice none 0 0, .slice a y.ks.length c])) (hg : w1.grownBy w2 ov.ownBlock) (hf : Fresh w1 ov v') :
    Kd OB base kk nn (ys ++ [y]) (max N n') v' (xs ++ [.int .i64 y.k, .int .i64 y.n, .slice none 0 0, .slice a y.ks.length c]) (w2.setCell ⟨OB, 3, none⟩ v') := by
  have hl : y.ls.length = 0 := by rw [hls]; rfl
  have := h.app (y := y) (a' := none) (c' := 0) (by rw [hl]; exact hT) (by rw [hl]; exact hown) hg hf
  rw [hl] at this
  exact this
theorem Kd.bg {OB base B : Nat} {kk nn : Int} {ys : List Tgt.Tt} {N : Nat} {ov : Value} {xs : List Value} {w w1 w2 : World} (h : Kd OB base kk nn ys N ov xs w1) (hg : w1.grownBy w2 ov.ownBlock) (hB : B ≤ base) (hb : Below B w w1) : Below B w w2 :=
  hb.grown hg (by have := h.le; omega) (fun b e => by have := h.row _ e; omega)
theorem addr_add14 (b o k : Nat) : (⟨b, o, none⟩ : Addr).add k = ⟨b, o + k, none⟩ := by simp [Addr.add]
end Go.Proofs.Ytigliglmejkakab

namespace Go.Proofs.Ytigliglmejkakab
open Go.RowKit
set_option linter.unusedVariables false
set_option linter.unusedSimpArgs false

theorem hid {p : Prop} (h : p) : Hid p := h
/-- Do the numbers rise by one from i on? -/
def Tp.ups : List Int → Nat → Bool
  | [], _ => true
  | x :: r, i => decide (x = i) && Tp.ups r (i + 1)
/-- Is the scheme right? -/
def Tp.rightS (g : Int) (t : Tp) : Bool := t.right && (Tp.ups (Tp.found 8 t []) 0 && decide (((Tp.found 8 t []).length : Int) = g))
theorem Tp.ups_at {l : List Int} {k : Nat} {x : Int} (hx : l[k]? = some x) : Tp.ups (l.drop k) k = (decide (x = k) && Tp.ups (l.drop (k + 1)) (k + 1)) := by
  obtain ⟨h1, e1⟩ := List.getElem?_eq_some_iff.1 hx
  rw [List.drop_eq_getElem_cons h1, e1, Tp.ups]
mutual
/-- Each node's kind and number made anew. -/
def Tp.ren (f : Int → Int → Int × Int) : Tp → Tp
  | .mk k n ks => .mk (f k n).1 (f k n).2 (Tp.renL f ks)
def Tp.renL (f : Int → Int → Int × Int) : List Tp → List Tp
  | [] => []
  | x :: r => Tp.ren f x :: Tp.renL f r
end
theorem Tp.renL_map (f : Int → Int → Int × Int) : ∀ l : List Tp, Tp.renL f l = l.map (Tp.ren f)
  | [] => by rw [Tp.renL]; rfl
  | x :: r => by rw [Tp.renL, Tp.renL_map f r]; rfl
theorem Tp.ren_eq (f : Int → Int → Int × Int) (t : Tp) : Tp.ren f t = .mk (f t.k t.n).1 (f t.k t.n).2 (t.ks.map (Tp.ren f)) := by
  obtain ⟨k, n, ks⟩ := t
  rw [Tp.ren, Tp.renL_map]; rfl
mutual
theorem Tp.cnt_ren (f : Int → Int → Int × Int) : ∀ t : Tp, (Tp.ren f t).cnt = t.cnt
  | .mk k n ks => by rw [Tp.ren, Tp.cnt, Tp.cnt, Tp.cntL_ren f ks]
theorem Tp.cntL_ren (f : Int → Int → Int × Int) : ∀ l : List Tp, Tp.cntL (Tp.renL f l) = Tp.cntL l
  | [] => by rw [Tp.renL]
  | x :: r => by rw [Tp.renL, Tp.cntL, Tp.cntL, Tp.cnt_ren f x, Tp.cntL_ren f r]
end
end Go.Proofs.Ytigliglmejkakab
