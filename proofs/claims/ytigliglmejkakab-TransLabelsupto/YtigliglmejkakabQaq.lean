/- Two side by side: texts; a number; the mathematics of being one. The twin's state. The gatherer's state; the mathematics of what stands free. Putting in: mathematics; the putter's state. The number that a binder is given. A row of types that is written anew; Clone. An element of a list of types; the document's binds. -/
import Derived.Test.YtigliglmejkakabQap
namespace Go.Proofs.Ytigliglmejkakab.Tgt
open Go.RowKit
set_option linter.unusedVariables false
set_option linter.unusedSimpArgs false

def Tt.eqS (a b : ByteArray) : Bool := a.toList == b.toList
def Tt.eqLs : List ByteArray → List ByteArray → Bool
  | [], [] => true
  | a :: r, b :: r' => Tt.eqS a b && Tt.eqLs r r'
  | _, _ => false
theorem Tt.eqLs_len : ∀ {l l' : List ByteArray}, l.length ≠ l'.length → Tt.eqLs l l' = false
  | [], [], h => absurd rfl h
  | [], _ :: _, _ => rfl
  | _ :: _, [], _ => rfl
  | a :: r, b :: r', h => by rw [Tt.eqLs, Tt.eqLs_len (l := r) (l' := r') (by simpa using h), Bool.and_false]
theorem Tt.eqLs_at {l l' : List ByteArray} {k : Nat} {x y : ByteArray} (hx : l[k]? = some x) (hy : l'[k]? = some y) : Tt.eqLs (l.drop k) (l'.drop k) = (Tt.eqS x y && Tt.eqLs (l.drop (k + 1)) (l'.drop (k + 1))) := by
  obtain ⟨h1, rfl⟩ := List.getElem?_eq_some_iff.1 hx
  obtain ⟨h2, rfl⟩ := List.getElem?_eq_some_iff.1 hy
  rw [List.drop_eq_getElem_cons h1, List.drop_eq_getElem_cons h2, Tt.eqLs]
theorem neq_str (a b : ByteArray) : binOp .neq 9 (.string a) (.string b) = pure (.bool !(Tt.eqS a b)) := by
  simp [binOp, Op.stringOp, Tt.eqS, beq_toListBytes]

/-- Two keys: bound by binders at one place, or both free and the same. -/
def Tt.one (e1 e2 : List (Int × Int)) (x y : Int) : Bool := match lk e1 x, lk e2 y with
  | none, none => x == y
  | some a, some b => a == b
  | _, _ => false
def Tt.num (e1 e2 : List (Int × Int)) (a b : Tt) : Bool := if a.binds then true else if a.k = 6 then Tt.one e1 e2 a.n b.n else a.n == b.n
/-- Are the nodes alike, but for their parts? -/
def Tt.alike (e1 e2 : List (Int × Int)) (a b : Tt) : Bool := a.k == b.k && ((a.ks.length : Int) == b.ks.length && (Tt.eqLs a.ls b.ls && Tt.num e1 e2 a b))
mutual
/-- One up to what is bound. -/
def Tt.same : Tt → Tt → List (Int × Int) → List (Int × Int) → Bool
  | .mk k n ls ks, .mk k' n' ls' ks' => fun e1 e2 => Tt.alike e1 e2 (.mk k n ls ks) (.mk k' n' ls' ks') && Tt.sameL ks ks' ((Tt.mk k n ls ks).env e1) ((Tt.mk k' n' ls' ks').env e2)
def Tt.sameL : List Tt → List Tt → List (Int × Int) → List (Int × Int) → Bool
  | [], [] => fun _ _ => true
  | x :: r, y :: r' => fun e1 e2 => Tt.same x y e1 e2 && Tt.sameL r r' e1 e2
  | _, _ => fun _ _ => false
end
theorem Tt.same_mk (a b : Tt) (e1 e2 : List (Int × Int)) : Tt.same a b e1 e2 = (Tt.alike e1 e2 a b && Tt.sameL a.ks b.ks (a.env e1) (b.env e2)) := by cases a; cases b; rw [Tt.same]; rfl
theorem Tt.sameL_at {l l' : List Tt} {k : Nat} {x y : Tt} (hx : l[k]? = some x) (hy : l'[k]? = some y) (e1 e2 : List (Int × Int)) : Tt.sameL (l.drop k) (l'.drop k) e1 e2 = (Tt.same x y e1 e2 && Tt.sameL (l.drop (k + 1)) (l'.drop (k + 1)) e1 e2) := by
  rw [Tt.drop_at hx, Tt.drop_at hy, Tt.sameL]
theorem Tt.sameL_len (e1 e2 : List (Int × Int)) : ∀ {l l' : List Tt}, l.length ≠ l'.length → Tt.sameL l l' e1 e2 = false
  | [], [], h => absurd rfl h
  | [], _ :: _, _ => by rw [Tt.sameL]; all_goals simp
  | _ :: _, [], _ => by rw [Tt.sameL]; all_goals simp
  | a :: r, b :: r', h => by rw [Tt.sameL]; show (_ && Tt.sameL r r' e1 e2) = false; rw [Tt.sameL_len e1 e2 (l := r) (l' := r') (by simpa using h), Bool.and_false]

end Go.Proofs.Ytigliglmejkakab.Tgt

namespace Go.Proofs.Ytigliglmejkakab.Tgt
open Go.RowKit
set_option linter.unusedVariables false
set_option linter.unusedSimpArgs false

theorem Ev.lt {own own' : Nat → Prop} {w w' : World} {M : Nat} (h : Ev own w own' w') (ho : ∀ b, own b → M ≤ b) : Keeps (fun b => b < M) w w' := fun b o v hb hv => (h.cell (p := ⟨b, o, none⟩) (World.block_lt_of_cell? w _ hv) (fun hq => by have := ho b hq; omega)).trans hv
theorem env_len (t : Tt) (e : List (Int × Int)) : e.length ≤ (t.env e).length ∧ (t.env e).length ≤ e.length + 1 ∧ (t.env e).drop ((t.env e).length - e.length) = e := by
  unfold Tt.env
  split
  · refine ⟨by simp, by simp, ?_⟩
    rw [List.length_cons, show e.length + 1 - e.length = 1 by omega]; rfl
  · simp
/-- A box that a walk has made, beside what it owns. -/
structure Bx (n0 : Nat) (w : World) (own : Nat → Prop) (p : Nat) (T : TypeId) (vs : List Value) : Prop where
  arr : Arr w p T vs
  no : ¬ own p
  ge : n0 ≤ p
theorem Bx.stays {n0 : Nat} {w w' : World} {own : Nat → Prop} {p : Nat} {T : TypeId} {vs : List Value} (h : Bx n0 w own p T vs) (hb : Below w.heap.size w w') : Bx n0 w' own p T vs := ⟨h.arr.stays hb, h.no, h.ge⟩
theorem Bx.ev {n0 : Nat} {w w' : World} {own own' : Nat → Prop} {p : Nat} {T : TypeId} {vs : List Value} (h : Bx n0 w own p T vs) (hev : Ev own w own' w') : Bx n0 w' own' p T vs := ⟨⟨(hev.block p h.arr.lt h.no).trans h.arr.b⟩, fun hq => (hev.mine p hq).elim h.no (fun hl => by have := h.arr.lt; omega), h.ge⟩
theorem Bx.new {n0 : Nat} {w : World} {own : Nat → Prop} (T : TypeId) (vs : List Value) (ho : ∀ b, own b → b < w.heap.size) (hn : n0 ≤ w.heap.size) : Bx n0 (w.alloc (.cells vs.toArray T)) own w.heap.size T vs := ⟨⟨heap_alloc_at _ _⟩, fun h => by have := ho _ h; omega, hn⟩
theorem Bx.set {n0 : Nat} {w : World} {own : Nat → Prop} {p : Nat} {T : TypeId} {vs : List Value} (h : Bx n0 w own p T vs) (j : Nat) (v : Value) : Bx n0 (w.setCell ⟨p, j, none⟩ v) own p T (vs.set j v) := ⟨h.arr.set j v, h.no, h.ge⟩
theorem Bx.other {n0 : Nat} {w : World} {own : Nat → Prop} {p : Nat} {T : TypeId} {vs : List Value} (h : Bx n0 w own p T vs) {a : Addr} (ha : p ≠ a.block) (v : Value) : Bx n0 (w.setCell a v) own p T vs := ⟨h.arr.other ha v, h.no, h.ge⟩
end Go.Proofs.Ytigliglmejkakab.Tgt

namespace Go.Proofs.Ytigliglmejkakab.Tgt
open Go.RowKit
set_option linter.unusedVariables false
set_option linter.unusedSimpArgs false

abbrev SM : TypeId := 127
theorem zero_unit (w : World) : (zeroValue 130).run Try.prog w = .ok (.agg #[]) w := by kernel_rfl
/-- Block C is a set of numbers. -/
def SetIs (w : World) (C n : Nat) (S : Int → Bool) : Prop := ∃ D : DataW Unit, w.ownsMap Try.prog 3 unitElem C n D ∧ Maps.IsMap D ∧ ∀ x : Int, Maps.has D (.int .i64 x) = S x
theorem SetIs.lt {w : World} {C n : Nat} {S : Int → Bool} (h : SetIs w C n S) : C < w.heap.size := by obtain ⟨D, h1, -⟩ := h; exact h1.lt
theorem SetIs.le {w : World} {C n m : Nat} {S : Int → Bool} (h : SetIs w C n S) (hn : n ≤ m) : SetIs w C m S := by obtain ⟨D, h1, h2⟩ := h; exact ⟨D, h1.mono hn, h2⟩
theorem SetIs.block {w w' : World} {C n : Nat} {S : Int → Bool} (h : SetIs w C n S) (hb : w'.heap[C]? = w.heap[C]?) : SetIs w' C n S := by
  obtain ⟨D, ⟨es, cl, h1, h3⟩, h2⟩ := h
  exact ⟨D, ⟨es, cl, hb.trans h1, h3⟩, h2⟩
theorem SetIs.look {w : World} {C n : Nat} {S : Int → Bool} (h : SetIs w C n S) (x : Int) (hx : R64 x) : (Instr.lookup SM (.map (some C)) (.int .i64 x) true).run Try.prog w = .ok (.tuple #[.agg #[], .bool (S x)]) w := by
  obtain ⟨D, h1, h2, h3⟩ := h
  obtain ⟨v, ps, hr, hv⟩ := h1.look_ok int_key Try.underlying127 (zero_unit w) unitElem_mk (Maps.keyOf_int_mk Try.underlying3 (wf_of hx))
  obtain ⟨rfl, -⟩ := unitElem_inv hv
  rw [hr, h3]
theorem SetIs.put {w : World} {C n : Nat} {S : Int → Bool} (h : SetIs w C n S) (x : Int) (hx : R64 x) (hn : n < maxLen) : ∃ w', (Instr.mapUpdate SM (.map (some C)) (.int .i64 x) (.agg #[])).run Try.prog w = .ok () w' ∧ SetIs w' C (n + 1) (fun y => S y || y == x) ∧ w.grownBy w' (some C) := by
  obtain ⟨D, h1, h2, h3⟩ := h
  obtain ⟨w', hr, h4, h5⟩ := h1.store int_key Try.underlying127 hn (Maps.keyOf_int_mk Try.underlying3 (wf_of hx)) unitElem_mk
  refine ⟨w', hr, ⟨_, h4, h4.isMap, fun y => ?_⟩, h5.grown⟩
  by_cases e : y = x
  · subst e
    rw [Maps.has_put_same h2 (keylit y)]
    simp
  · rw [Maps.has_put_other (fun h => e (by injection h)), h3]
    simp [e]
theorem set_new (w : World) : SetIs (w.alloc (.map #[] 0)) w.heap.size 0 (fun _ => false) := ⟨_, World.ownsMap_made w _ _ _, ⟨_, rfl⟩, fun x => by simp [Maps.has]⟩
mutual
/-- Does the number stand free? -/
def Tt.fv : Tt → List (Int × Int) → Int → Bool
  | .mk k n ls ks => fun e x => (k == 6 && (n == x && (lk e x).isNone)) || Tt.fvL ks ((Tt.mk k n ls ks).env e) x
def Tt.fvL : List Tt → List (Int × Int) → Int → Bool
  | [] => fun _ _ => false
  | t :: r => fun e x => Tt.fv t e x || Tt.fvL r e x
end
mutual
/-- Does the number stand there, free or bound, or does it bind? -/
def Tt.av : Tt → Int → Bool
  | .mk k n ls ks => fun x => ((k == 6 || (Tt.mk k n ls ks).binds) && n == x) || Tt.avL ks x
def Tt.avL : List Tt → Int → Bool
  | [] => fun _ => false
  | t :: r => fun x => Tt.av t x || Tt.avL r x
end
theorem Tt.fv_mk (t : Tt) (e : List (Int × Int)) (x : Int) : t.fv e x = ((t.k == 6 && (t.n == x && (lk e x).isNone)) || Tt.fvL t.ks (t.env e) x) := by cases t; rw [Tt.fv]; rfl
theorem Tt.av_mk (t : Tt) (x : Int) : t.av x = (((t.k == 6 || t.binds) && t.n == x) || Tt.avL t.ks x) := by cases t; rw [Tt.av]; rfl
theorem Tt.fvL_drop {l : List Tt} {k : Nat} {t : Tt} (ht : l[k]? = some t) (e : List (Int × Int)) (x : Int) : Tt.fvL (l.drop k) e x = (t.fv e x || Tt.fvL (l.drop (k + 1)) e x) := by rw [Tt.drop_at ht, Tt.fvL]
theorem Tt.avL_drop {l : List Tt} {k : Nat} {t : Tt} (ht : l[k]? = some t) (x : Int) : Tt.avL (l.drop k) x = (t.av x || Tt.avL (l.drop (k + 1)) x) := by rw [Tt.drop_at ht, Tt.avL]
theorem set_ev {w w' : World} {own : Nat → Prop} {C : Nat} (hg : w.grownBy w' (some C)) (hC : own C) : Ev own w own w' := ⟨hg.os, hg.tape, hg.output, hg.size, fun _ h => .inl h, fun b hb hn => hg.block b hb (fun e => hn ((Option.some.inj e) ▸ hC))⟩
end Go.Proofs.Ytigliglmejkakab.Tgt

namespace Go.Proofs.Ytigliglmejkakab.Tgt
open Go.RowKit
set_option linter.unusedVariables false
set_option linter.unusedSimpArgs false

/-- How many numbers of a list are no less. -/
def from_ (l : List Int) (m : Int) : Nat := (l.filter (fun x => decide (m ≤ x))).length
theorem from_mono (l : List Int) (m : Int) : from_ l (m + 1) ≤ from_ l m := by
  unfold from_
  rw [← List.countP_eq_length_filter, ← List.countP_eq_length_filter]
  exact List.countP_mono_left (fun x _ hx => by simp only [decide_eq_true_eq] at hx ⊢; omega)
theorem from_step {l : List Int} {m : Int} (h : m ∈ l) : from_ l (m + 1) + 1 ≤ from_ l m := by
  unfold from_
  induction l with
  | nil => cases h
  | cons a r ih =>
    rw [List.filter_cons, List.filter_cons]
    rcases List.mem_cons.1 h with rfl | h
    · have h1 : decide (m ≤ m) = true := by simp
      have h2 : decide (m + 1 ≤ m) = false := decide_eq_false (by omega)
      rw [if_pos h1, if_neg (by rw [h2]; simp), List.length_cons]
      have : (r.filter (fun x => decide (m + 1 ≤ x))).length ≤ (r.filter (fun x => decide (m ≤ x))).length := from_mono r m
      omega
    · have := ih h
      by_cases h1 : m + 1 ≤ a
      · have h2 : m ≤ a := by omega
        simp only [decide_eq_true h1, decide_eq_true h2, if_true, List.length_cons]
        omega
      · by_cases h2 : m ≤ a
        · simp only [decide_eq_false h1, decide_eq_true h2, if_true, List.length_cons]
          simp
          omega
        · simp only [decide_eq_false h1, decide_eq_false h2]
          simpa using this
theorem from_le (l : List Int) (m : Int) : from_ l m ≤ l.length := List.length_filter_le _ _
/-- The first number from m on that is not in the list. -/
def fresh (l : List Int) : Nat → Int → Int
  | 0, m => m
  | f + 1, m => if m ∈ l then fresh l f (m + 1) else m
theorem fresh_not (l : List Int) : ∀ (f : Nat) (m : Int), from_ l m ≤ f → fresh l f m ∉ l
  | 0, m, h => by
    rw [fresh]
    intro hm
    have := from_step hm
    omega
  | f + 1, m, h => by
    rw [fresh]
    split
    · rename_i hm
      have := from_step hm
      exact fresh_not l f (m + 1) (by omega)
    · rename_i hm; exact hm
theorem fresh_more (l : List Int) : ∀ (f g : Nat) (m : Int), from_ l m ≤ f → from_ l m ≤ g → fresh l f m = fresh l g m
  | 0, 0, m, _, _ => rfl
  | 0, g + 1, m, h, _ => by
    rw [fresh, fresh, if_neg (fun hm => by have := from_step hm; omega)]
  | f + 1, 0, m, _, h => by
    rw [fresh, fresh, if_neg (fun hm => by have := from_step hm; omega)]
  | f + 1, g + 1, m, h1, h2 => by
    rw [fresh, fresh]
    split
    · rename_i hm
      have := from_step hm
      exact fresh_more l f g (m + 1) (by omega) (by omega)
    · rfl
theorem fresh_ge (l : List Int) : ∀ (f : Nat) (m : Int), m ≤ fresh l f m ∧ fresh l f m ≤ m + f
  | 0, m => by rw [fresh]; omega
  | f + 1, m => by
    rw [fresh]
    split
    · have := fresh_ge l f (m + 1); omega
    · omega
/-- The number that a binder is given, and the next one. -/
def give (C : Int → Bool) (l : List Int) (nx x : Int) : Int × Int := if C x then (fresh l l.length nx, fresh l l.length nx + 1) else (x, nx)
mutual
/-- A type with another one put in: it, whether it is another one, the next number. -/
def Tt.put (n : Int) (u : Tt) (C : Int → Bool) (l : List Int) : Tt → List (Int × Int) → Int → Tt × Bool × Int
  | .mk k x ls ks => fun e nx =>
    if k = 6 then
      (if lk e x = none ∧ x = n then (u, true, (Tt.putL n u C l ks e nx).2.2)
       else (.mk k ((lk e x).getD x) ls (Tt.putL n u C l ks e nx).1, (Tt.putL n u C l ks e nx).2.1 || ((lk e x).getD x != x), (Tt.putL n u C l ks e nx).2.2))
    else if (Tt.mk k x ls ks).binds then
      (.mk k (give C l nx x).1 ls (Tt.putL n u C l ks ((x, (give C l nx x).1) :: e) (give C l nx x).2).1, (Tt.putL n u C l ks ((x, (give C l nx x).1) :: e) (give C l nx x).2).2.1 || ((give C l nx x).1 != x), (Tt.putL n u C l ks ((x, (give C l nx x).1) :: e) (give C l nx x).2).2.2)
    else (.mk k x ls (Tt.putL n u C l ks e nx).1, (Tt.putL n u C l ks e nx).2.1 || (x != x), (Tt.putL n u C l ks e nx).2.2)
def Tt.putL (n : Int) (u : Tt) (C : Int → Bool) (l : List Int) : List Tt → List (Int × Int) → Int → List Tt × Bool × Int
  | [] => fun _ nx => ([], false, nx)
  | t :: r => fun e nx => ((Tt.put n u C l t e nx).1 :: (Tt.putL n u C l r e (Tt.put n u C l t e nx).2.2).1, (Tt.put n u C l t e nx).2.1 || (Tt.putL n u C l r e (Tt.put n u C l t e nx).2.2).2.1, (Tt.putL n u C l r e (Tt.put n u C l t e nx).2.2).2.2)
end
/-- The node's own number, what is bound within, the next number. -/
def Tt.own3 (C : Int → Bool) (l : List Int) (t : Tt) (e : List (Int × Int)) (nx : Int) : Int × List (Int × Int) × Int :=
  if t.k = 6 then ((lk e t.n).getD t.n, e, nx) else if t.binds then ((give C l nx t.n).1, (t.n, (give C l nx t.n).1) :: e, (give C l nx t.n).2) else (t.n, e, nx)
theorem Tt.put_mk (n : Int) (u : Tt) (C : Int → Bool) (l : List Int) (t : Tt) (e : List (Int × Int)) (nx : Int) : Tt.put n u C l t e nx =
    if t.k = 6 ∧ lk e t.n = none ∧ t.n = n then (u, true, (Tt.putL n u C l t.ks e nx).2.2)
    else (.mk t.k (t.own3 C l e nx).1 t.ls (Tt.putL n u C l t.ks (t.own3 C l e nx).2.1 (t.own3 C l e nx).2.2).1, (Tt.putL n u C l t.ks (t.own3 C l e nx).2.1 (t.own3 C l e nx).2.2).2.1 || ((t.own3 C l e nx).1 != t.n), (Tt.putL n u C l t.ks (t.own3 C l e nx).2.1 (t.own3 C l e nx).2.2).2.2) := by
  obtain ⟨k, x, ls, ks⟩ := t
  rw [Tt.put]
  unfold Tt.own3
  show (if k = 6 then _ else _) = if k = 6 ∧ lk e x = none ∧ x = n then _ else _
  by_cases h6 : k = 6
  · simp only [h6, if_true, true_and]
    rfl
  · simp only [h6, if_false, false_and, Tt.k, Tt.n, Tt.ls, Tt.ks]
    split <;> rfl
mutual
/-- What is no other one is the same. -/
theorem Tt.put_same (n : Int) (u : Tt) (C : Int → Bool) (l : List Int) : ∀ (t : Tt) (e : List (Int × Int)) (nx : Int), (Tt.put n u C l t e nx).2.1 = false → (Tt.put n u C l t e nx).1 = t
  | .mk k x ls ks, e, nx => by
    rw [Tt.put_mk]
    split
    · intro h; cases h
    · intro h
      simp only [Bool.or_eq_false_iff, bne_eq_false_iff_eq] at h
      obtain ⟨h1, h2⟩ := h
      show Tt.mk k _ ls _ = _
      have := Tt.putL_same n u C l ks _ _ h1
      rw [h2]
      exact congrArg (Tt.mk k x ls) this
theorem Tt.putL_same (n : Int) (u : Tt) (C : Int → Bool) (l : List Int) : ∀ (ts : List Tt) (e : List (Int × Int)) (nx : Int), (Tt.putL n u C l ts e nx).2.1 = false → (Tt.putL n u C l ts e nx).1 = ts
  | [], e, nx => by intro _; rw [Tt.putL]
  | t :: r, e, nx => by
    rw [Tt.putL]
    intro h
    simp only [Bool.or_eq_false_iff] at h
    show _ :: _ = _
    rw [Tt.put_same n u C l t e nx h.1, Tt.putL_same n u C l r e _ h.2]
end
end Go.Proofs.Ytigliglmejkakab.Tgt

namespace Go.Proofs.Ytigliglmejkakab.Tgt
open Go.RowKit
set_option linter.unusedVariables false
set_option linter.unusedSimpArgs false

def nxAt (M : Nat) (w : World) : Int := match w.cell? ⟨M, 13, none⟩ with
  | some (.int _ x) => x
  | _ => 0
end Go.Proofs.Ytigliglmejkakab.Tgt

namespace Go.Proofs.Ytigliglmejkakab.Tgt
open Go.RowKit
set_option linter.unusedVariables false
set_option linter.unusedSimpArgs false

/-- What Clone gives of n things of k cells each, whose cells hold these values. -/
def Cloned (w : World) (e : TypeId) (k n : Nat) (vals : List Value) (x : Ending) (w' : World) : Prop := ∃ v', x = .returned v' ∧ w'.ownsRow w.heap.size e k v' n vals ∧ Below w.heap.size w w'

theorem info_tt : (Try.prog.info? 32).map (fun i => (i.zero, i.size, i.bytes)) = some (some (.agg #[.int .i64 0, .int .i64 0, .slice none 0 0, .slice none 0 0]), 4, 64) := by kernel_rfl
abbrev TY : TypeId := 32
/-- Blocks that hold what was put together from n0 on, or what came in. -/
def Kr (M : Nat → Prop) (n0 : Nat) (own : Nat → Prop) (w : World) : Nat → Prop := fun b => (M b ∨ n0 ≤ b) ∧ Free own w b
theorem Kr.ev {M : Nat → Prop} {n0 : Nat} {own own' : Nat → Prop} {w w' : World} (hev : Ev own w own' w') : ∀ b, Kr M n0 own w b → Kr M n0 own' w' b := fun b hb => ⟨hb.1, by have := hb.2.1; have := hev.size; omega, fun hq => (hev.mine b hq).elim hb.2.2 (fun hl => by have := hb.2.1; omega)⟩
theorem Kr.keeps {M : Nat → Prop} {n0 : Nat} {own own' : Nat → Prop} {w w' : World} (hev : Ev own w own' w') : Keeps (Kr M n0 own w) w w' := fun b o v hb hv => hev.keeps b o v hb.2 hv
theorem Kr.le {M : Nat → Prop} {n0 n1 : Nat} {own : Nat → Prop} {w : World} (h : n1 ≤ n0) : ∀ b, Kr M n0 own w b → Kr M n1 own w b := fun b hb => ⟨hb.1.imp id (fun q => by omega), hb.2⟩
/-- A row of types in block g, beside what is owned. -/
structure Rw (M : Nat → Prop) (n0 : Nat) (w : World) (own : Nat → Prop) (g cap k : Nat) (L : List Tt) : Prop where
  ex : ∃ cur : List Value, Arr w g TY cur ∧ L.length * 4 ≤ cur.length ∧ ∀ (i : Nat) x, L[i]? = some x → ∃ vs, Seg cur (i * 4) vs ∧ TAt w (fun b => Kr M n0 own w b ∧ b ≠ g) k vs x
  no : ¬ own g
  ge : n0 ≤ g
  le : L.length ≤ cap
  mx : L.length ≤ maxLen
theorem Rw.lt {M : Nat → Prop} {n0 : Nat} {w : World} {own : Nat → Prop} {g cap k : Nat} {L : List Tt} (h : Rw M n0 w own g cap k L) : g < w.heap.size := by obtain ⟨cur, h1, -⟩ := h.ex; exact h1.lt
theorem Rw.ev {M : Nat → Prop} {n0 : Nat} {w w' : World} {own own' : Nat → Prop} {g cap k : Nat} {L : List Tt} (h : Rw M n0 w own g cap k L) (hev : Ev own w own' w') : Rw M n0 w' own' g cap k L := by
  obtain ⟨⟨cur, h1, h2, h3⟩, no, ge, le, mx⟩ := h
  refine ⟨⟨cur, ⟨(hev.block g h1.lt no).trans h1.b⟩, h2, fun i x hx => ?_⟩, fun hq => (hev.mine g hq).elim no (fun hl => by have := h1.lt; omega), ge, le, mx⟩
  obtain ⟨vs, s1, s2⟩ := h3 i x hx
  exact ⟨vs, s1, s2.move (fun b o v hb hv => hev.keeps b o v hb.1.2 hv) (fun b hb => ⟨Kr.ev hev b hb.1, hb.2⟩)⟩
theorem Rw.up {M : Nat → Prop} {n0 : Nat} {w : World} {own : Nat → Prop} {g cap k k' : Nat} {L : List Tt} (h : Rw M n0 w own g cap k L) (hk : k ≤ k') : Rw M n0 w own g cap k' L := by
  obtain ⟨⟨cur, h1, h2, h3⟩, no, ge, le, mx⟩ := h
  exact ⟨⟨cur, h1, h2, fun i x hx => by obtain ⟨vs, s1, s2⟩ := h3 i x hx; exact ⟨vs, s1, s2.le hk⟩⟩, no, ge, le, mx⟩
theorem Rw.stays {M : Nat → Prop} {n0 : Nat} {w w' : World} {own : Nat → Prop} {g cap k : Nat} {L : List Tt} (h : Rw M n0 w own g cap k L) (hb : Below w.heap.size w w') : Rw M n0 w' own g cap k L := h.ev (Ev.of_below hb)
/-- The row as a slice. -/
theorem Rw.slice {M : Nat → Prop} {n0 : Nat} {w : World} {own : Nat → Prop} {g cap k : Nat} {L : List Tt} (h : Rw M n0 w own g cap k L) : TAtL w (Kr M n0 own w) k (.slice (some ⟨g, 0, none⟩) L.length cap) L := by
  obtain ⟨⟨cur, h1, h2, h3⟩, no, ge, le, mx⟩ := h
  refine .inl ⟨g, 0, cap, rfl, ⟨.inr ge, h1.lt, no⟩, le, mx, fun i x hx => ?_⟩
  obtain ⟨vs, s1, s2⟩ := h3 i x hx
  refine ⟨vs, fun j v hv => ?_, s2.move (Keeps.refl _ _) (fun b hb => hb.1)⟩
  rw [h1.cell]
  have := s1 j v hv
  rw [Nat.zero_add]
  exact this
theorem Seg.set_ne {cur : List Value} {o : Nat} {vs : List Value} (h : Seg cur o vs) {p : Nat} (hp : p < o ∨ o + vs.length ≤ p) (v : Value) : Seg (cur.set p v) o vs := fun j u hu => by
  have := (List.getElem?_eq_some_iff.1 hu).1
  rw [List.getElem?_set_ne (by omega)]
  exact h j u hu
theorem TAt.len {w : World} {K : Nat → Prop} {k : Nat} {vs : List Value} {t : Tt} (h : TAt w K k vs t) : vs.length = 4 := by obtain ⟨a', c', a, c, rfl⟩ := h.form; rfl
/-- One of them is written anew. -/
theorem Rw.put {M : Nat → Prop} {n0 : Nat} {w : World} {own : Nat → Prop} {g cap k : Nat} {L : List Tt} (h : Rw M n0 w own g cap k L) {i : Nat} (hi : i < L.length) {v0 v1 v2 v3 : Value} {x : Tt} (hx : TAt w (fun b => Kr M n0 own w b ∧ b ≠ g) k [v0, v1, v2, v3] x) :
    Rw M n0 ((((w.setCell ⟨g, i * 4, none⟩ v0).setCell ⟨g, i * 4 + 1, none⟩ v1).setCell ⟨g, i * 4 + 2, none⟩ v2).setCell ⟨g, i * 4 + 3, none⟩ v3) own g cap k (L.set i x) := by
  obtain ⟨⟨cur, h1, h2, h3⟩, no, ge, le, mx⟩ := h
  have hkp : ∀ {u : World} {p : Addr} {v : Value}, p.block = g → Keeps (fun b => Kr M n0 own w b ∧ b ≠ g) u (u.setCell p v) := fun {u p v} hp => Keeps.set (fun hb => hb.2 hp) v
  have K4 : Keeps (fun b => Kr M n0 own w b ∧ b ≠ g) w ((((w.setCell ⟨g, i * 4, none⟩ v0).setCell ⟨g, i * 4 + 1, none⟩ v1).setCell ⟨g, i * 4 + 2, none⟩ v2).setCell ⟨g, i * 4 + 3, none⟩ v3) := (((hkp rfl).trans (hkp rfl)).trans (hkp rfl)).trans (hkp rfl)
  have hK : ∀ b, (Kr M n0 own w b ∧ b ≠ g) → (Kr M n0 own ((((w.setCell ⟨g, i * 4, none⟩ v0).setCell ⟨g, i * 4 + 1, none⟩ v1).setCell ⟨g, i * 4 + 2, none⟩ v2).setCell ⟨g, i * 4 + 3, none⟩ v3) b ∧ b ≠ g) := fun b hb => ⟨⟨hb.1.1, by simp only [World.setCell, Array.size_modify]; exact hb.1.2.1, hb.1.2.2⟩, hb.2⟩
  refine ⟨⟨(((cur.set (i * 4) v0).set (i * 4 + 1) v1).set (i * 4 + 2) v2).set (i * 4 + 3) v3, (((h1.set _ _).set _ _).set _ _).set _ _, by simp only [List.length_set]; exact h2, fun j y hy => ?_⟩, no, ge, by rw [List.length_set]; exact le, by rw [List.length_set]; exact mx⟩
  by_cases hj : i = j
  · subst hj
    rw [List.getElem?_set_self hi] at hy
    injection hy with hy
    subst hy
    refine ⟨[v0, v1, v2, v3], fun m v hm => ?_, hx.move K4 hK⟩
    have hl : i * 4 + 3 < cur.length := by omega
    match m, hm with
    | 0, hm => injection hm with hm; subst hm; rw [List.getElem?_set_ne (by omega), List.getElem?_set_ne (by omega), List.getElem?_set_ne (by omega), Nat.add_zero, List.getElem?_set_self (by omega)]
    | 1, hm => injection hm with hm; subst hm; rw [List.getElem?_set_ne (by omega), List.getElem?_set_ne (by omega), List.getElem?_set_self (by simp; omega)]
    | 2, hm => injection hm with hm; subst hm; rw [List.getElem?_set_ne (by omega), List.getElem?_set_self (by simp; omega)]
    | 3, hm => injection hm with hm; subst hm; rw [List.getElem?_set_self (by simp; omega)]
    | m + 4, hm => simp at hm
  · rw [List.getElem?_set_ne hj] at hy
    obtain ⟨vs, s1, s2⟩ := h3 j y hy
    have := s2.len
    exact ⟨vs, (((s1.set_ne (by omega) _).set_ne (by omega) _).set_ne (by omega) _).set_ne (by omega) _, s2.move K4 hK⟩
end Go.Proofs.Ytigliglmejkakab.Tgt

namespace Go.Proofs.Ytigliglmejkakab.Tgt
open Go.RowKit
set_option linter.unusedVariables false
set_option linter.unusedSimpArgs false

theorem TAtL.load {w : World} {K : Nat → Prop} {n : Nat} {a : Option Addr} {c m : Nat} {l : List Tt} (h : TAtL w K n (.slice a m c) l) {i : Nat} {x : Tt} (hx : l[i]? = some x) : ∃ b o k1 k2 k3 k4, a = some ⟨b, o, none⟩ ∧ m ≤ c ∧ w.cell? ⟨b, o + i * 4, none⟩ = some (.int .i64 x.k) ∧ w.cell? ⟨b, o + i * 4 + 1, none⟩ = some (.int .i64 x.n) ∧ w.cell? ⟨b, o + i * 4 + 2, none⟩ = some (.slice k1 x.ls.length k2) ∧ w.cell? ⟨b, o + i * 4 + 3, none⟩ = some (.slice k3 x.ks.length k4) ∧ TAt w K n [.int .i64 x.k, .int .i64 x.n, .slice k1 x.ls.length k2, .slice k3 x.ks.length k4] x := by
  obtain ⟨b, o, ea, hP⟩ := h.elem hx
  obtain ⟨n', rfl⟩ := hP.pos
  obtain ⟨k1, k2, k3, k4, z0, z1, z2, z3, q1, q2, q3, q4⟩ := hP.cells
  refine ⟨b, o, k1, k2, k3, k4, ea, ?_, z0, z1, z2, z3, ⟨_, _, rfl, q1, q2, q3, q4⟩⟩
  rcases h with ⟨_, _, _, hv, _, hl, _⟩ | ⟨h0, -⟩
  · injection hv with e1 e2 e3; subst e2 e3; exact hl
  · rw [h0] at hx; simp at hx

def bindsK (k : Int) : Bool := decide (k = 9) || decide (k = 10) || decide (k = 11)

end Go.Proofs.Ytigliglmejkakab.Tgt
