/- The gatherer's state; the mathematics of what stands free. Putting in: mathematics; the putter's state. The number that a binder is given. -/
import Derived.Test.YtigliglmejkakaaGreatRau
namespace Go.Proofs.YtigliglmejkakaaGreat.Tgt
open Go.RowKit
set_option linter.unusedVariables false
set_option linter.unusedSimpArgs false

abbrev SM : TypeId := 106
abbrev GT : TypeId := 110
theorem zero_unit (w : World) : (zeroValue 107).run Tryz.prog w = .ok (.agg #[]) w := by kernel_rfl
/-- Block C is a set of numbers. -/
def SetIs (w : World) (C n : Nat) (S : Int → Bool) : Prop := ∃ D : DataW Unit, w.ownsMap Tryz.prog 3 unitElem C n D ∧ Maps.IsMap D ∧ ∀ x : Int, Maps.has D (.int .i64 x) = S x
theorem SetIs.lt {w : World} {C n : Nat} {S : Int → Bool} (h : SetIs w C n S) : C < w.heap.size := by obtain ⟨D, h1, -⟩ := h; exact h1.lt
theorem SetIs.le {w : World} {C n m : Nat} {S : Int → Bool} (h : SetIs w C n S) (hn : n ≤ m) : SetIs w C m S := by obtain ⟨D, h1, h2⟩ := h; exact ⟨D, h1.mono hn, h2⟩
theorem SetIs.block {w w' : World} {C n : Nat} {S : Int → Bool} (h : SetIs w C n S) (hb : w'.heap[C]? = w.heap[C]?) : SetIs w' C n S := by
  obtain ⟨D, ⟨es, cl, h1, h3⟩, h2⟩ := h
  exact ⟨D, ⟨es, cl, hb.trans h1, h3⟩, h2⟩
theorem SetIs.look {w : World} {C n : Nat} {S : Int → Bool} (h : SetIs w C n S) (x : Int) (hx : R64 x) : (Instr.lookup SM (.map (some C)) (.int .i64 x) true).run Tryz.prog w = .ok (.tuple #[.agg #[], .bool (S x)]) w := by
  obtain ⟨D, h1, h2, h3⟩ := h
  obtain ⟨v, ps, hr, hv⟩ := h1.look_ok int_key Tryz.underlying106 (zero_unit w) unitElem_mk (Maps.keyOf_int_mk Tryz.underlying3 (wf_of hx))
  obtain ⟨rfl, -⟩ := unitElem_inv hv
  rw [hr, h3]
theorem SetIs.put {w : World} {C n : Nat} {S : Int → Bool} (h : SetIs w C n S) (x : Int) (hx : R64 x) (hn : n < maxLen) : ∃ w', (Instr.mapUpdate SM (.map (some C)) (.int .i64 x) (.agg #[])).run Tryz.prog w = .ok () w' ∧ SetIs w' C (n + 1) (fun y => S y || y == x) ∧ w.grownBy w' (some C) := by
  obtain ⟨D, h1, h2, h3⟩ := h
  obtain ⟨w', hr, h4, h5⟩ := h1.store int_key Tryz.underlying106 hn (Maps.keyOf_int_mk Tryz.underlying3 (wf_of hx)) unitElem_mk
  refine ⟨w', hr, ⟨_, h4, h4.isMap, fun y => ?_⟩, h5.grown⟩
  by_cases e : y = x
  · subst e
    rw [Maps.has_put_same h2 (keylit y)]
    simp
  · rw [Maps.has_put_other (fun h => e (by injection h)), h3]
    simp [e]
theorem set_new (w : World) : SetIs (w.alloc (.map #[] 0)) w.heap.size 0 (fun _ => false) := ⟨_, World.ownsMap_made w _ _ _, ⟨_, rfl⟩, fun x => by simp [Maps.has]⟩
mutual
/-- Does the number stand free? -/
def Tt.fv : Tt → List (Int × Int) → Int → Bool
  | .mk k n ls ks => fun e x => (k == 6 && (n == x && (lk e x).isNone)) || Tt.fvL ks ((Tt.mk k n ls ks).env e) x
def Tt.fvL : List Tt → List (Int × Int) → Int → Bool
  | [] => fun _ _ => false
  | t :: r => fun e x => Tt.fv t e x || Tt.fvL r e x
end
mutual
/-- Does the number stand there, free or bound, or does it bind? -/
def Tt.av : Tt → Int → Bool
  | .mk k n ls ks => fun x => ((k == 6 || (Tt.mk k n ls ks).binds) && n == x) || Tt.avL ks x
def Tt.avL : List Tt → Int → Bool
  | [] => fun _ => false
  | t :: r => fun x => Tt.av t x || Tt.avL r x
end
theorem Tt.fv_mk (t : Tt) (e : List (Int × Int)) (x : Int) : t.fv e x = ((t.k == 6 && (t.n == x && (lk e x).isNone)) || Tt.fvL t.ks (t.env e) x) := by cases t; rw [Tt.fv]; rfl
theorem Tt.av_mk (t : Tt) (x : Int) : t.av x = (((t.k == 6 || t.binds) && t.n == x) || Tt.avL t.ks x) := by cases t; rw [Tt.av]; rfl
theorem Tt.fvL_drop {l : List Tt} {k : Nat} {t : Tt} (ht : l[k]? = some t) (e : List (Int × Int)) (x : Int) : Tt.fvL (l.drop k) e x = (t.fv e x || Tt.fvL (l.drop (k + 1)) e x) := by rw [Tt.drop_at ht, Tt.fvL]
theorem Tt.avL_drop {l : List Tt} {k : Nat} {t : Tt} (ht : l[k]? = some t) (x : Int) : Tt.avL (l.drop k) x = (t.av x || Tt.avL (l.drop (k + 1)) x) := by rw [Tt.drop_at ht, Tt.avL]
/-- The gatherer in block M: what is bound; the set of free numbers, and of all. -/
def Gt (L M : Nat) (w : World) (own : Nat → Prop) (e : List (Int × Int)) (F A : Int → Bool) (n : Nat) : Prop :=
  ∃ vs mv lv Cf Ca, Wk w M GT vs 0 (M + 1) mv lv e n ∧ vs[6]? = some (.map (some Cf)) ∧ vs[7]? = some (.map (some Ca)) ∧ SetIs w Cf n F ∧ SetIs w Ca n A ∧ (L ≤ Cf ∧ Cf < M ∧ L ≤ Ca ∧ Ca < M ∧ Cf ≠ Ca) ∧ own = fun b => b = M ∨ Os mv lv b ∨ b = Cf ∨ b = Ca
theorem Gt.own {L M : Nat} {w : World} {own : Nat → Prop} {e : List (Int × Int)} {F A : Int → Bool} {n : Nat} (h : Gt L M w own e F A n) : ∀ b, own b → L ≤ b ∧ b < w.heap.size := by
  obtain ⟨vs, mv, lv, Cf, Ca, h1, h2, h3, h4, h5, h6, rfl⟩ := h
  intro b hb
  have := h1.arr.lt
  rcases hb with rfl | hb | rfl | rfl
  · omega
  · have := h1.scp.ge hb; omega
  · omega
  · omega
theorem Gt.block {L M : Nat} {w w' : World} {own : Nat → Prop} {e : List (Int × Int)} {F A : Int → Bool} {n : Nat} (h : Gt L M w own e F A n) (hb : ∀ b, own b → w'.heap[b]? = w.heap[b]?) (hs : w.heap.size ≤ w'.heap.size) : Gt L M w' own e F A n := by
  obtain ⟨vs, mv, lv, Cf, Ca, h1, h2, h3, h4, h5, h6, rfl⟩ := h
  exact ⟨vs, mv, lv, Cf, Ca, ⟨⟨(hb M (.inl rfl)).trans h1.arr.b⟩, h1.m, h1.l, h1.nm, h1.nl, h1.scp.blocks (fun b q => hb b (.inr (.inl q))), h1.lt, Nat.le_trans h1.le hs⟩, h2, h3, h4.block (hb Cf (.inr (.inr (.inl rfl)))), h5.block (hb Ca (.inr (.inr (.inr rfl)))), h6, rfl⟩
theorem Gt.stays {L M : Nat} {w w' : World} {own : Nat → Prop} {e : List (Int × Int)} {F A : Int → Bool} {n : Nat} (h : Gt L M w own e F A n) (hb : Below w.heap.size w w') : Gt L M w' own e F A n := h.block (fun b q => hb.block b (h.own b q).2) hb.size
theorem Gt.up {L M : Nat} {w : World} {own : Nat → Prop} {e : List (Int × Int)} {F A : Int → Bool} {n m : Nat} (h : Gt L M w own e F A n) (hn : n ≤ m) : Gt L M w own e F A m := by
  obtain ⟨vs, mv, lv, Cf, Ca, h1, h2, h3, h4, h5, h6, h7⟩ := h
  exact ⟨vs, mv, lv, Cf, Ca, h1.up hn, h2, h3, h4.le hn, h5.le hn, h6, h7⟩
theorem Gt.other {L M : Nat} {w : World} {own : Nat → Prop} {e : List (Int × Int)} {F A : Int → Bool} {n : Nat} (h : Gt L M w own e F A n) {p : Addr} (hp : ¬ own p.block) (v : Value) : Gt L M (w.setCell p v) own e F A n := h.block (fun b q => Below.heap_setCell _ _ _ _ (fun e => hp (e ▸ q))) (by simp only [World.setCell, Array.size_modify]; exact Nat.le_refl _)
/-- The walker in it. -/
theorem Gt.walk {L M : Nat} {w : World} {own : Nat → Prop} {e : List (Int × Int)} {F A : Int → Bool} {n : Nat} (h : Gt L M w own e F A n) : ∃ vs mv lv, Wk w M GT vs 0 (M + 1) mv lv e n ∧ ∀ w' vs' mv' lv' e' n', n ≤ n' → vs' = (vs.set (0 + 2) mv').set (0 + 2 + 1) lv' → Wk w' M GT vs' 0 (M + 1) mv' lv' e' n' → Ev (Om M mv lv) w (Om M mv' lv') w' → ∃ own', Gt L M w' own' e' F A n' ∧ Ev own w own' w' := by
  obtain ⟨vs, mv, lv, Cf, Ca, h1, h2, h3, h4, h5, h6, rfl⟩ := h
  refine ⟨vs, mv, lv, h1, fun w' vs' mv' lv' e' n' hn hvs h' hev => ?_⟩
  obtain ⟨-, -, g3⟩ := set_two (mv' := mv') (lv' := lv') h1.m h1.l
  have hM := h1.arr.lt
  have nb : ∀ C, C < M → ¬ Om M mv lv C := fun C hC hq => by
    rcases hq with hq | hq
    · omega
    · have := h1.scp.ge hq; omega
  refine ⟨_, ⟨vs', mv', lv', Cf, Ca, h', ?_, ?_, (h4.block (hev.block Cf (by omega) (nb Cf h6.2.1))).le hn, (h5.block (hev.block Ca (by omega) (nb Ca h6.2.2.2.1))).le hn, h6, rfl⟩, ⟨hev.os, hev.tape, hev.output, hev.size, fun b hb => ?_, fun b hb hq => hev.block b hb (fun h => hq (h.elim .inl (fun h => .inr (.inl h))))⟩⟩
  · rw [hvs]; exact (g3 6 (by omega) (by omega)).trans h2
  · rw [hvs]; exact (g3 7 (by omega) (by omega)).trans h3
  · rcases hb with rfl | hb | hb
    · exact .inl (.inl rfl)
    · exact (hev.mine b (.inr hb)).imp (fun h => h.elim .inl (fun h => .inr (.inl h))) id
    · exact .inl (.inr (.inr hb))
theorem Gt.keeps {L M : Nat} {w w' : World} {own own' : Nat → Prop} {e : List (Int × Int)} {F A : Int → Bool} {n : Nat} (h : Gt L M w own e F A n) (hev : Ev own w own' w') : Keeps (fun b => b < L) w w' := hev.lt (fun b hb => (h.own b hb).1)
theorem set_ev {w w' : World} {own : Nat → Prop} {C : Nat} (hg : w.grownBy w' (some C)) (hC : own C) : Ev own w own w' := ⟨hg.os, hg.tape, hg.output, hg.size, fun _ h => .inl h, fun b hb hn => hg.block b hb (fun e => hn ((Option.some.inj e) ▸ hC))⟩
theorem Gt.putA {L M : Nat} {w : World} {own : Nat → Prop} {e : List (Int × Int)} {F A : Int → Bool} {n : Nat} (h : Gt L M w own e F A n) : ∃ Ca, w.cell? ⟨M, 7, none⟩ = some (.map (some Ca)) ∧ L ≤ Ca ∧ Ca < M ∧ ∀ x, R64 x → n < maxLen → ∃ w', (Instr.mapUpdate SM (.map (some Ca)) (.int .i64 x) (.agg #[])).run Tryz.prog w = .ok () w' ∧ Gt L M w' own e F (fun y => A y || y == x) (n + 1) ∧ Ev own w own w' ∧ w.grownBy w' (some Ca) := by
  obtain ⟨vs, mv, lv, Cf, Ca, h1, h2, h3, h4, h5, h6, rfl⟩ := h
  refine ⟨Ca, (h1.arr.cell 7).trans h3, h6.2.2.1, h6.2.2.2.1, fun x hx hn => ?_⟩
  obtain ⟨w', r1, r2, r3⟩ := h5.put x hx hn
  have hM := h1.arr.lt
  have nb : ∀ b, b < w.heap.size → b ≠ Ca → w'.heap[b]? = w.heap[b]? := fun b hb hne => grown_ne r3 hb hne
  refine ⟨w', r1, ⟨vs, mv, lv, Cf, Ca, ⟨⟨(nb M hM (by omega)).trans h1.arr.b⟩, h1.m, h1.l, h1.nm, h1.nl, (h1.scp.blocks (fun b q => nb b (h1.scp.ge q).2 (by have := (h1.scp.ge q).1; omega))).le (by omega), h1.lt, Nat.le_trans h1.le r3.size⟩, h2, h3, (h4.block (nb Cf (by omega) h6.2.2.2.2)).le (by omega), r2, h6, rfl⟩, set_ev r3 (.inr (.inr (.inr rfl))), r3⟩
theorem Gt.putF {L M : Nat} {w : World} {own : Nat → Prop} {e : List (Int × Int)} {F A : Int → Bool} {n : Nat} (h : Gt L M w own e F A n) : ∃ Cf, w.cell? ⟨M, 6, none⟩ = some (.map (some Cf)) ∧ L ≤ Cf ∧ Cf < M ∧ ∀ x, R64 x → n < maxLen → ∃ w', (Instr.mapUpdate SM (.map (some Cf)) (.int .i64 x) (.agg #[])).run Tryz.prog w = .ok () w' ∧ Gt L M w' own e (fun y => F y || y == x) A (n + 1) ∧ Ev own w own w' ∧ w.grownBy w' (some Cf) := by
  obtain ⟨vs, mv, lv, Cf, Ca, h1, h2, h3, h4, h5, h6, rfl⟩ := h
  refine ⟨Cf, (h1.arr.cell 6).trans h2, h6.1, h6.2.1, fun x hx hn => ?_⟩
  obtain ⟨w', r1, r2, r3⟩ := h4.put x hx hn
  have hM := h1.arr.lt
  have nb : ∀ b, b < w.heap.size → b ≠ Cf → w'.heap[b]? = w.heap[b]? := fun b hb hne => grown_ne r3 hb hne
  refine ⟨w', r1, ⟨vs, mv, lv, Cf, Ca, ⟨⟨(nb M hM (by omega)).trans h1.arr.b⟩, h1.m, h1.l, h1.nm, h1.nl, (h1.scp.blocks (fun b q => nb b (h1.scp.ge q).2 (by have := (h1.scp.ge q).1; omega))).le (by omega), h1.lt, Nat.le_trans h1.le r3.size⟩, h2, h3, r2, (h5.block (nb Ca (by omega) (fun e => h6.2.2.2.2 e.symm))).le (by omega), h6, rfl⟩, set_ev r3 (.inr (.inr (.inl rfl))), r3⟩
end Go.Proofs.YtigliglmejkakaaGreat.Tgt

namespace Go.Proofs.YtigliglmejkakaaGreat.Tgt
open Go.RowKit
set_option linter.unusedVariables false
set_option linter.unusedSimpArgs false

/-- How many numbers of a list are no less. -/
def from_ (l : List Int) (m : Int) : Nat := (l.filter (fun x => decide (m ≤ x))).length
theorem from_mono (l : List Int) (m : Int) : from_ l (m + 1) ≤ from_ l m := by
  unfold from_
  rw [← List.countP_eq_length_filter, ← List.countP_eq_length_filter]
  exact List.countP_mono_left (fun x _ hx => by simp only [decide_eq_true_eq] at hx ⊢; omega)
theorem from_step {l : List Int} {m : Int} (h : m ∈ l) : from_ l (m + 1) + 1 ≤ from_ l m := by
  unfold from_
  induction l with
  | nil => cases h
  | cons a r ih =>
    rw [List.filter_cons, List.filter_cons]
    rcases List.mem_cons.1 h with rfl | h
    · have h1 : decide (m ≤ m) = true := by simp
      have h2 : decide (m + 1 ≤ m) = false := decide_eq_false (by omega)
      rw [if_pos h1, if_neg (by rw [h2]; simp), List.length_cons]
      have : (r.filter (fun x => decide (m + 1 ≤ x))).length ≤ (r.filter (fun x => decide (m ≤ x))).length := from_mono r m
      omega
    · have := ih h
      by_cases h1 : m + 1 ≤ a
      · have h2 : m ≤ a := by omega
        simp only [decide_eq_true h1, decide_eq_true h2, if_true, List.length_cons]
        omega
      · by_cases h2 : m ≤ a
        · simp only [decide_eq_false h1, decide_eq_true h2, if_true, List.length_cons]
          simp
          omega
        · simp only [decide_eq_false h1, decide_eq_false h2]
          simpa using this
theorem from_le (l : List Int) (m : Int) : from_ l m ≤ l.length := List.length_filter_le _ _
/-- The first number from m on that is not in the list. -/
def fresh (l : List Int) : Nat → Int → Int
  | 0, m => m
  | f + 1, m => if m ∈ l then fresh l f (m + 1) else m
theorem fresh_not (l : List Int) : ∀ (f : Nat) (m : Int), from_ l m ≤ f → fresh l f m ∉ l
  | 0, m, h => by
    rw [fresh]
    intro hm
    have := from_step hm
    omega
  | f + 1, m, h => by
    rw [fresh]
    split
    · rename_i hm
      have := from_step hm
      exact fresh_not l f (m + 1) (by omega)
    · rename_i hm; exact hm
theorem fresh_more (l : List Int) : ∀ (f g : Nat) (m : Int), from_ l m ≤ f → from_ l m ≤ g → fresh l f m = fresh l g m
  | 0, 0, m, _, _ => rfl
  | 0, g + 1, m, h, _ => by
    rw [fresh, fresh, if_neg (fun hm => by have := from_step hm; omega)]
  | f + 1, 0, m, _, h => by
    rw [fresh, fresh, if_neg (fun hm => by have := from_step hm; omega)]
  | f + 1, g + 1, m, h1, h2 => by
    rw [fresh, fresh]
    split
    · rename_i hm
      have := from_step hm
      exact fresh_more l f g (m + 1) (by omega) (by omega)
    · rfl
theorem fresh_ge (l : List Int) : ∀ (f : Nat) (m : Int), m ≤ fresh l f m ∧ fresh l f m ≤ m + f
  | 0, m => by rw [fresh]; omega
  | f + 1, m => by
    rw [fresh]
    split
    · have := fresh_ge l f (m + 1); omega
    · omega
/-- The number that a binder is given, and the next one. -/
def give (C : Int → Bool) (l : List Int) (nx x : Int) : Int × Int := if C x then (fresh l l.length nx, fresh l l.length nx + 1) else (x, nx)
mutual
/-- A type with another one put in: it, whether it is another one, the next number. -/
def Tt.put (n : Int) (u : Tt) (C : Int → Bool) (l : List Int) : Tt → List (Int × Int) → Int → Tt × Bool × Int
  | .mk k x ls ks => fun e nx =>
    if k = 6 then
      (if lk e x = none ∧ x = n then (u, true, (Tt.putL n u C l ks e nx).2.2)
       else (.mk k ((lk e x).getD x) ls (Tt.putL n u C l ks e nx).1, (Tt.putL n u C l ks e nx).2.1 || ((lk e x).getD x != x), (Tt.putL n u C l ks e nx).2.2))
    else if (Tt.mk k x ls ks).binds then
      (.mk k (give C l nx x).1 ls (Tt.putL n u C l ks ((x, (give C l nx x).1) :: e) (give C l nx x).2).1, (Tt.putL n u C l ks ((x, (give C l nx x).1) :: e) (give C l nx x).2).2.1 || ((give C l nx x).1 != x), (Tt.putL n u C l ks ((x, (give C l nx x).1) :: e) (give C l nx x).2).2.2)
    else (.mk k x ls (Tt.putL n u C l ks e nx).1, (Tt.putL n u C l ks e nx).2.1 || (x != x), (Tt.putL n u C l ks e nx).2.2)
def Tt.putL (n : Int) (u : Tt) (C : Int → Bool) (l : List Int) : List Tt → List (Int × Int) → Int → List Tt × Bool × Int
  | [] => fun _ nx => ([], false, nx)
  | t :: r => fun e nx => ((Tt.put n u C l t e nx).1 :: (Tt.putL n u C l r e (Tt.put n u C l t e nx).2.2).1, (Tt.put n u C l t e nx).2.1 || (Tt.putL n u C l r e (Tt.put n u C l t e nx).2.2).2.1, (Tt.putL n u C l r e (Tt.put n u C l t e nx).2.2).2.2)
end
/-- The node's own number, what is bound within, the next number. -/
def Tt.own3 (C : Int → Bool) (l : List Int) (t : Tt) (e : List (Int × Int)) (nx : Int) : Int × List (Int × Int) × Int :=
  if t.k = 6 then ((lk e t.n).getD t.n, e, nx) else if t.binds then ((give C l nx t.n).1, (t.n, (give C l nx t.n).1) :: e, (give C l nx t.n).2) else (t.n, e, nx)
theorem Tt.put_mk (n : Int) (u : Tt) (C : Int → Bool) (l : List Int) (t : Tt) (e : List (Int × Int)) (nx : Int) : Tt.put n u C l t e nx =
    if t.k = 6 ∧ lk e t.n = none ∧ t.n = n then (u, true, (Tt.putL n u C l t.ks e nx).2.2)
    else (.mk t.k (t.own3 C l e nx).1 t.ls (Tt.putL n u C l t.ks (t.own3 C l e nx).2.1 (t.own3 C l e nx).2.2).1, (Tt.putL n u C l t.ks (t.own3 C l e nx).2.1 (t.own3 C l e nx).2.2).2.1 || ((t.own3 C l e nx).1 != t.n), (Tt.putL n u C l t.ks (t.own3 C l e nx).2.1 (t.own3 C l e nx).2.2).2.2) := by
  obtain ⟨k, x, ls, ks⟩ := t
  rw [Tt.put]
  unfold Tt.own3
  show (if k = 6 then _ else _) = if k = 6 ∧ lk e x = none ∧ x = n then _ else _
  by_cases h6 : k = 6
  · simp only [h6, if_true, true_and]
    rfl
  · simp only [h6, if_false, false_and, Tt.k, Tt.n, Tt.ls, Tt.ks]
    split <;> rfl
mutual
/-- What is no other one is the same. -/
theorem Tt.put_same (n : Int) (u : Tt) (C : Int → Bool) (l : List Int) : ∀ (t : Tt) (e : List (Int × Int)) (nx : Int), (Tt.put n u C l t e nx).2.1 = false → (Tt.put n u C l t e nx).1 = t
  | .mk k x ls ks, e, nx => by
    rw [Tt.put_mk]
    split
    · intro h; cases h
    · intro h
      simp only [Bool.or_eq_false_iff, bne_eq_false_iff_eq] at h
      obtain ⟨h1, h2⟩ := h
      show Tt.mk k _ ls _ = _
      have := Tt.putL_same n u C l ks _ _ h1
      rw [h2]
      exact congrArg (Tt.mk k x ls) this
theorem Tt.putL_same (n : Int) (u : Tt) (C : Int → Bool) (l : List Int) : ∀ (ts : List Tt) (e : List (Int × Int)) (nx : Int), (Tt.putL n u C l ts e nx).2.1 = false → (Tt.putL n u C l ts e nx).1 = ts
  | [], e, nx => by intro _; rw [Tt.putL]
  | t :: r, e, nx => by
    rw [Tt.putL]
    intro h
    simp only [Bool.or_eq_false_iff] at h
    show _ :: _ = _
    rw [Tt.put_same n u C l t e nx h.1, Tt.putL_same n u C l r e _ h.2]
end
abbrev PT : TypeId := 151
/-- The putter in block M. -/
structure Pt (N M : Nat) (num : Int) (u : Tt) (C : Int → Bool) (l : List Int) (w : World) (own : Nat → Prop) (e : List (Int × Int)) (nx : Int) (n : Nat) : Prop where
  ex : ∃ vs mv lv Cc Ct ub kb, Wk w M PT vs 0 (M + 1) mv lv e n ∧ vs[6]? = some (.int .i64 num) ∧ Seg vs 7 ub ∧ TAt w (fun b => b < N) kb ub u ∧ vs[11]? = some (.map (some Cc)) ∧ vs[12]? = some (.map (some Ct)) ∧ vs[13]? = some (.int .i64 nx) ∧ (∃ m, SetIs w Cc m C) ∧ (∃ m T, SetIs w Ct m T ∧ ∀ x, T x = decide (x ∈ l)) ∧ (Cc < M ∧ Ct < M ∧ N ≤ M) ∧ own = fun b => b = M ∨ Os mv lv b
  lo : 0 ≤ nx
theorem Pt.le {N M : Nat} {num : Int} {u : Tt} {C : Int → Bool} {l : List Int} {w : World} {own : Nat → Prop} {e : List (Int × Int)} {nx : Int} {n : Nat} (h : Pt N M num u C l w own e nx n) : N ≤ M := by
  obtain ⟨vs, mv, lv, Cc, Ct, ub, kb, h1, h2, h3, h4, h5, h6, h7, h8, h9, h10, -⟩ := h.ex
  exact h10.2.2
theorem Pt.own {N M : Nat} {num : Int} {u : Tt} {C : Int → Bool} {l : List Int} {w : World} {own : Nat → Prop} {e : List (Int × Int)} {nx : Int} {n : Nat} (h : Pt N M num u C l w own e nx n) : ∀ b, own b → M ≤ b ∧ b < w.heap.size := by
  obtain ⟨vs, mv, lv, Cc, Ct, ub, kb, h1, h2, h3, h4, h5, h6, h7, h8, h9, h10, rfl⟩ := h.ex
  intro b hb
  rcases hb with rfl | hb
  · exact ⟨Nat.le_refl _, h1.arr.lt⟩
  · have := h1.scp.ge hb; omega
theorem Pt.block {N M : Nat} {num : Int} {u : Tt} {C : Int → Bool} {l : List Int} {w w' : World} {own : Nat → Prop} {e : List (Int × Int)} {nx : Int} {n : Nat} (h : Pt N M num u C l w own e nx n) (hb : ∀ b, own b → w'.heap[b]? = w.heap[b]?) (hlt : ∀ b, b < M → w'.heap[b]? = w.heap[b]?) (hs : w.heap.size ≤ w'.heap.size) : Pt N M num u C l w' own e nx n := by
  obtain ⟨⟨vs, mv, lv, Cc, Ct, ub, kb, h1, h2, h3, h4, h5, h6, h7, ⟨m8, h8⟩, ⟨m9, T, h9, h9'⟩, h10, rfl⟩, lo⟩ := h
  exact ⟨⟨vs, mv, lv, Cc, Ct, ub, kb, ⟨⟨(hb M (.inl rfl)).trans h1.arr.b⟩, h1.m, h1.l, h1.nm, h1.nl, h1.scp.blocks (fun b q => hb b (.inr q)), h1.lt, Nat.le_trans h1.le hs⟩, h2, h3, h4.move (fun b o v q hv => (World.cell?_of_block (w := w) (a := ⟨b, o, none⟩) (hlt b (Nat.lt_of_lt_of_le q h10.2.2))).trans hv) (fun _ h => h), h5, h6, h7, ⟨m8, h8.block (hlt _ h10.1)⟩, ⟨m9, T, h9.block (hlt _ h10.2.1), h9'⟩, h10, rfl⟩, lo⟩
theorem Pt.stays {N M : Nat} {num : Int} {u : Tt} {C : Int → Bool} {l : List Int} {w w' : World} {own : Nat → Prop} {e : List (Int × Int)} {nx : Int} {n : Nat} (h : Pt N M num u C l w own e nx n) (hb : Below w.heap.size w w') : Pt N M num u C l w' own e nx n := by
  have hM : M < w.heap.size := by obtain ⟨vs, mv, lv, Cc, Ct, ub, kb, h1, -⟩ := h.ex; exact h1.arr.lt
  exact h.block (fun b q => hb.block b (h.own b q).2) (fun b q => hb.block b (by omega)) hb.size
theorem Pt.up {N M : Nat} {num : Int} {u : Tt} {C : Int → Bool} {l : List Int} {w : World} {own : Nat → Prop} {e : List (Int × Int)} {nx : Int} {n m : Nat} (h : Pt N M num u C l w own e nx n) (hn : n ≤ m) : Pt N M num u C l w own e nx m := by
  obtain ⟨⟨vs, mv, lv, Cc, Ct, ub, kb, h1, h2⟩, lo⟩ := h
  exact ⟨⟨vs, mv, lv, Cc, Ct, ub, kb, h1.up hn, h2⟩, lo⟩
theorem Pt.other {N M : Nat} {num : Int} {u : Tt} {C : Int → Bool} {l : List Int} {w : World} {own : Nat → Prop} {e : List (Int × Int)} {nx : Int} {n : Nat} (h : Pt N M num u C l w own e nx n) {p : Addr} (hp : ¬ own p.block) (hM : M ≤ p.block) (v : Value) : Pt N M num u C l (w.setCell p v) own e nx n := h.block (fun b q => Below.heap_setCell _ _ _ _ (fun e => hp (e ▸ q))) (fun b q => Below.heap_setCell _ _ _ _ (by omega)) (by simp only [World.setCell, Array.size_modify]; exact Nat.le_refl _)
theorem Pt.keeps {N M : Nat} {num : Int} {u : Tt} {C : Int → Bool} {l : List Int} {w w' : World} {own own' : Nat → Prop} {e : List (Int × Int)} {nx : Int} {n : Nat} (h : Pt N M num u C l w own e nx n) (hev : Ev own w own' w') : Keeps (fun b => b < N) w w' := hev.lt (fun b hb => Nat.le_trans h.le (h.own b hb).1)
/-- The walker in it. -/
theorem Pt.walk {N M : Nat} {num : Int} {u : Tt} {C : Int → Bool} {l : List Int} {w : World} {own : Nat → Prop} {e : List (Int × Int)} {nx : Int} {n : Nat} (h : Pt N M num u C l w own e nx n) : ∃ vs mv lv, Wk w M PT vs 0 (M + 1) mv lv e n ∧ own = (fun b => b = M ∨ Os mv lv b) ∧ ∀ w' vs' mv' lv' e' n', vs' = (vs.set (0 + 2) mv').set (0 + 2 + 1) lv' → Wk w' M PT vs' 0 (M + 1) mv' lv' e' n' → Ev (Om M mv lv) w (Om M mv' lv') w' → ∃ own', Pt N M num u C l w' own' e' nx n' ∧ Ev own w own' w' := by
  have hkk := h
  obtain ⟨⟨vs, mv, lv, Cc, Ct, ub, kb, h1, h2, h3, h4, h5, h6, h7, ⟨m8, h8⟩, ⟨m9, T, h9, h9'⟩, h10, rfl⟩, lo⟩ := h
  refine ⟨vs, mv, lv, h1, rfl, fun w' vs' mv' lv' e' n' hvs h' hev => ?_⟩
  obtain ⟨-, -, g3⟩ := set_two (mv' := mv') (lv' := lv') h1.m h1.l
  have hM := h1.arr.lt
  have nb : ∀ C, C < M → ¬ Om M mv lv C := fun C hC hq => by
    rcases hq with hq | hq
    · omega
    · have := h1.scp.ge hq; omega
  have hv : ∀ j, 6 ≤ j → vs'[j]? = vs[j]? := fun j hj => by rw [hvs]; exact g3 j (by omega) (by omega)
  have hev' : Ev (fun b => b = M ∨ Os mv lv b) w (fun b => b = M ∨ Os mv' lv' b) w' := hev
  exact ⟨_, ⟨⟨vs', mv', lv', Cc, Ct, ub, kb, h', (hv _ (by omega)).trans h2, fun j v q => (hv _ (by omega)).trans (h3 j v q), h4.move (hkk.keeps hev') (fun _ h => h), (hv _ (by omega)).trans h5, (hv _ (by omega)).trans h6, (hv _ (by omega)).trans h7, ⟨m8, h8.block (hev.block Cc (by omega) (nb Cc h10.1))⟩, ⟨m9, T, h9.block (hev.block Ct (by omega) (nb Ct h10.2.1)), h9'⟩, h10, rfl⟩, lo⟩, hev'⟩
end Go.Proofs.YtigliglmejkakaaGreat.Tgt

namespace Go.Proofs.YtigliglmejkakaaGreat.Tgt
open Go.RowKit
set_option linter.unusedVariables false
set_option linter.unusedSimpArgs false

def nxAt (M : Nat) (w : World) : Int := match w.cell? ⟨M, 13, none⟩ with
  | some (.int _ x) => x
  | _ => 0
theorem Pt.cells {N M : Nat} {num : Int} {u : Tt} {C : Int → Bool} {l : List Int} {w : World} {own : Nat → Prop} {e : List (Int × Int)} {nx : Int} {n : Nat} (h : Pt N M num u C l w own e nx n) : ∃ Cc Ct, w.cell? ⟨M, 6, none⟩ = some (.int .i64 num) ∧ w.cell? ⟨M, 11, none⟩ = some (.map (some Cc)) ∧ w.cell? ⟨M, 12, none⟩ = some (.map (some Ct)) ∧ w.cell? ⟨M, 13, none⟩ = some (.int .i64 nx) ∧ w.frozen? ⟨M, 13, none⟩ = false ∧ (∀ x, R64 x → (Instr.lookup SM (.map (some Cc)) (.int .i64 x) true).run Tryz.prog w = .ok (.tuple #[.agg #[], .bool (C x)]) w) ∧ (∀ x, R64 x → (Instr.lookup SM (.map (some Ct)) (.int .i64 x) true).run Tryz.prog w = .ok (.tuple #[.agg #[], .bool (decide (x ∈ l))]) w) ∧ M < w.heap.size ∧ own M := by
  obtain ⟨⟨vs, mv, lv, Cc, Ct, ub, kb, h1, h2, h3, h4, h5, h6, h7, ⟨m8, h8⟩, ⟨m9, T, h9, h9'⟩, h10, rfl⟩, lo⟩ := h
  exact ⟨Cc, Ct, (h1.arr.cell 6).trans h2, (h1.arr.cell 11).trans h5, (h1.arr.cell 12).trans h6, (h1.arr.cell 13).trans h7, h1.arr.frozen 13, fun x hx => h8.look x hx, fun x hx => by rw [h9.look x hx, h9'], h1.arr.lt, .inl rfl⟩
theorem Pt.next {N M : Nat} {num : Int} {u : Tt} {C : Int → Bool} {l : List Int} {w : World} {own : Nat → Prop} {e : List (Int × Int)} {nx : Int} {n : Nat} (h : Pt N M num u C l w own e nx n) (nx' : Int) (h' : 0 ≤ nx') : Pt N M num u C l (w.setCell ⟨M, 13, none⟩ (.int .i64 nx')) own e nx' n ∧ Ev own w own (w.setCell ⟨M, 13, none⟩ (.int .i64 nx')) := by
  obtain ⟨⟨vs, mv, lv, Cc, Ct, ub, kb, h1, h2, h3, h4, h5, h6, h7, ⟨m8, h8⟩, ⟨m9, T, h9, h9'⟩, h10, rfl⟩, lo⟩ := h
  have nb : ∀ b, b ≠ M → (w.setCell ⟨M, 13, none⟩ (.int .i64 nx')).heap[b]? = w.heap[b]? := fun b hb => Below.heap_setCell _ _ _ _ hb
  have hl : 13 < vs.length := (List.getElem?_eq_some_iff.1 h7).1
  have hv : ∀ j, j ≠ 13 → (vs.set 13 (.int .i64 nx'))[j]? = vs[j]? := fun j hj => List.getElem?_set_ne (by omega)
  have hub : ub.length = 4 := by obtain ⟨a', c', a, c, rfl⟩ := h4.form; rfl
  refine ⟨⟨⟨vs.set 13 (.int .i64 nx'), mv, lv, Cc, Ct, ub, kb, ⟨h1.arr.set 13 _, (hv _ (by omega)).trans h1.m, (hv _ (by omega)).trans h1.l, (hv _ (by omega)).trans h1.nm, (hv _ (by omega)).trans h1.nl, h1.scp.blocks (fun b q => nb b (by have := (h1.scp.ge q).1; omega)), h1.lt, by simp only [World.setCell, Array.size_modify]; exact h1.le⟩, (hv _ (by omega)).trans h2, fun j v q => (hv _ (by have := (List.getElem?_eq_some_iff.1 q).1; omega)).trans (h3 j v q), h4.move (Keeps.set (by show ¬ M < N; have := h10.2.2; omega) _) (fun _ h => h), (hv _ (by omega)).trans h5, (hv _ (by omega)).trans h6, List.getElem?_set_self hl, ⟨m8, h8.block (nb _ (by omega))⟩, ⟨m9, T, h9.block (nb _ (by omega)), h9'⟩, h10, rfl⟩, h'⟩, ?_⟩
  exact Ev.set (o1 := fun b => b = M ∨ Os mv lv b) (Ev.refl _ _) (p := ⟨M, 13, none⟩) (.inl rfl) _

theorem nxAt_of {N M : Nat} {num : Int} {u : Tt} {C : Int → Bool} {l : List Int} {w : World} {own : Nat → Prop} {e : List (Int × Int)} {nx : Int} {n : Nat} (h : Pt N M num u C l w own e nx n) : nxAt M w = nx := by
  obtain ⟨Cc, Ct, -, -, -, d2, -⟩ := h.cells
  unfold nxAt
  rw [d2]

set_option maxHeartbeats 2000000 in
set_option maxRecDepth 100000 in
theorem given_any (N M : Nat) (num : Int) (u : Tt) (C : Int → Bool) (l : List Int) (w : World) (own : Nat → Prop) (e : List (Int × Int)) (nx : Int) (n : Nat) (x : Int) (hx : R64 x) (h : Pt N M num u C l w own e nx n) (hb : nx + from_ l nx ≤ 4611686018427387904) :
    Calls Tryz.prog 99 #[.pointer (some ⟨M, 0, none⟩), .int .i64 x] w fun r w' => r = .returned (.int .i64 (give C l nx x).1) ∧ Pt N M num u C l w' own e (give C l nx x).2 n ∧ Ev own w own w' ∧ (give C l nx x).2 + from_ l (give C l nx x).2 ≤ nx + from_ l nx + 1 := by
  obtain ⟨Cc, Ct, -, c1, -, -, -, q1, -, hM, hoM⟩ := h.cells
  have q1x := q1 x hx
  have H0 := hid h
  cases hC : C x with
  | false =>
    have HG : Hid (give C l nx x = (x, nx)) := by show _ = _; unfold give; rw [hC]; rfl
    rw [hC] at q1x
    clear h q1 hx hC hb
    generalize give C l nx x = g at HG ⊢
    obtain rfl := HG.out
    go_enter Tryz.func99, Tryz.ntmps99
    go_wp2
    go_ret
    exact ⟨rfl, H0.out.stays (bl_alloc (Below.refl _ _) _), (Ev.refl _ _).alloc _, by show nx + _ ≤ _; omega⟩
  | true =>
    have hres : give C l nx x = (fresh l l.length nx, fresh l l.length nx + 1) := by unfold give; rw [hC]; rfl
    rw [hC] at q1x
    have HF : Hid (∀ f, from_ l nx ≤ f → fresh l f nx = fresh l l.length nx) := fun f hf => fresh_more l _ _ _ hf (from_le l nx)
    rw [hres]
    generalize fresh l l.length nx = res at HF
    have HBd := hid hb
    clear h q1 hx hC hb hres
    go_enter Tryz.func99, Tryz.ntmps99
    go_wp2
    go_loopw [1] (fun _ wr => ∃ nx', Hid (∀ f, from_ l nx' ≤ f → fresh l f nx' = res) ∧ Hid (nx' + from_ l nx' ≤ nx + from_ l nx) ∧ Hid (Pt N M num u C l wr own e nx' n) ∧ Hid (Ev own w own wr)) (fun _ wr => from_ l (nxAt M wr))
    case atStart => exact ⟨nx, HF, hid (Int.le_refl _), hid (H0.out.stays (bl_alloc (Below.refl _ _) _)), hid ((Ev.refl _ _).alloc _)⟩
    case round =>
      obtain ⟨nx', hFr, hBr, hPr, hEr⟩ := hrel
      obtain ⟨Cc', Ct', -, -, d1, d2, d3, -, q2, hM', -⟩ := hPr.out.cells
      have lo := hPr.out.lo
      have hnb : nx' ≤ 4611686018427387904 := by have := HBd.out; have := hBr.out; omega
      have hw : IntKind.i64.wrap (nx' + 1) = nx' + 1 := by rw [IntKind.wrap_i64]; omega
      obtain ⟨p2, e2⟩ := hPr.out.next (nx' + 1) (by omega)
      obtain ⟨Cc2, Ct2, -, -, k1, k2, -, -, q3, -, -⟩ := p2.cells
      have q3x := q3 nx' ⟨by omega, by omega⟩
      have HP2 := hid p2
      have HE2 := hid (hEr.out.trans e2)
      have hnx : Hid (nxAt M wr = nx') := by show _ = _; unfold nxAt; rw [d2]
      have d1k : Ct2 = Ct' := by
        have : wr.cell? ⟨M, 12, none⟩ = (wr.setCell ⟨M, 13, none⟩ (.int .i64 (nx' + 1))).cell? ⟨M, 12, none⟩ := by simp [go_sem]
        rw [d1, k1] at this
        injection this with this
        injection this with this
        injection this with this
        exact this.symm
      subst d1k
      have fz : ∀ ob, (wr.alloc ob).frozen? ⟨M, 13, none⟩ = false := fun ob => by simp [go_sem, hM', d3]
      clear q1x c1 q2 q3 p2 e2 k2
      by_cases hin : nx' ∈ l
      · have hd : decide (nx' ∈ l) = true := decide_eq_true hin
        rw [hd] at q3x
        have hst := from_step hin
        have HF2 : Hid (∀ f, from_ l (nx' + 1) ≤ f → fresh l f (nx' + 1) = res) := fun f hf => by
          rw [fresh_more l f (from_ l nx' + f) (nx' + 1) hf (by have := from_mono l nx'; omega), ← hFr.out (from_ l nx' + f + 1) (by omega), fresh, if_pos hin]
        have HMS : Hid (from_ l (nx' + 1) < from_ l nx') := by show _ < _; omega
        clear hd lo hnb
        go_wp2
        go_roundw
        case rel => exact ⟨nx' + 1, HF2, hid (by have := hBr.out; omega), hid (HP2.out.stays (bl_alloc (Below.refl _ _) _)), hid (HE2.out.alloc _)⟩
        case measure => rw [hnx.out, nxAt_of (HP2.out.stays (bl_alloc (Below.refl _ _) _))]; exact HMS.out
      · have hd : decide (nx' ∈ l) = false := decide_eq_false hin
        rw [hd] at q3x
        have HR : Hid (nx' = res) := by
          show _ = _
          rw [← hFr.out (from_ l nx' + 1) (by omega), fresh, if_neg hin]
        clear hd hin lo hnb
        go_wp2
        go_ret
        exact ⟨ret_int HR.out, by rw [← HR.out]; exact HP2.out.stays (bl_alloc (Below.refl _ _) _), HE2.out.alloc _, by rw [← HR.out]; have := hBr.out; have := from_mono l nx'; show nx' + 1 + _ ≤ _; omega⟩
end Go.Proofs.YtigliglmejkakaaGreat.Tgt
