/- The gatherer's state; the mathematics of what stands free. -/
import Derived.Test.YtfeppchgmobfpaaGreatDoorTgU
namespace Go.Proofs.YtfeppchgmobfpaaGreatDoor
open Go.RowKit
set_option linter.unusedVariables false
set_option linter.unusedSimpArgs false

abbrev SM : TypeId := 54
abbrev GT : TypeId := 72
theorem zero_unit (w : World) : (zeroValue 55).run Tryz.prog w = .ok (.agg #[]) w := by kernel_rfl
/-- Block C is a set of numbers. -/
def SetIs (w : World) (C n : Nat) (S : Int → Bool) : Prop := ∃ D : DataW Unit, w.ownsMap Tryz.prog 3 unitElem C n D ∧ Maps.IsMap D ∧ ∀ x : Int, Maps.has D (.int .i64 x) = S x
theorem SetIs.lt {w : World} {C n : Nat} {S : Int → Bool} (h : SetIs w C n S) : C < w.heap.size := by obtain ⟨D, h1, -⟩ := h; exact h1.lt
theorem SetIs.le {w : World} {C n m : Nat} {S : Int → Bool} (h : SetIs w C n S) (hn : n ≤ m) : SetIs w C m S := by obtain ⟨D, h1, h2⟩ := h; exact ⟨D, h1.mono hn, h2⟩
theorem SetIs.block {w w' : World} {C n : Nat} {S : Int → Bool} (h : SetIs w C n S) (hb : w'.heap[C]? = w.heap[C]?) : SetIs w' C n S := by
  obtain ⟨D, ⟨es, cl, h1, h3⟩, h2⟩ := h
  exact ⟨D, ⟨es, cl, hb.trans h1, h3⟩, h2⟩
theorem SetIs.look {w : World} {C n : Nat} {S : Int → Bool} (h : SetIs w C n S) (x : Int) (hx : R64 x) : (Instr.lookup SM (.map (some C)) (.int .i64 x) true).run Tryz.prog w = .ok (.tuple #[.agg #[], .bool (S x)]) w := by
  obtain ⟨D, h1, h2, h3⟩ := h
  obtain ⟨v, ps, hr, hv⟩ := h1.look_ok int_key Tryz.underlying54 (zero_unit w) unitElem_mk (Maps.keyOf_int_mk Tryz.underlying3 (wf_of hx))
  obtain ⟨rfl, -⟩ := unitElem_inv hv
  rw [hr, h3]
theorem SetIs.put {w : World} {C n : Nat} {S : Int → Bool} (h : SetIs w C n S) (x : Int) (hx : R64 x) (hn : n < maxLen) : ∃ w', (Instr.mapUpdate SM (.map (some C)) (.int .i64 x) (.agg #[])).run Tryz.prog w = .ok () w' ∧ SetIs w' C (n + 1) (fun y => S y || y == x) ∧ w.grownBy w' (some C) := by
  obtain ⟨D, h1, h2, h3⟩ := h
  obtain ⟨w', hr, h4, h5⟩ := h1.store int_key Tryz.underlying54 hn (Maps.keyOf_int_mk Tryz.underlying3 (wf_of hx)) unitElem_mk
  refine ⟨w', hr, ⟨_, h4, h4.isMap, fun y => ?_⟩, h5.grown⟩
  by_cases e : y = x
  · subst e
    rw [Maps.has_put_same h2 (keylit y)]
    simp
  · rw [Maps.has_put_other (fun h => e (by injection h)), h3]
    simp [e]
theorem set_new (w : World) : SetIs (w.alloc (.map #[] 0)) w.heap.size 0 (fun _ => false) := ⟨_, World.ownsMap_made w _ _ _, ⟨_, rfl⟩, fun x => by simp [Maps.has]⟩
mutual
/-- Does the number stand free? -/
def Tt.fv : Tt → List (Int × Int) → Int → Bool
  | .mk k n ls ks => fun e x => (k == 6 && (n == x && (lk e x).isNone)) || Tt.fvL ks ((Tt.mk k n ls ks).env e) x
def Tt.fvL : List Tt → List (Int × Int) → Int → Bool
  | [] => fun _ _ => false
  | t :: r => fun e x => Tt.fv t e x || Tt.fvL r e x
end
mutual
/-- Does the number stand there, free or bound, or does it bind? -/
def Tt.av : Tt → Int → Bool
  | .mk k n ls ks => fun x => ((k == 6 || (Tt.mk k n ls ks).binds) && n == x) || Tt.avL ks x
def Tt.avL : List Tt → Int → Bool
  | [] => fun _ => false
  | t :: r => fun x => Tt.av t x || Tt.avL r x
end
theorem Tt.fv_mk (t : Tt) (e : List (Int × Int)) (x : Int) : t.fv e x = ((t.k == 6 && (t.n == x && (lk e x).isNone)) || Tt.fvL t.ks (t.env e) x) := by cases t; rw [Tt.fv]; rfl
theorem Tt.av_mk (t : Tt) (x : Int) : t.av x = (((t.k == 6 || t.binds) && t.n == x) || Tt.avL t.ks x) := by cases t; rw [Tt.av]; rfl
theorem Tt.fvL_drop {l : List Tt} {k : Nat} {t : Tt} (ht : l[k]? = some t) (e : List (Int × Int)) (x : Int) : Tt.fvL (l.drop k) e x = (t.fv e x || Tt.fvL (l.drop (k + 1)) e x) := by rw [Tt.drop_at ht, Tt.fvL]
theorem Tt.avL_drop {l : List Tt} {k : Nat} {t : Tt} (ht : l[k]? = some t) (x : Int) : Tt.avL (l.drop k) x = (t.av x || Tt.avL (l.drop (k + 1)) x) := by rw [Tt.drop_at ht, Tt.avL]
/-- The gatherer in block M: what is bound; the set of free numbers, and of all. -/
def Gt (L M : Nat) (w : World) (own : Nat → Prop) (e : List (Int × Int)) (F A : Int → Bool) (n : Nat) : Prop :=
  ∃ vs mv lv Cf Ca, Wk w M GT vs 0 (M + 1) mv lv e n ∧ vs[6]? = some (.map (some Cf)) ∧ vs[7]? = some (.map (some Ca)) ∧ SetIs w Cf n F ∧ SetIs w Ca n A ∧ (L ≤ Cf ∧ Cf < M ∧ L ≤ Ca ∧ Ca < M ∧ Cf ≠ Ca) ∧ own = fun b => b = M ∨ Os mv lv b ∨ b = Cf ∨ b = Ca
theorem Gt.own {L M : Nat} {w : World} {own : Nat → Prop} {e : List (Int × Int)} {F A : Int → Bool} {n : Nat} (h : Gt L M w own e F A n) : ∀ b, own b → L ≤ b ∧ b < w.heap.size := by
  obtain ⟨vs, mv, lv, Cf, Ca, h1, h2, h3, h4, h5, h6, rfl⟩ := h
  intro b hb
  have := h1.arr.lt
  rcases hb with rfl | hb | rfl | rfl
  · omega
  · have := h1.scp.ge hb; omega
  · omega
  · omega
theorem Gt.block {L M : Nat} {w w' : World} {own : Nat → Prop} {e : List (Int × Int)} {F A : Int → Bool} {n : Nat} (h : Gt L M w own e F A n) (hb : ∀ b, own b → w'.heap[b]? = w.heap[b]?) (hs : w.heap.size ≤ w'.heap.size) : Gt L M w' own e F A n := by
  obtain ⟨vs, mv, lv, Cf, Ca, h1, h2, h3, h4, h5, h6, rfl⟩ := h
  exact ⟨vs, mv, lv, Cf, Ca, ⟨⟨(hb M (.inl rfl)).trans h1.arr.b⟩, h1.m, h1.l, h1.nm, h1.nl, h1.scp.blocks (fun b q => hb b (.inr (.inl q))), h1.lt, Nat.le_trans h1.le hs⟩, h2, h3, h4.block (hb Cf (.inr (.inr (.inl rfl)))), h5.block (hb Ca (.inr (.inr (.inr rfl)))), h6, rfl⟩
theorem Gt.stays {L M : Nat} {w w' : World} {own : Nat → Prop} {e : List (Int × Int)} {F A : Int → Bool} {n : Nat} (h : Gt L M w own e F A n) (hb : Below w.heap.size w w') : Gt L M w' own e F A n := h.block (fun b q => hb.block b (h.own b q).2) hb.size
theorem Gt.up {L M : Nat} {w : World} {own : Nat → Prop} {e : List (Int × Int)} {F A : Int → Bool} {n m : Nat} (h : Gt L M w own e F A n) (hn : n ≤ m) : Gt L M w own e F A m := by
  obtain ⟨vs, mv, lv, Cf, Ca, h1, h2, h3, h4, h5, h6, h7⟩ := h
  exact ⟨vs, mv, lv, Cf, Ca, h1.up hn, h2, h3, h4.le hn, h5.le hn, h6, h7⟩
theorem Gt.other {L M : Nat} {w : World} {own : Nat → Prop} {e : List (Int × Int)} {F A : Int → Bool} {n : Nat} (h : Gt L M w own e F A n) {p : Addr} (hp : ¬ own p.block) (v : Value) : Gt L M (w.setCell p v) own e F A n := h.block (fun b q => Below.heap_setCell _ _ _ _ (fun e => hp (e ▸ q))) (by simp only [World.setCell, Array.size_modify]; exact Nat.le_refl _)
/-- The walker in it. -/
theorem Gt.walk {L M : Nat} {w : World} {own : Nat → Prop} {e : List (Int × Int)} {F A : Int → Bool} {n : Nat} (h : Gt L M w own e F A n) : ∃ vs mv lv, Wk w M GT vs 0 (M + 1) mv lv e n ∧ ∀ w' vs' mv' lv' e' n', n ≤ n' → vs' = (vs.set (0 + 2) mv').set (0 + 2 + 1) lv' → Wk w' M GT vs' 0 (M + 1) mv' lv' e' n' → Ev (Om M mv lv) w (Om M mv' lv') w' → ∃ own', Gt L M w' own' e' F A n' ∧ Ev own w own' w' := by
  obtain ⟨vs, mv, lv, Cf, Ca, h1, h2, h3, h4, h5, h6, rfl⟩ := h
  refine ⟨vs, mv, lv, h1, fun w' vs' mv' lv' e' n' hn hvs h' hev => ?_⟩
  obtain ⟨-, -, g3⟩ := set_two (mv' := mv') (lv' := lv') h1.m h1.l
  have hM := h1.arr.lt
  have nb : ∀ C, C < M → ¬ Om M mv lv C := fun C hC hq => by
    rcases hq with hq | hq
    · omega
    · have := h1.scp.ge hq; omega
  refine ⟨_, ⟨vs', mv', lv', Cf, Ca, h', ?_, ?_, (h4.block (hev.block Cf (by omega) (nb Cf h6.2.1))).le hn, (h5.block (hev.block Ca (by omega) (nb Ca h6.2.2.2.1))).le hn, h6, rfl⟩, ⟨hev.os, hev.tape, hev.output, hev.size, fun b hb => ?_, fun b hb hq => hev.block b hb (fun h => hq (h.elim .inl (fun h => .inr (.inl h))))⟩⟩
  · rw [hvs]; exact (g3 6 (by omega) (by omega)).trans h2
  · rw [hvs]; exact (g3 7 (by omega) (by omega)).trans h3
  · rcases hb with rfl | hb | hb
    · exact .inl (.inl rfl)
    · exact (hev.mine b (.inr hb)).imp (fun h => h.elim .inl (fun h => .inr (.inl h))) id
    · exact .inl (.inr (.inr hb))
theorem Gt.keeps {L M : Nat} {w w' : World} {own own' : Nat → Prop} {e : List (Int × Int)} {F A : Int → Bool} {n : Nat} (h : Gt L M w own e F A n) (hev : Ev own w own' w') : Keeps (fun b => b < L) w w' := hev.lt (fun b hb => (h.own b hb).1)
theorem set_ev {w w' : World} {own : Nat → Prop} {C : Nat} (hg : w.grownBy w' (some C)) (hC : own C) : Ev own w own w' := ⟨hg.os, hg.tape, hg.output, hg.size, fun _ h => .inl h, fun b hb hn => hg.block b hb (fun e => hn ((Option.some.inj e) ▸ hC))⟩
theorem Gt.putA {L M : Nat} {w : World} {own : Nat → Prop} {e : List (Int × Int)} {F A : Int → Bool} {n : Nat} (h : Gt L M w own e F A n) : ∃ Ca, w.cell? ⟨M, 7, none⟩ = some (.map (some Ca)) ∧ L ≤ Ca ∧ Ca < M ∧ ∀ x, R64 x → n < maxLen → ∃ w', (Instr.mapUpdate SM (.map (some Ca)) (.int .i64 x) (.agg #[])).run Tryz.prog w = .ok () w' ∧ Gt L M w' own e F (fun y => A y || y == x) (n + 1) ∧ Ev own w own w' ∧ w.grownBy w' (some Ca) := by
  obtain ⟨vs, mv, lv, Cf, Ca, h1, h2, h3, h4, h5, h6, rfl⟩ := h
  refine ⟨Ca, (h1.arr.cell 7).trans h3, h6.2.2.1, h6.2.2.2.1, fun x hx hn => ?_⟩
  obtain ⟨w', r1, r2, r3⟩ := h5.put x hx hn
  have hM := h1.arr.lt
  have nb : ∀ b, b < w.heap.size → b ≠ Ca → w'.heap[b]? = w.heap[b]? := fun b hb hne => grown_ne r3 hb hne
  refine ⟨w', r1, ⟨vs, mv, lv, Cf, Ca, ⟨⟨(nb M hM (by omega)).trans h1.arr.b⟩, h1.m, h1.l, h1.nm, h1.nl, (h1.scp.blocks (fun b q => nb b (h1.scp.ge q).2 (by have := (h1.scp.ge q).1; omega))).le (by omega), h1.lt, Nat.le_trans h1.le r3.size⟩, h2, h3, (h4.block (nb Cf (by omega) h6.2.2.2.2)).le (by omega), r2, h6, rfl⟩, set_ev r3 (.inr (.inr (.inr rfl))), r3⟩
theorem Gt.putF {L M : Nat} {w : World} {own : Nat → Prop} {e : List (Int × Int)} {F A : Int → Bool} {n : Nat} (h : Gt L M w own e F A n) : ∃ Cf, w.cell? ⟨M, 6, none⟩ = some (.map (some Cf)) ∧ L ≤ Cf ∧ Cf < M ∧ ∀ x, R64 x → n < maxLen → ∃ w', (Instr.mapUpdate SM (.map (some Cf)) (.int .i64 x) (.agg #[])).run Tryz.prog w = .ok () w' ∧ Gt L M w' own e (fun y => F y || y == x) A (n + 1) ∧ Ev own w own w' ∧ w.grownBy w' (some Cf) := by
  obtain ⟨vs, mv, lv, Cf, Ca, h1, h2, h3, h4, h5, h6, rfl⟩ := h
  refine ⟨Cf, (h1.arr.cell 6).trans h2, h6.1, h6.2.1, fun x hx hn => ?_⟩
  obtain ⟨w', r1, r2, r3⟩ := h4.put x hx hn
  have hM := h1.arr.lt
  have nb : ∀ b, b < w.heap.size → b ≠ Cf → w'.heap[b]? = w.heap[b]? := fun b hb hne => grown_ne r3 hb hne
  refine ⟨w', r1, ⟨vs, mv, lv, Cf, Ca, ⟨⟨(nb M hM (by omega)).trans h1.arr.b⟩, h1.m, h1.l, h1.nm, h1.nl, (h1.scp.blocks (fun b q => nb b (h1.scp.ge q).2 (by have := (h1.scp.ge q).1; omega))).le (by omega), h1.lt, Nat.le_trans h1.le r3.size⟩, h2, h3, r2, (h5.block (nb Ca (by omega) (fun e => h6.2.2.2.2 e.symm))).le (by omega), h6, rfl⟩, set_ev r3 (.inr (.inr (.inl rfl))), r3⟩
end Go.Proofs.YtfeppchgmobfpaaGreatDoor
