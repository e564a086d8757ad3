/- What is bound: a map and a list of what was hidden. -/
import Derived.Maps.OwnSet
import Derived.Test.YtfeppchgmobfpaaGreatDoorTgN
namespace Go.Proofs.YtfeppchgmobfpaaGreatDoor
open Go.RowKit
set_option linter.unusedVariables false
set_option linter.unusedSimpArgs false

abbrev HT : TypeId := 162
abbrev IM : TypeId := 60
theorem int_key : Maps.Keyed Tryz.prog 3 := Maps.int_keyed Tryz.underlying3
theorem zero_int (w : World) : (zeroValue 3).run Tryz.prog w = .ok (.int .i64 0) w := by kernel_rfl
theorem keylit (x : Int) : WideAt.IsKeyLit (.int .i64 x) := by simp [WideAt.IsKeyLit]
theorem wf_of {x : Int} (hx : R64 x) : (Lit.int .i64 x).wf = true := by obtain ⟨a, b⟩ := hx; simp [Lit.wf, IntKind.min, IntKind.max, IntKind.signed, IntKind.bits]; omega
theorem r64_zero : R64 0 := ⟨by decide, by decide⟩
/-- Block C is a map that tells what lk tells. -/
def MapIs (w : World) (C n : Nat) (e : List (Int × Int)) : Prop := ∃ D : DataW Unit, w.ownsMap Tryz.prog 3 (plainElem Tryz.prog 3) C n D ∧ Maps.IsMap D ∧ ∀ x : Int, (lk e x = none → Maps.has D (.int .i64 x) = false) ∧ ∀ a, lk e x = some a → Maps.has D (.int .i64 x) = true ∧ ∀ z, D.atKey (.int .i64 x) z = .lit (.int .i64 a)
theorem MapIs.lt {w : World} {C n : Nat} {e : List (Int × Int)} (h : MapIs w C n e) : C < w.heap.size := by obtain ⟨D, h1, -⟩ := h; exact h1.lt
theorem MapIs.le {w : World} {C n m : Nat} {e : List (Int × Int)} (h : MapIs w C n e) (hn : n ≤ m) : MapIs w C m e := by obtain ⟨D, h1, h2⟩ := h; exact ⟨D, h1.mono hn, h2⟩
theorem MapIs.kept {w w' : World} {C n : Nat} {e : List (Int × Int)} {row : Option Nat} (h : MapIs w C n e) (hg : w.grownBy w' row) (hne : some C ≠ row) : MapIs w' C n e := by
  obtain ⟨D, h1, h2⟩ := h
  exact ⟨D, h1.kept hg hne, h2⟩
theorem MapIs.block {w w' : World} {C n : Nat} {e : List (Int × Int)} (h : MapIs w C n e) (hb : w'.heap[C]? = w.heap[C]?) : MapIs w' C n e := by
  obtain ⟨D, ⟨es, cl, h1, h3⟩, h2⟩ := h
  exact ⟨D, ⟨es, cl, hb.trans h1, h3⟩, h2⟩
theorem MapIs.stays {w w' : World} {C n : Nat} {e : List (Int × Int)} (h : MapIs w C n e) (hb : Below w.heap.size w w') : MapIs w' C n e := h.block (hb.block C h.lt)
theorem MapIs.look {w : World} {C n : Nat} {e : List (Int × Int)} (h : MapIs w C n e) (x : Int) (hx : R64 x) : (Instr.lookup IM (.map (some C)) (.int .i64 x) true).run Tryz.prog w = .ok (.tuple #[.int .i64 ((lk e x).getD 0), .bool (lk e x).isSome]) w := by
  obtain ⟨D, h1, h2, h3⟩ := h
  obtain ⟨v, ps, hr, hv⟩ := h1.look_ok int_key Tryz.underlying60 (zero_int w) (plainElem_int Tryz.underlying3 (by decide)) (Maps.keyOf_int_mk Tryz.underlying3 (wf_of hx))
  obtain ⟨c, rfl, hc, -⟩ := plainElem_int_inv Tryz.underlying3 hv
  rw [hr]
  cases hl : lk e x with
  | none =>
    have h4 := (h3 x).1 hl
    rw [Maps.atKey_of_not_has h4] at hc
    have : c = 0 := by simp only [Prod.mk.injEq, DataW.lit.injEq, Lit.int.injEq, true_and] at hc; exact hc.1.symm
    simp [h4, this]
  | some a =>
    obtain ⟨h4, h5⟩ := (h3 x).2 a hl
    rw [h5] at hc
    have : c = a := by simp only [Prod.mk.injEq, DataW.lit.injEq, Lit.int.injEq, true_and] at hc; exact hc.1.symm
    simp [h4, this]
theorem MapIs.put_gen {w : World} {C n : Nat} {e e' : List (Int × Int)} (h : MapIs w C n e) (x a : Int) (hx : R64 x) (ha : R64 a) (hn : n < maxLen) (he : lk e' x = some a) (he2 : ∀ y, y ≠ x → lk e' y = lk e y) : ∃ w', (Instr.mapUpdate IM (.map (some C)) (.int .i64 x) (.int .i64 a)).run Tryz.prog w = .ok () w' ∧ MapIs w' C (n + 1) e' ∧ w.grownBy w' (some C) := by
  obtain ⟨D, h1, h2, h3⟩ := h
  obtain ⟨w', hr, h4, h5⟩ := h1.store int_key Tryz.underlying60 hn (Maps.keyOf_int_mk Tryz.underlying3 (wf_of hx)) (plainElem_int Tryz.underlying3 (wf_of ha))
  refine ⟨w', hr, ⟨_, h4, h4.isMap, fun y => ?_⟩, h5.grown⟩
  by_cases hy : y = x
  · subst hy
    rw [he]
    refine ⟨fun h => (by cases h), fun b hb => ?_⟩
    injection hb with hb
    subst hb
    exact ⟨Maps.has_put_same h2 (keylit y) _, fun z => Maps.atKey_put_same h2 (keylit y) _ _⟩
  · have hne : (Lit.int .i64 y) ≠ .int .i64 x := fun e => hy (by injection e)
    rw [he2 y hy, Maps.has_put_other hne]
    refine ⟨(h3 y).1, fun b hb => ⟨((h3 y).2 b hb).1, fun z => ?_⟩⟩
    rw [Maps.atKey_put_other hne]
    exact ((h3 y).2 b hb).2 z
theorem MapIs.put {w : World} {C n : Nat} {e : List (Int × Int)} (h : MapIs w C n e) (x a : Int) (hx : R64 x) (ha : R64 a) (hn : n < maxLen) : ∃ w', (Instr.mapUpdate IM (.map (some C)) (.int .i64 x) (.int .i64 a)).run Tryz.prog w = .ok () w' ∧ MapIs w' C (n + 1) ((x, a) :: e) ∧ w.grownBy w' (some C) :=
  h.put_gen x a hx ha hn (by rw [lk_cons, if_pos rfl]) (fun y hy => by rw [lk_cons, if_neg (fun e => hy e.symm)])
theorem MapIs.back1 {w : World} {C n : Nat} {p : Int × Int} {r : List (Int × Int)} (h : MapIs w C n (p :: r)) (hx : R64 p.1) {a : Int} (hl : lk r p.1 = some a) (ha : R64 a) (hn : n < maxLen) : ∃ w', (Instr.mapUpdate IM (.map (some C)) (.int .i64 p.1) (.int .i64 a)).run Tryz.prog w = .ok () w' ∧ MapIs w' C (n + 1) r ∧ w.grownBy w' (some C) :=
  h.put_gen p.1 a hx ha hn hl (fun y hy => by rw [lk_cons, if_neg (fun e => hy e.symm)])
theorem MapIs.back2 {w : World} {C n : Nat} {p : Int × Int} {r : List (Int × Int)} (h : MapIs w C n (p :: r)) (hx : R64 p.1) (hl : lk r p.1 = none) (ty : TypeId) : ∃ w', (Builtin.delete_ #[IM, 3] ty #[.map (some C), .int .i64 p.1]).run Tryz.prog w = .ok (.tuple #[]) w' ∧ MapIs w' C n r ∧ w.grownBy w' (some C) := by
  obtain ⟨D, h1, h2, h3⟩ := h
  obtain ⟨w', hr, h4, h5⟩ := h1.drop int_key Tryz.underlying60 (Maps.keyOf_int_mk Tryz.underlying3 (wf_of hx)) ty
  refine ⟨w', hr, ⟨_, h4, h4.isMap, fun y => ?_⟩, h5.grown⟩
  by_cases hy : y = p.1
  · subst hy
    rw [hl]
    exact ⟨fun _ => Maps.has_del_same, fun b hb => (by cases hb)⟩
  · have hne : (Lit.int .i64 y) ≠ .int .i64 p.1 := fun e => hy (by injection e)
    have hl2 : lk (p :: r) y = lk r y := by rw [lk_cons, if_neg (fun e => hy e.symm)]
    rw [Maps.has_del_other hne, ← hl2]
    refine ⟨(h3 y).1, fun b hb => ⟨((h3 y).2 b hb).1, fun z => ?_⟩⟩
    rw [Maps.atKey_del_other hne]
    exact ((h3 y).2 b hb).2 z
theorem map_new (w : World) : MapIs (w.alloc (.map #[] 0)) w.heap.size 0 [] := ⟨_, World.ownsMap_made w _ _ _, ⟨_, rfl⟩, fun x => ⟨fun _ => by simp [Maps.has], fun a h => (by cases h)⟩⟩
/-- What was hidden. -/
def hidc : List (Int × Int) → List Value
  | [] => []
  | p :: r => hidc r ++ [.int .i64 p.1, .int .i64 ((lk r p.1).getD 0), .bool (lk r p.1).isSome]
theorem hidc_len (e : List (Int × Int)) : (hidc e).length = e.length * 3 := by
  induction e with
  | nil => rfl
  | cons p r ih => rw [hidc, List.length_append, ih]; simp; omega
/-- The map's block. -/
def mapBlk : Value → Option Nat
  | .map b => b
  | _ => none
/-- A scope: its map mv, its list lv; all that it owns lies from B on. -/
structure Scp (w : World) (B : Nat) (mv lv : Value) (e : List (Int × Int)) (n : Nat) : Prop where
  row : w.ownsRow B HT 3 lv e.length (hidc e)
  map : (mv = .map none ∧ e = []) ∨ ∃ C, mv = .map (some C) ∧ B ≤ C ∧ MapIs w C n e
  good : ∀ p ∈ e, R64 p.1 ∧ R64 p.2
/-- What a scope owns. -/
def Os (mv lv : Value) : Nat → Prop := fun b => mapBlk mv = some b ∨ lv.ownBlock = some b
theorem Scp.ge {w : World} {B : Nat} {mv lv : Value} {e : List (Int × Int)} {n : Nat} (h : Scp w B mv lv e n) {b : Nat} (hb : Os mv lv b) : B ≤ b ∧ b < w.heap.size := by
  rcases hb with hb | hb
  · rcases h.map with ⟨rfl, -⟩ | ⟨C, rfl, h1, h2⟩
    · cases hb
    · injection hb with hb
      subst hb
      exact ⟨h1, h2.lt⟩
  · exact h.row.lt b hb
theorem Scp.le {w : World} {B : Nat} {mv lv : Value} {e : List (Int × Int)} {n m : Nat} (h : Scp w B mv lv e n) (hn : n ≤ m) : Scp w B mv lv e m := by
  refine ⟨h.row, ?_, h.good⟩
  rcases h.map with h1 | ⟨C, h1, h2, h3⟩
  · exact .inl h1
  · exact .inr ⟨C, h1, h2, h3.le hn⟩
theorem own_block {w w' : World} {base : Nat} {e : TypeId} {size : Nat} {v : Value} {n : Nat} {xs : List Value} (h : w.ownsRow base e size v n xs) (hb : ∀ b, v.ownBlock = some b → w'.heap[b]? = w.heap[b]?) : w'.ownsRow base e size v n xs := by
  refine ⟨h.1, ?_⟩
  rcases h.2 with h1 | ⟨g, cap, cur, rfl, h2, h3, h4⟩
  · exact .inl h1
  · exact .inr ⟨g, cap, cur, rfl, h2, (hb g rfl).trans h3, h4⟩
/-- A scope stays while its own blocks do. -/
theorem Scp.blocks {w w' : World} {B : Nat} {mv lv : Value} {e : List (Int × Int)} {n : Nat} (h : Scp w B mv lv e n) (hb : ∀ b, Os mv lv b → w'.heap[b]? = w.heap[b]?) : Scp w' B mv lv e n := by
  refine ⟨own_block h.row (fun b hb2 => hb b (.inr hb2)), ?_, h.good⟩
  rcases h.map with h1 | ⟨C, rfl, h2, h3⟩
  · exact .inl h1
  · exact .inr ⟨C, rfl, h2, h3.block (hb C (.inl rfl))⟩
theorem Scp.stays {w w' : World} {B : Nat} {mv lv : Value} {e : List (Int × Int)} {n : Nat} (h : Scp w B mv lv e n) (hb : Below w.heap.size w w') : Scp w' B mv lv e n := h.blocks (fun b h1 => hb.block b (h.ge h1).2)
theorem Scp.init (w : World) (B : Nat) : Scp w B (.map none) (.slice none 0 0) [] 0 := ⟨World.ownsRow_nil _ _ _ _, .inl ⟨rfl, rfl⟩, fun p hp => by cases hp⟩
/-- The i-th of what was hidden is the last one. -/
theorem Scp.form {w : World} {B : Nat} {mv lv : Value} {e : List (Int × Int)} {n : Nat} (h : Scp w B mv lv e n) : ∃ a c, lv = .slice a e.length c := by
  rcases h.row.2 with ⟨rfl, h1⟩ | ⟨g, cap, cur, rfl, -⟩
  · rw [h1]; exact ⟨_, _, rfl⟩
  · exact ⟨_, _, rfl⟩
theorem Scp.len {w : World} {B : Nat} {mv lv : Value} {e : List (Int × Int)} {n : Nat} (h : Scp w B mv lv e n) : e.length ≤ maxLen := by
  rcases h.row.2 with ⟨rfl, h1⟩ | ⟨g, cap, cur, rfl, h2, h3, h4, h5, -⟩
  · rw [h1]; exact Nat.zero_le _
  · exact Nat.le_trans h4 h5
end Go.Proofs.YtfeppchgmobfpaaGreatDoor
