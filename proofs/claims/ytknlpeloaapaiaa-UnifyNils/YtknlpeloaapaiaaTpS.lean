/- The gatherer: the numbers of the nodes of a kind, each once. -/
import Derived.Maps.OwnSet
import Derived.Test.YtknlpeloaapaiaaTpWb
import Derived.Test.YtknlpeloaapaiaaTpCp
import Derived.Test.YtknlpeloaapaiaaTpF
import Derived.Deep.RegionHeld
namespace Go.Proofs.Ytknlpeloaapaiaa
open Go.RowKit
set_option linter.unusedVariables false
set_option linter.unusedSimpArgs false

theorem int_key : Maps.Keyed Try.prog 3 := Maps.int_keyed Try.underlying3
theorem zero_unit (w : World) : (zeroValue 103).run Try.prog w = .ok (.agg #[]) w := by kernel_rfl
def Told (w : World) (C n : Nat) (s : List Int) : Prop := ∃ D : DataW Unit, w.ownsMap Try.prog 3 unitElem C n D ∧ Maps.IsMap D ∧ ∀ x : Int, Maps.has D (.int .i64 x) = decide (x ∈ s)
/-- The gatherer in block M, its map in block C. -/
structure Gth (M C : Nat) (kind : Int) (lv : Value) (s : List Int) (w : World) : Prop where
  b : Arr w M 116 [.int .i64 kind, lv, .map (some C)]
  own : w.ownsRow (M + 1) 3 1 lv s.length (s.map (.int .i64))
  told : Told w C s.length s
  lt : C < M
theorem Told.stays {w w' : World} {C n : Nat} {s : List Int} (h : Told w C n s) (hb : Below w.heap.size w w') : Told w' C n s := by
  obtain ⟨D, h1, h2, h3⟩ := h
  exact ⟨D, h1.kept (row := none) ⟨hb.os, hb.tape, hb.output, hb.size, fun b hb2 _ => hb.block b hb2⟩ (by simp), h2, h3⟩
theorem Gth.stays {M C : Nat} {kind : Int} {lv : Value} {s : List Int} {w w' : World} (h : Gth M C kind lv s w) (hb : Below w.heap.size w w') : Gth M C kind lv s w' := ⟨h.b.stays hb, own_stays h.own hb, h.told.stays hb, h.lt⟩
theorem keylit (x : Int) : WideAt.IsKeyLit (.int .i64 x) := by simp [WideAt.IsKeyLit]
/-- Is it there? -/
theorem Told.look {w : World} {C n : Nat} {s : List Int} (h : Told w C n s) (x : Int) (hx : R64 x) : (Instr.lookup 60 (.map (some C)) (.int .i64 x) true).run Try.prog w = .ok (.tuple #[.agg #[], .bool (decide (x ∈ s))]) w := by
  obtain ⟨D, h1, h2, h3⟩ := h
  have hw : (Lit.int .i64 x).wf = true := by obtain ⟨a, b⟩ := hx; simp [Lit.wf, IntKind.min, IntKind.max, IntKind.signed, IntKind.bits]; omega
  obtain ⟨v, ps, hr, hv⟩ := h1.look_ok int_key Try.underlying60 (zero_unit w) unitElem_mk (Maps.keyOf_int_mk Try.underlying3 hw)
  obtain ⟨rfl, -⟩ := unitElem_inv hv
  rw [hr, h3]
theorem Told.put {w : World} {C n : Nat} {s : List Int} (h : Told w C n s) (x : Int) (hx : R64 x) (hn : n < maxLen) : ∃ w', (Instr.mapUpdate 60 (.map (some C)) (.int .i64 x) (.agg #[])).run Try.prog w = .ok () w' ∧ Told w' C (n + 1) (s ++ [x]) ∧ w.grownBy w' (some C) := by
  obtain ⟨D, h1, h2, h3⟩ := h
  have hw : (Lit.int .i64 x).wf = true := by obtain ⟨a, b⟩ := hx; simp [Lit.wf, IntKind.min, IntKind.max, IntKind.signed, IntKind.bits]; omega
  obtain ⟨w', hr, h4, h5⟩ := h1.store int_key Try.underlying60 hn (Maps.keyOf_int_mk Try.underlying3 hw) unitElem_mk
  refine ⟨w', hr, ⟨_, h4, h4.isMap, fun y => ?_⟩, h5.grown⟩
  by_cases e : y = x
  · subst e
    rw [Maps.has_put_same h2 (keylit y)]
    simp
  · rw [Maps.has_put_other (fun h => e (by injection h)), h3]
    simp [e]
theorem told_new (w : World) : Told (w.alloc (.map #[] 0)) w.heap.size 0 [] := ⟨_, World.ownsMap_made w _ _ _, ⟨_, rfl⟩, fun x => by simp [Maps.has]⟩
end Go.Proofs.Ytknlpeloaapaiaa
