/- TreeSames: the walk. -/
import Derived.Deep.RegionHeld
import Derived.Test.YtgiegjghldhppaaNdXZ
namespace Go.Proofs.Ytgiegjghldhppaa
open Go.RowKit
set_option linter.unusedVariables false
set_option linter.unusedSimpArgs false

theorem sameSelf_any (n : Nat) (w : World) (v : Value) (xs : List Nd) (h : AtL w Any n 3 v xs) : Calls Try.prog 6 #[v, v] w fun e w' => e = .returned (.bool true) ∧ Below w.heap.size w w' := by
  have := sameDecs_any n w v v xs xs h h
  rwa [Nd.eqL_true.2 rfl] at this

set_option maxHeartbeats 4000000 in
set_option maxRecDepth 100000 in
theorem sames_walk (w : World) (na nb nx ny : Nat) (va : Value) (La : List Nd) (ha : AtL w Any na 3 va La) (vb : Value) (Lb : List Nd) (hb : AtL w Any nb 3 vb Lb) (vsx : List Value) (Nx : Nd) (hx : At w Any nx 2 vsx Nx) (vsy : List Value) (Ny : Nd) (hy : At w Any ny 2 vsy Ny) :
    Calls Try.prog 3 #[va, vb, .agg vsx.toArray, .agg vsy.toArray] w fun e w' => e = .returned (.bool true) ∧ Below w.heap.size w w' := by
  obtain ⟨i0x, i1x, i2x, a3x, n3x, c3x, d0x, m0x, e0x, d1x, m1x, e1x, d2x, m2x, e2x, d3x, m3x, e3x, rfl⟩ := At.exp_form hx
  obtain ⟨i0y, i1y, i2y, a3y, n3y, c3y, d0y, m0y, e0y, d1y, m1y, e1y, d2y, m2y, e2y, d3y, m3y, e3y, rfl⟩ := At.exp_form hy
  obtain ⟨ada, cpa, rfl, -⟩ := ha.form
  obtain ⟨adb, cpb, rfl, -⟩ := hb.form
  have hW : Below w.heap.size w ((w.alloc (.cells #[.int .i64 i0x, .int .i64 i1x, .int .i64 i2x, .slice a3x n3x c3x, .slice d0x m0x e0x, .slice d1x m1x e1x, .slice d2x m2x e2x, .slice d3x m3x e3x] 28)).alloc (.cells #[.int .i64 i0y, .int .i64 i1y, .int .i64 i2y, .slice a3y n3y c3y, .slice d0y m0y e0y, .slice d1y m1y e1y, .slice d2y m2y e2y, .slice d3y m3y e3y] 28)) := bl_alloc (bl_alloc (Below.refl _ _) _) _
  have bx0 : Hid (∀ wz, Below ((w.alloc (.cells #[.int .i64 i0x, .int .i64 i1x, .int .i64 i2x, .slice a3x n3x c3x, .slice d0x m0x e0x, .slice d1x m1x e1x, .slice d2x m2x e2x, .slice d3x m3x e3x] 28)).alloc (.cells #[.int .i64 i0y, .int .i64 i1y, .int .i64 i2y, .slice a3y n3y c3y, .slice d0y m0y e0y, .slice d1y m1y e1y, .slice d2y m2y e2y, .slice d3y m3y e3y] 28)).heap.size ((w.alloc (.cells #[.int .i64 i0x, .int .i64 i1x, .int .i64 i2x, .slice a3x n3x c3x, .slice d0x m0x e0x, .slice d1x m1x e1x, .slice d2x m2x e2x, .slice d3x m3x e3x] 28)).alloc (.cells #[.int .i64 i0y, .int .i64 i1y, .int .i64 i2y, .slice a3y n3y c3y, .slice d0y m0y e0y, .slice d1y m1y e1y, .slice d2y m2y e2y, .slice d3y m3y e3y] 28)) wz → wz.cell? ⟨w.heap.size, 0, none⟩ = some (.int .i64 i0x)) := fun wz hz => (hz.cell (show w.heap.size < _ by simp; try omega)).trans (by simp [go_sem])
  have bx1 : Hid (∀ wz, Below ((w.alloc (.cells #[.int .i64 i0x, .int .i64 i1x, .int .i64 i2x, .slice a3x n3x c3x, .slice d0x m0x e0x, .slice d1x m1x e1x, .slice d2x m2x e2x, .slice d3x m3x e3x] 28)).alloc (.cells #[.int .i64 i0y, .int .i64 i1y, .int .i64 i2y, .slice a3y n3y c3y, .slice d0y m0y e0y, .slice d1y m1y e1y, .slice d2y m2y e2y, .slice d3y m3y e3y] 28)).heap.size ((w.alloc (.cells #[.int .i64 i0x, .int .i64 i1x, .int .i64 i2x, .slice a3x n3x c3x, .slice d0x m0x e0x, .slice d1x m1x e1x, .slice d2x m2x e2x, .slice d3x m3x e3x] 28)).alloc (.cells #[.int .i64 i0y, .int .i64 i1y, .int .i64 i2y, .slice a3y n3y c3y, .slice d0y m0y e0y, .slice d1y m1y e1y, .slice d2y m2y e2y, .slice d3y m3y e3y] 28)) wz → wz.cell? ⟨w.heap.size, 1, none⟩ = some (.int .i64 i1x)) := fun wz hz => (hz.cell (show w.heap.size < _ by simp; try omega)).trans (by simp [go_sem])
  have bx2 : Hid (∀ wz, Below ((w.alloc (.cells #[.int .i64 i0x, .int .i64 i1x, .int .i64 i2x, .slice a3x n3x c3x, .slice d0x m0x e0x, .slice d1x m1x e1x, .slice d2x m2x e2x, .slice d3x m3x e3x] 28)).alloc (.cells #[.int .i64 i0y, .int .i64 i1y, .int .i64 i2y, .slice a3y n3y c3y, .slice d0y m0y e0y, .slice d1y m1y e1y, .slice d2y m2y e2y, .slice d3y m3y e3y] 28)).heap.size ((w.alloc (.cells #[.int .i64 i0x, .int .i64 i1x, .int .i64 i2x, .slice a3x n3x c3x, .slice d0x m0x e0x, .slice d1x m1x e1x, .slice d2x m2x e2x, .slice d3x m3x e3x] 28)).alloc (.cells #[.int .i64 i0y, .int .i64 i1y, .int .i64 i2y, .slice a3y n3y c3y, .slice d0y m0y e0y, .slice d1y m1y e1y, .slice d2y m2y e2y, .slice d3y m3y e3y] 28)) wz → wz.cell? ⟨w.heap.size, 2, none⟩ = some (.int .i64 i2x)) := fun wz hz => (hz.cell (show w.heap.size < _ by simp; try omega)).trans (by simp [go_sem])
  have bx3 : Hid (∀ wz, Below ((w.alloc (.cells #[.int .i64 i0x, .int .i64 i1x, .int .i64 i2x, .slice a3x n3x c3x, .slice d0x m0x e0x, .slice d1x m1x e1x, .slice d2x m2x e2x, .slice d3x m3x e3x] 28)).alloc (.cells #[.int .i64 i0y, .int .i64 i1y, .int .i64 i2y, .slice a3y n3y c3y, .slice d0y m0y e0y, .slice d1y m1y e1y, .slice d2y m2y e2y, .slice d3y m3y e3y] 28)).heap.size ((w.alloc (.cells #[.int .i64 i0x, .int .i64 i1x, .int .i64 i2x, .slice a3x n3x c3x, .slice d0x m0x e0x, .slice d1x m1x e1x, .slice d2x m2x e2x, .slice d3x m3x e3x] 28)).alloc (.cells #[.int .i64 i0y, .int .i64 i1y, .int .i64 i2y, .slice a3y n3y c3y, .slice d0y m0y e0y, .slice d1y m1y e1y, .slice d2y m2y e2y, .slice d3y m3y e3y] 28)) wz → wz.cell? ⟨w.heap.size, 3, none⟩ = some (.slice a3x n3x c3x)) := fun wz hz => (hz.cell (show w.heap.size < _ by simp; try omega)).trans (by simp [go_sem])
  have bx4 : Hid (∀ wz, Below ((w.alloc (.cells #[.int .i64 i0x, .int .i64 i1x, .int .i64 i2x, .slice a3x n3x c3x, .slice d0x m0x e0x, .slice d1x m1x e1x, .slice d2x m2x e2x, .slice d3x m3x e3x] 28)).alloc (.cells #[.int .i64 i0y, .int .i64 i1y, .int .i64 i2y, .slice a3y n3y c3y, .slice d0y m0y e0y, .slice d1y m1y e1y, .slice d2y m2y e2y, .slice d3y m3y e3y] 28)).heap.size ((w.alloc (.cells #[.int .i64 i0x, .int .i64 i1x, .int .i64 i2x, .slice a3x n3x c3x, .slice d0x m0x e0x, .slice d1x m1x e1x, .slice d2x m2x e2x, .slice d3x m3x e3x] 28)).alloc (.cells #[.int .i64 i0y, .int .i64 i1y, .int .i64 i2y, .slice a3y n3y c3y, .slice d0y m0y e0y, .slice d1y m1y e1y, .slice d2y m2y e2y, .slice d3y m3y e3y] 28)) wz → wz.cell? ⟨w.heap.size, 4, none⟩ = some (.slice d0x m0x e0x)) := fun wz hz => (hz.cell (show w.heap.size < _ by simp; try omega)).trans (by simp [go_sem])
  have bx5 : Hid (∀ wz, Below ((w.alloc (.cells #[.int .i64 i0x, .int .i64 i1x, .int .i64 i2x, .slice a3x n3x c3x, .slice d0x m0x e0x, .slice d1x m1x e1x, .slice d2x m2x e2x, .slice d3x m3x e3x] 28)).alloc (.cells #[.int .i64 i0y, .int .i64 i1y, .int .i64 i2y, .slice a3y n3y c3y, .slice d0y m0y e0y, .slice d1y m1y e1y, .slice d2y m2y e2y, .slice d3y m3y e3y] 28)).heap.size ((w.alloc (.cells #[.int .i64 i0x, .int .i64 i1x, .int .i64 i2x, .slice a3x n3x c3x, .slice d0x m0x e0x, .slice d1x m1x e1x, .slice d2x m2x e2x, .slice d3x m3x e3x] 28)).alloc (.cells #[.int .i64 i0y, .int .i64 i1y, .int .i64 i2y, .slice a3y n3y c3y, .slice d0y m0y e0y, .slice d1y m1y e1y, .slice d2y m2y e2y, .slice d3y m3y e3y] 28)) wz → wz.cell? ⟨w.heap.size, 5, none⟩ = some (.slice d1x m1x e1x)) := fun wz hz => (hz.cell (show w.heap.size < _ by simp; try omega)).trans (by simp [go_sem])
  have bx6 : Hid (∀ wz, Below ((w.alloc (.cells #[.int .i64 i0x, .int .i64 i1x, .int .i64 i2x, .slice a3x n3x c3x, .slice d0x m0x e0x, .slice d1x m1x e1x, .slice d2x m2x e2x, .slice d3x m3x e3x] 28)).alloc (.cells #[.int .i64 i0y, .int .i64 i1y, .int .i64 i2y, .slice a3y n3y c3y, .slice d0y m0y e0y, .slice d1y m1y e1y, .slice d2y m2y e2y, .slice d3y m3y e3y] 28)).heap.size ((w.alloc (.cells #[.int .i64 i0x, .int .i64 i1x, .int .i64 i2x, .slice a3x n3x c3x, .slice d0x m0x e0x, .slice d1x m1x e1x, .slice d2x m2x e2x, .slice d3x m3x e3x] 28)).alloc (.cells #[.int .i64 i0y, .int .i64 i1y, .int .i64 i2y, .slice a3y n3y c3y, .slice d0y m0y e0y, .slice d1y m1y e1y, .slice d2y m2y e2y, .slice d3y m3y e3y] 28)) wz → wz.cell? ⟨w.heap.size, 6, none⟩ = some (.slice d2x m2x e2x)) := fun wz hz => (hz.cell (show w.heap.size < _ by simp; try omega)).trans (by simp [go_sem])
  have bx7 : Hid (∀ wz, Below ((w.alloc (.cells #[.int .i64 i0x, .int .i64 i1x, .int .i64 i2x, .slice a3x n3x c3x, .slice d0x m0x e0x, .slice d1x m1x e1x, .slice d2x m2x e2x, .slice d3x m3x e3x] 28)).alloc (.cells #[.int .i64 i0y, .int .i64 i1y, .int .i64 i2y, .slice a3y n3y c3y, .slice d0y m0y e0y, .slice d1y m1y e1y, .slice d2y m2y e2y, .slice d3y m3y e3y] 28)).heap.size ((w.alloc (.cells #[.int .i64 i0x, .int .i64 i1x, .int .i64 i2x, .slice a3x n3x c3x, .slice d0x m0x e0x, .slice d1x m1x e1x, .slice d2x m2x e2x, .slice d3x m3x e3x] 28)).alloc (.cells #[.int .i64 i0y, .int .i64 i1y, .int .i64 i2y, .slice a3y n3y c3y, .slice d0y m0y e0y, .slice d1y m1y e1y, .slice d2y m2y e2y, .slice d3y m3y e3y] 28)) wz → wz.cell? ⟨w.heap.size, 7, none⟩ = some (.slice d3x m3x e3x)) := fun wz hz => (hz.cell (show w.heap.size < _ by simp; try omega)).trans (by simp [go_sem])
  have by0 : Hid (∀ wz, Below ((w.alloc (.cells #[.int .i64 i0x, .int .i64 i1x, .int .i64 i2x, .slice a3x n3x c3x, .slice d0x m0x e0x, .slice d1x m1x e1x, .slice d2x m2x e2x, .slice d3x m3x e3x] 28)).alloc (.cells #[.int .i64 i0y, .int .i64 i1y, .int .i64 i2y, .slice a3y n3y c3y, .slice d0y m0y e0y, .slice d1y m1y e1y, .slice d2y m2y e2y, .slice d3y m3y e3y] 28)).heap.size ((w.alloc (.cells #[.int .i64 i0x, .int .i64 i1x, .int .i64 i2x, .slice a3x n3x c3x, .slice d0x m0x e0x, .slice d1x m1x e1x, .slice d2x m2x e2x, .slice d3x m3x e3x] 28)).alloc (.cells #[.int .i64 i0y, .int .i64 i1y, .int .i64 i2y, .slice a3y n3y c3y, .slice d0y m0y e0y, .slice d1y m1y e1y, .slice d2y m2y e2y, .slice d3y m3y e3y] 28)) wz → wz.cell? ⟨w.heap.size + 1, 0, none⟩ = some (.int .i64 i0y)) := fun wz hz => (hz.cell (show w.heap.size + 1 < _ by simp; try omega)).trans (by simp [go_sem])
  have by1 : Hid (∀ wz, Below ((w.alloc (.cells #[.int .i64 i0x, .int .i64 i1x, .int .i64 i2x, .slice a3x n3x c3x, .slice d0x m0x e0x, .slice d1x m1x e1x, .slice d2x m2x e2x, .slice d3x m3x e3x] 28)).alloc (.cells #[.int .i64 i0y, .int .i64 i1y, .int .i64 i2y, .slice a3y n3y c3y, .slice d0y m0y e0y, .slice d1y m1y e1y, .slice d2y m2y e2y, .slice d3y m3y e3y] 28)).heap.size ((w.alloc (.cells #[.int .i64 i0x, .int .i64 i1x, .int .i64 i2x, .slice a3x n3x c3x, .slice d0x m0x e0x, .slice d1x m1x e1x, .slice d2x m2x e2x, .slice d3x m3x e3x] 28)).alloc (.cells #[.int .i64 i0y, .int .i64 i1y, .int .i64 i2y, .slice a3y n3y c3y, .slice d0y m0y e0y, .slice d1y m1y e1y, .slice d2y m2y e2y, .slice d3y m3y e3y] 28)) wz → wz.cell? ⟨w.heap.size + 1, 1, none⟩ = some (.int .i64 i1y)) := fun wz hz => (hz.cell (show w.heap.size + 1 < _ by simp; try omega)).trans (by simp [go_sem])
  have by2 : Hid (∀ wz, Below ((w.alloc (.cells #[.int .i64 i0x, .int .i64 i1x, .int .i64 i2x, .slice a3x n3x c3x, .slice d0x m0x e0x, .slice d1x m1x e1x, .slice d2x m2x e2x, .slice d3x m3x e3x] 28)).alloc (.cells #[.int .i64 i0y, .int .i64 i1y, .int .i64 i2y, .slice a3y n3y c3y, .slice d0y m0y e0y, .slice d1y m1y e1y, .slice d2y m2y e2y, .slice d3y m3y e3y] 28)).heap.size ((w.alloc (.cells #[.int .i64 i0x, .int .i64 i1x, .int .i64 i2x, .slice a3x n3x c3x, .slice d0x m0x e0x, .slice d1x m1x e1x, .slice d2x m2x e2x, .slice d3x m3x e3x] 28)).alloc (.cells #[.int .i64 i0y, .int .i64 i1y, .int .i64 i2y, .slice a3y n3y c3y, .slice d0y m0y e0y, .slice d1y m1y e1y, .slice d2y m2y e2y, .slice d3y m3y e3y] 28)) wz → wz.cell? ⟨w.heap.size + 1, 2, none⟩ = some (.int .i64 i2y)) := fun wz hz => (hz.cell (show w.heap.size + 1 < _ by simp; try omega)).trans (by simp [go_sem])
  have by3 : Hid (∀ wz, Below ((w.alloc (.cells #[.int .i64 i0x, .int .i64 i1x, .int .i64 i2x, .slice a3x n3x c3x, .slice d0x m0x e0x, .slice d1x m1x e1x, .slice d2x m2x e2x, .slice d3x m3x e3x] 28)).alloc (.cells #[.int .i64 i0y, .int .i64 i1y, .int .i64 i2y, .slice a3y n3y c3y, .slice d0y m0y e0y, .slice d1y m1y e1y, .slice d2y m2y e2y, .slice d3y m3y e3y] 28)).heap.size ((w.alloc (.cells #[.int .i64 i0x, .int .i64 i1x, .int .i64 i2x, .slice a3x n3x c3x, .slice d0x m0x e0x, .slice d1x m1x e1x, .slice d2x m2x e2x, .slice d3x m3x e3x] 28)).alloc (.cells #[.int .i64 i0y, .int .i64 i1y, .int .i64 i2y, .slice a3y n3y c3y, .slice d0y m0y e0y, .slice d1y m1y e1y, .slice d2y m2y e2y, .slice d3y m3y e3y] 28)) wz → wz.cell? ⟨w.heap.size + 1, 3, none⟩ = some (.slice a3y n3y c3y)) := fun wz hz => (hz.cell (show w.heap.size + 1 < _ by simp; try omega)).trans (by simp [go_sem])
  have by4 : Hid (∀ wz, Below ((w.alloc (.cells #[.int .i64 i0x, .int .i64 i1x, .int .i64 i2x, .slice a3x n3x c3x, .slice d0x m0x e0x, .slice d1x m1x e1x, .slice d2x m2x e2x, .slice d3x m3x e3x] 28)).alloc (.cells #[.int .i64 i0y, .int .i64 i1y, .int .i64 i2y, .slice a3y n3y c3y, .slice d0y m0y e0y, .slice d1y m1y e1y, .slice d2y m2y e2y, .slice d3y m3y e3y] 28)).heap.size ((w.alloc (.cells #[.int .i64 i0x, .int .i64 i1x, .int .i64 i2x, .slice a3x n3x c3x, .slice d0x m0x e0x, .slice d1x m1x e1x, .slice d2x m2x e2x, .slice d3x m3x e3x] 28)).alloc (.cells #[.int .i64 i0y, .int .i64 i1y, .int .i64 i2y, .slice a3y n3y c3y, .slice d0y m0y e0y, .slice d1y m1y e1y, .slice d2y m2y e2y, .slice d3y m3y e3y] 28)) wz → wz.cell? ⟨w.heap.size + 1, 4, none⟩ = some (.slice d0y m0y e0y)) := fun wz hz => (hz.cell (show w.heap.size + 1 < _ by simp; try omega)).trans (by simp [go_sem])
  have by5 : Hid (∀ wz, Below ((w.alloc (.cells #[.int .i64 i0x, .int .i64 i1x, .int .i64 i2x, .slice a3x n3x c3x, .slice d0x m0x e0x, .slice d1x m1x e1x, .slice d2x m2x e2x, .slice d3x m3x e3x] 28)).alloc (.cells #[.int .i64 i0y, .int .i64 i1y, .int .i64 i2y, .slice a3y n3y c3y, .slice d0y m0y e0y, .slice d1y m1y e1y, .slice d2y m2y e2y, .slice d3y m3y e3y] 28)).heap.size ((w.alloc (.cells #[.int .i64 i0x, .int .i64 i1x, .int .i64 i2x, .slice a3x n3x c3x, .slice d0x m0x e0x, .slice d1x m1x e1x, .slice d2x m2x e2x, .slice d3x m3x e3x] 28)).alloc (.cells #[.int .i64 i0y, .int .i64 i1y, .int .i64 i2y, .slice a3y n3y c3y, .slice d0y m0y e0y, .slice d1y m1y e1y, .slice d2y m2y e2y, .slice d3y m3y e3y] 28)) wz → wz.cell? ⟨w.heap.size + 1, 5, none⟩ = some (.slice d1y m1y e1y)) := fun wz hz => (hz.cell (show w.heap.size + 1 < _ by simp; try omega)).trans (by simp [go_sem])
  have by6 : Hid (∀ wz, Below ((w.alloc (.cells #[.int .i64 i0x, .int .i64 i1x, .int .i64 i2x, .slice a3x n3x c3x, .slice d0x m0x e0x, .slice d1x m1x e1x, .slice d2x m2x e2x, .slice d3x m3x e3x] 28)).alloc (.cells #[.int .i64 i0y, .int .i64 i1y, .int .i64 i2y, .slice a3y n3y c3y, .slice d0y m0y e0y, .slice d1y m1y e1y, .slice d2y m2y e2y, .slice d3y m3y e3y] 28)).heap.size ((w.alloc (.cells #[.int .i64 i0x, .int .i64 i1x, .int .i64 i2x, .slice a3x n3x c3x, .slice d0x m0x e0x, .slice d1x m1x e1x, .slice d2x m2x e2x, .slice d3x m3x e3x] 28)).alloc (.cells #[.int .i64 i0y, .int .i64 i1y, .int .i64 i2y, .slice a3y n3y c3y, .slice d0y m0y e0y, .slice d1y m1y e1y, .slice d2y m2y e2y, .slice d3y m3y e3y] 28)) wz → wz.cell? ⟨w.heap.size + 1, 6, none⟩ = some (.slice d2y m2y e2y)) := fun wz hz => (hz.cell (show w.heap.size + 1 < _ by simp; try omega)).trans (by simp [go_sem])
  have by7 : Hid (∀ wz, Below ((w.alloc (.cells #[.int .i64 i0x, .int .i64 i1x, .int .i64 i2x, .slice a3x n3x c3x, .slice d0x m0x e0x, .slice d1x m1x e1x, .slice d2x m2x e2x, .slice d3x m3x e3x] 28)).alloc (.cells #[.int .i64 i0y, .int .i64 i1y, .int .i64 i2y, .slice a3y n3y c3y, .slice d0y m0y e0y, .slice d1y m1y e1y, .slice d2y m2y e2y, .slice d3y m3y e3y] 28)).heap.size ((w.alloc (.cells #[.int .i64 i0x, .int .i64 i1x, .int .i64 i2x, .slice a3x n3x c3x, .slice d0x m0x e0x, .slice d1x m1x e1x, .slice d2x m2x e2x, .slice d3x m3x e3x] 28)).alloc (.cells #[.int .i64 i0y, .int .i64 i1y, .int .i64 i2y, .slice a3y n3y c3y, .slice d0y m0y e0y, .slice d1y m1y e1y, .slice d2y m2y e2y, .slice d3y m3y e3y] 28)) wz → wz.cell? ⟨w.heap.size + 1, 7, none⟩ = some (.slice d3y m3y e3y)) := fun wz hz => (hz.cell (show w.heap.size + 1 < _ by simp; try omega)).trans (by simp [go_sem])
  have q2 : Hid (∀ wz, Below ((w.alloc (.cells #[.int .i64 i0x, .int .i64 i1x, .int .i64 i2x, .slice a3x n3x c3x, .slice d0x m0x e0x, .slice d1x m1x e1x, .slice d2x m2x e2x, .slice d3x m3x e3x] 28)).alloc (.cells #[.int .i64 i0y, .int .i64 i1y, .int .i64 i2y, .slice a3y n3y c3y, .slice d0y m0y e0y, .slice d1y m1y e1y, .slice d2y m2y e2y, .slice d3y m3y e3y] 28)).heap.size ((w.alloc (.cells #[.int .i64 i0x, .int .i64 i1x, .int .i64 i2x, .slice a3x n3x c3x, .slice d0x m0x e0x, .slice d1x m1x e1x, .slice d2x m2x e2x, .slice d3x m3x e3x] 28)).alloc (.cells #[.int .i64 i0y, .int .i64 i1y, .int .i64 i2y, .slice a3y n3y c3y, .slice d0y m0y e0y, .slice d1y m1y e1y, .slice d2y m2y e2y, .slice d3y m3y e3y] 28)) wz → _) := fun wz hz => sameDecs_any (max na nb) wz _ _ La Lb ((ha.le (Nat.le_max_left na nb)).below (bl_tr hW hz)) ((hb.le (Nat.le_max_right na nb)).below (bl_tr hW hz))
  have q5 : Hid (∀ wz, Below ((w.alloc (.cells #[.int .i64 i0x, .int .i64 i1x, .int .i64 i2x, .slice a3x n3x c3x, .slice d0x m0x e0x, .slice d1x m1x e1x, .slice d2x m2x e2x, .slice d3x m3x e3x] 28)).alloc (.cells #[.int .i64 i0y, .int .i64 i1y, .int .i64 i2y, .slice a3y n3y c3y, .slice d0y m0y e0y, .slice d1y m1y e1y, .slice d2y m2y e2y, .slice d3y m3y e3y] 28)).heap.size ((w.alloc (.cells #[.int .i64 i0x, .int .i64 i1x, .int .i64 i2x, .slice a3x n3x c3x, .slice d0x m0x e0x, .slice d1x m1x e1x, .slice d2x m2x e2x, .slice d3x m3x e3x] 28)).alloc (.cells #[.int .i64 i0y, .int .i64 i1y, .int .i64 i2y, .slice a3y n3y c3y, .slice d0y m0y e0y, .slice d1y m1y e1y, .slice d2y m2y e2y, .slice d3y m3y e3y] 28)) wz → _) := fun wz hz => refDecs_any (max na nb) wz _ _ La Lb ((ha.le (Nat.le_max_left na nb)).below (bl_tr hW hz)) ((hb.le (Nat.le_max_right na nb)).below (bl_tr hW hz))
  have q10 : Hid (∀ wz, Below ((w.alloc (.cells #[.int .i64 i0x, .int .i64 i1x, .int .i64 i2x, .slice a3x n3x c3x, .slice d0x m0x e0x, .slice d1x m1x e1x, .slice d2x m2x e2x, .slice d3x m3x e3x] 28)).alloc (.cells #[.int .i64 i0y, .int .i64 i1y, .int .i64 i2y, .slice a3y n3y c3y, .slice d0y m0y e0y, .slice d1y m1y e1y, .slice d2y m2y e2y, .slice d3y m3y e3y] 28)).heap.size ((w.alloc (.cells #[.int .i64 i0x, .int .i64 i1x, .int .i64 i2x, .slice a3x n3x c3x, .slice d0x m0x e0x, .slice d1x m1x e1x, .slice d2x m2x e2x, .slice d3x m3x e3x] 28)).alloc (.cells #[.int .i64 i0y, .int .i64 i1y, .int .i64 i2y, .slice a3y n3y c3y, .slice d0y m0y e0y, .slice d1y m1y e1y, .slice d2y m2y e2y, .slice d3y m3y e3y] 28)) wz → _) := fun wz hz => (same_all (max nx ny)).s2 wz _ _ Nx Ny (At.move (Keeps.of_below (bl_tr hW hz)) (fun _ h => h) _ _ _ _ (hx.le (Nat.le_max_left nx ny))) (At.move (Keeps.of_below (bl_tr hW hz)) (fun _ h => h) _ _ _ _ (hy.le (Nat.le_max_right nx ny)))
  have q13 : Hid (∀ wz, Below ((w.alloc (.cells #[.int .i64 i0x, .int .i64 i1x, .int .i64 i2x, .slice a3x n3x c3x, .slice d0x m0x e0x, .slice d1x m1x e1x, .slice d2x m2x e2x, .slice d3x m3x e3x] 28)).alloc (.cells #[.int .i64 i0y, .int .i64 i1y, .int .i64 i2y, .slice a3y n3y c3y, .slice d0y m0y e0y, .slice d1y m1y e1y, .slice d2y m2y e2y, .slice d3y m3y e3y] 28)).heap.size ((w.alloc (.cells #[.int .i64 i0x, .int .i64 i1x, .int .i64 i2x, .slice a3x n3x c3x, .slice d0x m0x e0x, .slice d1x m1x e1x, .slice d2x m2x e2x, .slice d3x m3x e3x] 28)).alloc (.cells #[.int .i64 i0y, .int .i64 i1y, .int .i64 i2y, .slice a3y n3y c3y, .slice d0y m0y e0y, .slice d1y m1y e1y, .slice d2y m2y e2y, .slice d3y m3y e3y] 28)) wz → _) := fun wz hz => refOne2 (max nx ny) wz _ _ Nx Ny (At.move (Keeps.of_below (bl_tr hW hz)) (fun _ h => h) _ _ _ _ (hx.le (Nat.le_max_left nx ny))) (At.move (Keeps.of_below (bl_tr hW hz)) (fun _ h => h) _ _ _ _ (hy.le (Nat.le_max_right nx ny)))
  have q19 : Hid (∀ wz, Below ((w.alloc (.cells #[.int .i64 i0x, .int .i64 i1x, .int .i64 i2x, .slice a3x n3x c3x, .slice d0x m0x e0x, .slice d1x m1x e1x, .slice d2x m2x e2x, .slice d3x m3x e3x] 28)).alloc (.cells #[.int .i64 i0y, .int .i64 i1y, .int .i64 i2y, .slice a3y n3y c3y, .slice d0y m0y e0y, .slice d1y m1y e1y, .slice d2y m2y e2y, .slice d3y m3y e3y] 28)).heap.size ((w.alloc (.cells #[.int .i64 i0x, .int .i64 i1x, .int .i64 i2x, .slice a3x n3x c3x, .slice d0x m0x e0x, .slice d1x m1x e1x, .slice d2x m2x e2x, .slice d3x m3x e3x] 28)).alloc (.cells #[.int .i64 i0y, .int .i64 i1y, .int .i64 i2y, .slice a3y n3y c3y, .slice d0y m0y e0y, .slice d1y m1y e1y, .slice d2y m2y e2y, .slice d3y m3y e3y] 28)) wz → _) := fun wz hz => sameSelf_any na wz _ La (ha.below (bl_tr hW hz))
  have q22 : Hid (∀ wz, Below ((w.alloc (.cells #[.int .i64 i0x, .int .i64 i1x, .int .i64 i2x, .slice a3x n3x c3x, .slice d0x m0x e0x, .slice d1x m1x e1x, .slice d2x m2x e2x, .slice d3x m3x e3x] 28)).alloc (.cells #[.int .i64 i0y, .int .i64 i1y, .int .i64 i2y, .slice a3y n3y c3y, .slice d0y m0y e0y, .slice d1y m1y e1y, .slice d2y m2y e2y, .slice d3y m3y e3y] 28)).heap.size ((w.alloc (.cells #[.int .i64 i0x, .int .i64 i1x, .int .i64 i2x, .slice a3x n3x c3x, .slice d0x m0x e0x, .slice d1x m1x e1x, .slice d2x m2x e2x, .slice d3x m3x e3x] 28)).alloc (.cells #[.int .i64 i0y, .int .i64 i1y, .int .i64 i2y, .slice a3y n3y c3y, .slice d0y m0y e0y, .slice d1y m1y e1y, .slice d2y m2y e2y, .slice d3y m3y e3y] 28)) wz → _) := fun wz hz => alive_any wz
  clear ha hb hx hy
  go_enter Try.func3, Try.ntmps3
  go_wp2
  have hS0 : Below ((w.alloc (.cells #[.int .i64 i0x, .int .i64 i1x, .int .i64 i2x, .slice a3x n3x c3x, .slice d0x m0x e0x, .slice d1x m1x e1x, .slice d2x m2x e2x, .slice d3x m3x e3x] 28)).alloc (.cells #[.int .i64 i0y, .int .i64 i1y, .int .i64 i2y, .slice a3y n3y c3y, .slice d0y m0y e0y, .slice d1y m1y e1y, .slice d2y m2y e2y, .slice d3y m3y e3y] 28)).heap.size ((w.alloc (.cells #[.int .i64 i0x, .int .i64 i1x, .int .i64 i2x, .slice a3x n3x c3x, .slice d0x m0x e0x, .slice d1x m1x e1x, .slice d2x m2x e2x, .slice d3x m3x e3x] 28)).alloc (.cells #[.int .i64 i0y, .int .i64 i1y, .int .i64 i2y, .slice a3y n3y c3y, .slice d0y m0y e0y, .slice d1y m1y e1y, .slice d2y m2y e2y, .slice d3y m3y e3y] 28)) ((w.alloc (.cells #[.int .i64 i0x, .int .i64 i1x, .int .i64 i2x, .slice a3x n3x c3x, .slice d0x m0x e0x, .slice d1x m1x e1x, .slice d2x m2x e2x, .slice d3x m3x e3x] 28)).alloc (.cells #[.int .i64 i0y, .int .i64 i1y, .int .i64 i2y, .slice a3y n3y c3y, .slice d0y m0y e0y, .slice d1y m1y e1y, .slice d2y m2y e2y, .slice d3y m3y e3y] 28)).drew := (Below.refl _ _).drew
  refine wp_region_held_drew (S := fun wz => Below ((w.alloc (.cells #[.int .i64 i0x, .int .i64 i1x, .int .i64 i2x, .slice a3x n3x c3x, .slice d0x m0x e0x, .slice d1x m1x e1x, .slice d2x m2x e2x, .slice d3x m3x e3x] 28)).alloc (.cells #[.int .i64 i0y, .int .i64 i1y, .int .i64 i2y, .slice a3y n3y c3y, .slice d0y m0y e0y, .slice d1y m1y e1y, .slice d2y m2y e2y, .slice d3y m3y e3y] 28)).heap.size ((w.alloc (.cells #[.int .i64 i0x, .int .i64 i1x, .int .i64 i2x, .slice a3x n3x c3x, .slice d0x m0x e0x, .slice d1x m1x e1x, .slice d2x m2x e2x, .slice d3x m3x e3x] 28)).alloc (.cells #[.int .i64 i0y, .int .i64 i1y, .int .i64 i2y, .slice a3y n3y c3y, .slice d0y m0y e0y, .slice d1y m1y e1y, .slice d2y m2y e2y, .slice d3y m3y e3y] 28)) wz) follows_mixed hS0 (fun hS => ?_)
  refine wpAnyH_take (i := 0) (v := ?_) rfl (by kernel_rfl) (by kernel_rfl) (by kernel_rfl) (fun _ _ _ h => h) (Or.inl ⟨by rfl, ?_⟩) hS ?_
  rotate_left
  · intro wz hz;  go_simp; try with_reducible rfl
  try simp only [Act.put, List.setIfInBounds_toArray, List.set_cons_zero, List.set_cons_succ, List.getElem_toArray, List.getElem_cons_succ, List.getElem_cons_zero]
  refine wpAnyH_take (i := 1) (v := ?_) rfl (by kernel_rfl) (by kernel_rfl) (by kernel_rfl) (fun _ _ _ h => h) (Or.inl ⟨by rfl, ?_⟩) hS ?_
  rotate_left
  · intro wz hz;  go_simp; try with_reducible rfl
  try simp only [Act.put, List.setIfInBounds_toArray, List.set_cons_zero, List.set_cons_succ, List.getElem_toArray, List.getElem_cons_succ, List.getElem_cons_zero]
  refine wpAnyH_take (i := 3) (v := ?_) rfl (by kernel_rfl) (by kernel_rfl) (by kernel_rfl) (fun _ _ _ h => h) (Or.inl ⟨by rfl, ?_⟩) hS ?_
  rotate_left
  · intro wz hz;  go_simp; try with_reducible rfl
  try simp only [Act.put, List.setIfInBounds_toArray, List.set_cons_zero, List.set_cons_succ, List.getElem_toArray, List.getElem_cons_succ, List.getElem_cons_zero]
  refine wpAnyH_take (i := 4) (v := ?_) rfl (by kernel_rfl) (by kernel_rfl) (by kernel_rfl) (fun _ _ _ h => h) (Or.inl ⟨by rfl, ?_⟩) hS ?_
  rotate_left
  · intro wz hz;  go_simp; try with_reducible rfl
  try simp only [Act.put, List.setIfInBounds_toArray, List.set_cons_zero, List.set_cons_succ, List.getElem_toArray, List.getElem_cons_succ, List.getElem_cons_zero]
  refine wpAnyH_ready (rs := [2]) (by kernel_rfl) (by simp) (AllReadyH.cons rfl (fun K hK => ?_) AllReadyH.nil)
  go_simp
  refine (q2.out _ hS).mono ?_
  rintro e w2 ⟨rfl, hb2⟩
  refine hK.out _ _ (bl_tr hS hb2) (fun hS2 => ?_)
  clear hK K hS hb2
  have hS := hS2
  clear hS2
  try simp only [Act.put, List.setIfInBounds_toArray, List.set_cons_zero, List.set_cons_succ, List.getElem_toArray, List.getElem_cons_succ, List.getElem_cons_zero]
  refine wpAnyH_ready (rs := [5]) (by kernel_rfl) (by simp) (AllReadyH.cons rfl (fun K hK => ?_) AllReadyH.nil)
  go_simp
  refine (q5.out _ hS).mono ?_
  rintro e w5 ⟨rfl, hb5⟩
  refine hK.out _ _ (bl_tr hS hb5) (fun hS5 => ?_)
  clear hK K hS hb5
  have hS := hS5
  clear hS5
  try simp only [Act.put, List.setIfInBounds_toArray, List.set_cons_zero, List.set_cons_succ, List.getElem_toArray, List.getElem_cons_succ, List.getElem_cons_zero]
  refine wpAnyH_take (i := 6) (v := .bool true) rfl (by kernel_rfl) (by kernel_rfl) (by kernel_rfl) (fun _ _ _ h => h) (Or.inl ⟨by rfl, ?_⟩) hS ?_
  · intro wz hz; go_simp; try simp
  try simp only [Act.put, List.setIfInBounds_toArray, List.set_cons_zero, List.set_cons_succ, List.getElem_toArray, List.getElem_cons_succ, List.getElem_cons_zero]
  refine wpAnyH_take (i := 7) (v := ?_) rfl (by kernel_rfl) (by kernel_rfl) (by kernel_rfl) (fun _ _ _ h => h) (Or.inl ⟨by rfl, ?_⟩) hS ?_
  rotate_left
  · intro wz hz;  go_simp; try with_reducible rfl
  try simp only [Act.put, List.setIfInBounds_toArray, List.set_cons_zero, List.set_cons_succ, List.getElem_toArray, List.getElem_cons_succ, List.getElem_cons_zero]
  refine wpAnyH_take (i := 8) (v := ?_) rfl (by kernel_rfl) (by kernel_rfl) (by kernel_rfl) (fun _ _ _ h => h) (Or.inl ⟨by rfl, ?_⟩) hS ?_
  rotate_left
  · intro wz hz; have y0 := bx0.out wz hz; have y1 := bx1.out wz hz; have y2 := bx2.out wz hz; have y3 := bx3.out wz hz; have y4 := bx4.out wz hz; have y5 := bx5.out wz hz; have y6 := bx6.out wz hz; have y7 := bx7.out wz hz; go_simp; try with_reducible rfl
  try simp only [Act.put, List.setIfInBounds_toArray, List.set_cons_zero, List.set_cons_succ, List.getElem_toArray, List.getElem_cons_succ, List.getElem_cons_zero]
  refine wpAnyH_take (i := 9) (v := ?_) rfl (by kernel_rfl) (by kernel_rfl) (by kernel_rfl) (fun _ _ _ h => h) (Or.inl ⟨by rfl, ?_⟩) hS ?_
  rotate_left
  · intro wz hz; have y0 := by0.out wz hz; have y1 := by1.out wz hz; have y2 := by2.out wz hz; have y3 := by3.out wz hz; have y4 := by4.out wz hz; have y5 := by5.out wz hz; have y6 := by6.out wz hz; have y7 := by7.out wz hz; go_simp; try with_reducible rfl
  try simp only [Act.put, List.setIfInBounds_toArray, List.set_cons_zero, List.set_cons_succ, List.getElem_toArray, List.getElem_cons_succ, List.getElem_cons_zero]
  refine wpAnyH_take (i := 11) (v := ?_) rfl (by kernel_rfl) (by kernel_rfl) (by kernel_rfl) (fun _ _ _ h => h) (Or.inl ⟨by rfl, ?_⟩) hS ?_
  rotate_left
  · intro wz hz; have y0 := bx0.out wz hz; have y1 := bx1.out wz hz; have y2 := bx2.out wz hz; have y3 := bx3.out wz hz; have y4 := bx4.out wz hz; have y5 := bx5.out wz hz; have y6 := bx6.out wz hz; have y7 := bx7.out wz hz; go_simp; try with_reducible rfl
  try simp only [Act.put, List.setIfInBounds_toArray, List.set_cons_zero, List.set_cons_succ, List.getElem_toArray, List.getElem_cons_succ, List.getElem_cons_zero]
  refine wpAnyH_take (i := 12) (v := ?_) rfl (by kernel_rfl) (by kernel_rfl) (by kernel_rfl) (fun _ _ _ h => h) (Or.inl ⟨by rfl, ?_⟩) hS ?_
  rotate_left
  · intro wz hz; have y0 := by0.out wz hz; have y1 := by1.out wz hz; have y2 := by2.out wz hz; have y3 := by3.out wz hz; have y4 := by4.out wz hz; have y5 := by5.out wz hz; have y6 := by6.out wz hz; have y7 := by7.out wz hz; go_simp; try with_reducible rfl
  try simp only [Act.put, List.setIfInBounds_toArray, List.set_cons_zero, List.set_cons_succ, List.getElem_toArray, List.getElem_cons_succ, List.getElem_cons_zero]
  refine wpAnyH_ready (rs := [10]) (by kernel_rfl) (by simp) (AllReadyH.cons rfl (fun K hK => ?_) AllReadyH.nil)
  go_simp
  refine (q10.out _ hS).mono ?_
  rintro e w10 ⟨rfl, hb10⟩
  refine hK.out _ _ (bl_tr hS hb10) (fun hS10 => ?_)
  clear hK K hS hb10
  have hS := hS10
  clear hS10
  try simp only [Act.put, List.setIfInBounds_toArray, List.set_cons_zero, List.set_cons_succ, List.getElem_toArray, List.getElem_cons_succ, List.getElem_cons_zero]
  refine wpAnyH_ready (rs := [13]) (by kernel_rfl) (by simp) (AllReadyH.cons rfl (fun K hK => ?_) AllReadyH.nil)
  go_simp
  refine (q13.out _ hS).mono ?_
  rintro e w13 ⟨rfl, hb13⟩
  refine hK.out _ _ (bl_tr hS hb13) (fun hS13 => ?_)
  clear hK K hS hb13
  have hS := hS13
  clear hS13
  try simp only [Act.put, List.setIfInBounds_toArray, List.set_cons_zero, List.set_cons_succ, List.getElem_toArray, List.getElem_cons_succ, List.getElem_cons_zero]
  refine wpAnyH_take (i := 14) (v := .bool true) rfl (by kernel_rfl) (by kernel_rfl) (by kernel_rfl) (fun _ _ _ h => h) (Or.inl ⟨by rfl, ?_⟩) hS ?_
  · intro wz hz; go_simp; try simp
  try simp only [Act.put, List.setIfInBounds_toArray, List.set_cons_zero, List.set_cons_succ, List.getElem_toArray, List.getElem_cons_succ, List.getElem_cons_zero]
  refine wpAnyH_take (i := 15) (v := .bool true) rfl (by kernel_rfl) (by kernel_rfl) (by kernel_rfl) (fun _ _ _ h => h) (Or.inl ⟨by rfl, ?_⟩) hS ?_
  · intro wz hz; go_simp; try simp
  try simp only [Act.put, List.setIfInBounds_toArray, List.set_cons_zero, List.set_cons_succ, List.getElem_toArray, List.getElem_cons_succ, List.getElem_cons_zero]
  refine wpAnyH_take (i := 16) (v := ?_) rfl (by kernel_rfl) (by kernel_rfl) (by kernel_rfl) (fun _ _ _ h => h) (Or.inl ⟨by rfl, ?_⟩) hS ?_
  rotate_left
  · intro wz hz;  go_simp; try with_reducible rfl
  try simp only [Act.put, List.setIfInBounds_toArray, List.set_cons_zero, List.set_cons_succ, List.getElem_toArray, List.getElem_cons_succ, List.getElem_cons_zero]
  refine wpAnyH_take (i := 17) (v := ?_) rfl (by kernel_rfl) (by kernel_rfl) (by kernel_rfl) (fun _ _ _ h => h) (Or.inl ⟨by rfl, ?_⟩) hS ?_
  rotate_left
  · intro wz hz;  go_simp; try with_reducible rfl
  try simp only [Act.put, List.setIfInBounds_toArray, List.set_cons_zero, List.set_cons_succ, List.getElem_toArray, List.getElem_cons_succ, List.getElem_cons_zero]
  refine wpAnyH_take (i := 18) (v := ?_) rfl (by kernel_rfl) (by kernel_rfl) (by kernel_rfl) (fun _ _ _ h => h) (Or.inl ⟨by rfl, ?_⟩) hS ?_
  rotate_left
  · intro wz hz;  go_simp; try with_reducible rfl
  try simp only [Act.put, List.setIfInBounds_toArray, List.set_cons_zero, List.set_cons_succ, List.getElem_toArray, List.getElem_cons_succ, List.getElem_cons_zero]
  refine wpAnyH_ready (rs := [19]) (by kernel_rfl) (by simp) (AllReadyH.cons rfl (fun K hK => ?_) AllReadyH.nil)
  go_simp
  refine (q19.out _ hS).mono ?_
  rintro e w19 ⟨rfl, hb19⟩
  refine hK.out _ _ (bl_tr hS hb19) (fun hS19 => ?_)
  clear hK K hS hb19
  have hS := hS19
  clear hS19
  try simp only [Act.put, List.setIfInBounds_toArray, List.set_cons_zero, List.set_cons_succ, List.getElem_toArray, List.getElem_cons_succ, List.getElem_cons_zero]
  refine wpAnyH_take (i := 20) (v := .bool true) rfl (by kernel_rfl) (by kernel_rfl) (by kernel_rfl) (fun _ _ _ h => h) (Or.inl ⟨by rfl, ?_⟩) hS ?_
  · intro wz hz; go_simp; try simp
  try simp only [Act.put, List.setIfInBounds_toArray, List.set_cons_zero, List.set_cons_succ, List.getElem_toArray, List.getElem_cons_succ, List.getElem_cons_zero]
  refine wpAnyH_take (i := 21) (v := ?_) rfl (by kernel_rfl) (by kernel_rfl) (by kernel_rfl) (fun _ _ _ h => h) (Or.inl ⟨by rfl, ?_⟩) hS ?_
  rotate_left
  · intro wz hz;  go_simp; try with_reducible rfl
  try simp only [Act.put, List.setIfInBounds_toArray, List.set_cons_zero, List.set_cons_succ, List.getElem_toArray, List.getElem_cons_succ, List.getElem_cons_zero]
  refine wpAnyH_ready (rs := [22]) (by kernel_rfl) (by simp) (AllReadyH.cons rfl (fun K hK => ?_) AllReadyH.nil)
  go_simp
  refine (q22.out _ hS).mono ?_
  rintro e w22 ⟨rfl, hb22⟩
  refine hK.out _ _ (bl_tr hS hb22) (fun hS22 => ?_)
  clear hK K hS hb22
  have hS := hS22
  clear hS22
  try simp only [Act.put, List.setIfInBounds_toArray, List.set_cons_zero, List.set_cons_succ, List.getElem_toArray, List.getElem_cons_succ, List.getElem_cons_zero]
  refine wpAnyH_take (i := 23) (v := .bool true) rfl (by kernel_rfl) (by kernel_rfl) (by kernel_rfl) (fun _ _ _ h => h) (Or.inl ⟨by rfl, ?_⟩) hS ?_
  · intro wz hz; go_simp; try simp
  try simp only [Act.put, List.setIfInBounds_toArray, List.set_cons_zero, List.set_cons_succ, List.getElem_toArray, List.getElem_cons_succ, List.getElem_cons_zero]
  refine wpAnyH_take (i := 24) (v := ?_) rfl (by kernel_rfl) (by kernel_rfl) (by kernel_rfl) (fun _ _ _ h => h) (Or.inl ⟨by rfl, ?_⟩) hS ?_
  rotate_left
  · intro wz hz;  go_simp; try with_reducible rfl
  try simp only [Act.put, List.setIfInBounds_toArray, List.set_cons_zero, List.set_cons_succ, List.getElem_toArray, List.getElem_cons_succ, List.getElem_cons_zero]
  refine wpAnyH_done (by kernel_rfl) ?_ _
  go_wp2
  go_ret
  exact ⟨rfl, bl_tr hW hS⟩

end Go.Proofs.Ytgiegjghldhppaa
