/- How many nodes, how deep: Nodes and Depth. -/
import Derived.Test.YtgiegjghldhppabGreatNdM
namespace Go.Proofs.YtgiegjghldhppabGreat
open Go.RowKit
set_option linter.unusedVariables false

def Nd.meter (l : List Nd) : Mst := Nd.runL l ⟨0, 0, 0⟩
theorem Mt.start (w : World) (o : Obj) : Mt ((w.alloc o).alloc (.cells #[.int .i64 0, .int .i64 0, .int .i64 0] 60)) (w.heap.size + 1) ⟨0, 0, 0⟩ := by
  refine ⟨?_, ?_, ?_, ?_, ?_, ?_⟩
  all_goals simp [go_sem]
theorem Save.frozen {M : Nat} {w w' : World} (h : Save M w w') {p : Addr} (hp : p.block ≠ M) : w'.frozen? p = w.frozen? p := World.frozen?_of_block (w := w) (h.block p.block hp)

set_option maxHeartbeats 1000000 in
theorem measure_any (n : Nat) (w : World) (v : Value) (l : List Nd) (h : AtL w Any n 3 v l) :
    Calls Tryz.prog 22 #[v] w fun e w' => e = .returned (.agg #[.int .i64 (Nd.meter l).a, .int .i64 (Nd.meter l).d, .int .i64 (Nd.meter l).t]) ∧ Below w.heap.size w w' := by
  have hmf : ∀ (fn : Fn) (first cap : Array Value) (w : World), (Instr.makeFunc fn first cap).run Tryz.prog w = .ok (.func fn first cap) w := fun _ _ _ _ => rfl
  have q : Hid (∀ o1 o2, Mt ((w.alloc o1).alloc o2) (w.heap.size + 1) ⟨0, 0, 0⟩ → _) := fun o1 o2 hm => eachM3 n (meter_all n).s3 ((w.alloc o1).alloc o2) (Old w) (w.heap.size + 1) ⟨0, 0, 0⟩ v l (show ¬ (w.heap.size + 1 < w.heap.size) by omega) (h.old.below (bl_alloc (bl_alloc (Below.refl _ _) _) _)) hm
  clear h
  go_enter Tryz.func22, Tryz.ntmps22
  go_wp2_with (go_at_call 24; refine (q.out _ _ (Mt.start _ _)).mono ?_; rintro e w2 ⟨rfl, hm2, hs2⟩; have hM : w.heap.size ≠ w.heap.size + 1 := (by omega); have x0 : w2.cell? ⟨w.heap.size, 0, none⟩ = some (.int .i64 0) := (hs2.cell hM).trans (by simp [go_sem]); have x1 : w2.cell? ⟨w.heap.size, 1, none⟩ = some (.int .i64 0) := (hs2.cell hM).trans (by simp [go_sem]); have x2 : w2.cell? ⟨w.heap.size, 2, none⟩ = some (.int .i64 0) := (hs2.cell hM).trans (by simp [go_sem]); have z0 : w2.frozen? ⟨w.heap.size, 0, none⟩ = false := (hs2.frozen hM).trans (by simp [go_sem]); have z1 : w2.frozen? ⟨w.heap.size, 1, none⟩ = false := (hs2.frozen hM).trans (by simp [go_sem]); have z2 : w2.frozen? ⟨w.heap.size, 2, none⟩ = false := (hs2.frozen hM).trans (by simp [go_sem]); have m0 := hm2.a; have m1 := hm2.d; have m2 := hm2.t; have hb2 : Hid (Below w.heap.size w w2) := Save.below (bl_alloc (bl_alloc (Below.refl _ _) _) _) hs2 (Nat.le_succ _); clear hs2 hm2 hM)
  refine bodyPost_ret (v := .agg #[.int .i64 (Nd.meter l).a, .int .i64 (Nd.meter l).d, .int .i64 (Nd.meter l).t]) ?_ rfl ?_
  · simp [results, Tryz.results22, go_sem, x0, x1, x2, Nd.meter]
  · exact ⟨rfl, ((hb2.out.setCell (Nat.le_refl _) _).setCell (Nat.le_refl _) _).setCell (Nat.le_refl _) _⟩

set_option maxRecDepth 100000 in
theorem nodes_any (n : Nat) (w : World) (v : Value) (l : List Nd) (h : AtL w Any n 3 v l) :
    Calls Tryz.prog 10 #[v] w fun e w' => e = .returned (.int .i64 (Nd.meter l).a) ∧ Below w.heap.size w w' := by
  have q := measure_any n w v l h
  have hfd : ∀ (x y z : Int) (w : World), (Instr.field 60 (.agg #[.int .i64 x, .int .i64 y, .int .i64 z]) 0).run Tryz.prog w = .ok (.int .i64 x) w := fun x y z w => by kernel_rfl
  go_enter Tryz.func10, Tryz.ntmps10
  go_wp2_with (go_at_call 22; refine q.mono ?_; rintro e w2 ⟨rfl, hb2⟩)
  go_ret
  exact ⟨rfl, hb2⟩

set_option maxRecDepth 100000 in
theorem depth_any (n : Nat) (w : World) (v : Value) (l : List Nd) (h : AtL w Any n 3 v l) :
    Calls Tryz.prog 18 #[v] w fun e w' => e = .returned (.int .i64 (Nd.meter l).d) ∧ Below w.heap.size w w' := by
  have q := measure_any n w v l h
  have hfd : ∀ (x y z : Int) (w : World), (Instr.field 60 (.agg #[.int .i64 x, .int .i64 y, .int .i64 z]) 1).run Tryz.prog w = .ok (.int .i64 y) w := fun x y z w => by kernel_rfl
  go_enter Tryz.func18, Tryz.ntmps18
  go_wp2_with (go_at_call 22; refine q.mono ?_; rintro e w2 ⟨rfl, hb2⟩)
  go_ret
  exact ⟨rfl, hb2⟩
end Go.Proofs.YtgiegjghldhppabGreat
