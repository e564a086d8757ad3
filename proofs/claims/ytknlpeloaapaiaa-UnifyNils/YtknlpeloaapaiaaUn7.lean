/- A range over a function that tells nothing: spread of no users, takeBack of no changes; enlist of no metas. -/
import Derived.RangeFuncNested
import Derived.RangeFuncBound
import Derived.RangeFuncCalls
import Derived.RangeFuncLeaves
import Derived.Shelf.RegionOpen
import Derived.WalkKit
import Derived.OwnWalkIn
import Derived.TacticsInMore
import Derived.LoopNIn
import Derived.LoopIn
import Derived.Test.YtknlpeloaapaiaaUn6
import Derived.Test.YtknlpeloaapaiaaTpS3
namespace Go.Proofs.Ytknlpeloaapaiaa
open Go.RowKit Go.Shelf
set_option linter.unusedVariables false
set_option linter.unusedSimpArgs false
attribute [local go_sem] Oper.semAt_some

theorem bl_putObj {B : Nat} {w W : World} (h : Below B w W) (k : Nat) (o : Obj) (hk : B ≤ k) : Below B w (W.putObj k o) :=
  ⟨h.os, h.tape, h.output, by simp [World.putObj]; exact h.size, fun b hb => (World.putObj_heap_other (by omega)).trans (h.block b hb)⟩
/-- A range over a function that calls nobody. -/
theorem wpIn_rangeFunc_none {F : Fence} {n : Nat} {P : Program} {g : Operand} {ps : Array Tmp} {assign body : Code} {Q : Exit → Act → World → Prop} {a : Act} {w : World}
    (hro : F.round = none) (h1 : 1 ≤ n) {gf : Nat} {fs lb : Array Value} (hg : a.eval g = .func (.func gf) fs lb) (hFg : F.fn gf) (eg : ∀ args w, (callFunc gf args).run P w = .ok (.enter gf args) w)
    (hit : ∀ (y : Nat) (W : World), Below w.heap.size w W → CallsIn F (n - 1) P gf (fs ++ #[.func (.yield y) #[] #[]] ++ lb) W fun e W' => (∃ v, e = .returned v) ∧ Below W.heap.size W W')
    (hdone : ∀ (D : Nat) (W : World), w.heap.size ≤ D → Below w.heap.size w W → W.heap[D]? = some (.deferred (some [])) → Q .normal { a with defers := { target := .collected D, args := #[] } :: a.defers } W) :
    (Code.rangeFunc g ps assign body).wpIn F n P Q a w := by
  refine wpIn_rangeFunc ?_
  intro fn hfn
  rw [hro]
  obtain ⟨rec, hrec⟩ : ∃ rec : LoopState → Option Code → Loop, rec = fun st pe => { state := st, pending := pe, fn, tmps := a.tmps, params := ps, assign, body, defers := w.heap.size } := ⟨_, rfl⟩
  obtain ⟨W1, hW1⟩ : ∃ W1, (w.alloc (.deferred (some []))).alloc (.loop (rec .ready none)) = W1 := ⟨_, rfl⟩
  have hL1 : W1.heap[w.heap.size + 1]? = some (.loop (rec .ready none)) := by
    rw [← hW1]; have := World.alloc_heap_new (w.alloc (.deferred (some []))) (.loop (rec .ready none)); rwa [World.size_alloc] at this
  have hK1 : W1.heap[w.heap.size]? = some (.deferred (some [])) := by
    rw [← hW1]; exact (Below.heap_alloc _ _ _ (by simp)).trans (World.alloc_heap_new w _)
  have hb1 : Below w.heap.size w W1 := by
    rw [← hW1]; exact ((Below.refl _ w).alloc (Nat.le_refl _) _).alloc (by simp) _
  have hs1 : W1.heap.size = w.heap.size + 2 := by rw [← hW1]; simp
  refine ⟨w.heap.size + 1, [{ target := .collected w.heap.size, args := #[] }], W1, { target := .fn (.func gf) lb, args := fs ++ #[.func (.yield (w.heap.size + 1)) #[] #[]] }, W1, gf,
    fs ++ #[.func (.yield (w.heap.size + 1)) #[] #[]] ++ lb, W1, ?_, ?_, ?_, ?_, fun _ => h1, ?_⟩
  · rw [← hW1, hrec]; exact run_enterLoop_outer _ _ _ _ _
  · simp only [resolve, hg]
    simp [go_sem]
  · intro f' hf'; simp [Target.leads] at hf'; subst hf'; exact hFg
  · simp [invoke, go_sem, eg]
  · refine (hit (w.heap.size + 1) W1 hb1).mono ?_
    rintro e W2 ⟨⟨v, rfl⟩, hb2⟩
    have hl : W2.heap[w.heap.size + 1]? = some (.loop (rec .ready none)) := (hb2.block _ (by omega)).trans hL1
    have hk : W2.heap[w.heap.size]? = some (.deferred (some [])) := (hb2.block _ (by omega)).trans hK1
    exact ⟨none, _, by have := run_endLoop (P := P) hl (by rw [hrec]; simp); rw [hrec] at this; exact this, hdone _ _ (Nat.le_refl _) (bl_putObj (bl_tr hb1 hb2) _ _ (by omega)) ((World.putObj_heap_other (by omega)).trans hk)⟩

set_option maxHeartbeats 1000000 in
set_option maxRecDepth 100000 in
theorem all_nil (y : Nat) (w : World) : Calls Try.prog 105 #[.pointer none, .func (.yield y) #[] #[]] w fun e w' => e = .returned (.tuple #[]) ∧ Below w.heap.size w w' := by
  have hB : Hid (Arr (w.alloc (.cells #[.pointer none] 86)) w.heap.size 86 [.pointer none]) := ⟨heap_alloc_at _ _⟩
  have c0 := hB.out.cell
  go_enter Try.func105, Try.ntmps105
  go_wp2
  refine wp_loop_rounds 2 ?_
  rw [rounds_succ]
  go_wp2
  rw [rounds_succ]
  go_wp2
  refine bodyPost_end (results_none rfl _ _ _) rfl ?_
  exact ⟨rfl, bl_alloc (Below.refl _ _) _⟩
theorem endM_ret {fn : Func} {n D : Nat} {V : World} {T : Array Value} {R : Ending → World → Prop} {v : Value} (hK : V.heap[D]? = some (.deferred (some []))) (hres : (results fn T).run Try.prog (V.putObj D (.deferred none)) = .ok v (V.putObj D (.deferred none))) (hR : R (.returned v) (V.putObj D (.deferred none))) :
    bodyPostM Fence.wide n Try.prog fn R .ret { tmps := T, defers := [{ target := .collected D, args := #[] }] } V := by
  refine ⟨by simp, .inl ⟨_, _, rfl, run_takeDeferred hK, ?_⟩⟩
  exact ⟨v, hres, hR⟩
theorem endM_norm {fn : Func} {n D : Nat} {V : World} {T : Array Value} {R : Ending → World → Prop} {v : Value} (hK : V.heap[D]? = some (.deferred (some []))) (hres : (results fn T).run Try.prog (V.putObj D (.deferred none)) = .ok v (V.putObj D (.deferred none))) (hR : R (.returned v) (V.putObj D (.deferred none))) :
    bodyPostM Fence.wide n Try.prog fn R .normal { tmps := T, defers := [{ target := .collected D, args := #[] }] } V := by
  refine ⟨by simp, .inl ⟨_, _, rfl, run_takeDeferred hK, ?_⟩⟩
  exact ⟨v, hres, hR⟩

set_option maxHeartbeats 1000000 in
set_option maxRecDepth 100000 in
theorem spread_nil (w : World) (J : Nat) : Calls Try.prog 82 #[.pointer (some ⟨J, 0, none⟩), .pointer none] w fun e w' => e = .returned (.bool true) ∧ Below w.heap.size w w' := by
  refine (callsIn_wide (n := 3)).1 ?_
  have hR1 : Hid (∀ o, Arr ((w.alloc o).alloc (.cells #[.bool false] 4)) (w.heap.size + 1) 4 [.bool false]) := fun o => ⟨by have := heap_alloc_at (w.alloc o) (.cells #[.bool false] 4); rw [size_alloc] at this; exact this⟩
  have hBB : Hid (∀ o o', Below w.heap.size w ((w.alloc o).alloc o')) := fun o o' => bl_alloc (bl_alloc (Below.refl _ _) _) _
  have hsz : Hid (∀ o o', ((w.alloc o).alloc o').heap.size = w.heap.size + 2) := fun o o' => by rw [size_alloc, size_alloc]
  refine callsIn_of_wp_marks Try.func82 rfl trivial ?_ rfl
  simp only [Try.ntmps82, List.size_toArray, List.length_cons, List.length_nil, Nat.reduceAdd, Nat.reduceSub, Array.replicate_succ, Array.replicate_zero, List.push_toArray, List.append_toArray, List.nil_append, List.cons_append]
  gi_wp2
  refine wpIn_rangeFunc_none rfl (by omega) (gf := 105) (fs := #[.pointer none]) (lb := #[]) rfl trivial (enters_of Try.func105 (by kernel_rfl) rfl) (fun y W hb => (callsIn_wide.2 (all_nil y W)).mono fun e W' h => ⟨⟨_, h.1⟩, h.2⟩) (fun D W hD hb hK => ?_)
  have X := hid ((hR1.out (.cells #[.pointer (some ⟨J, 0, none⟩)] 93)).stays hb)
  have hne : D ≠ w.heap.size + 1 := by rw [hsz.out] at hD; omega
  have hDw : w.heap.size ≤ D := by rw [hsz.out] at hD; omega
  have HB := hid (bl_tr (hBB.out _ _) hb)
  have c0 := X.out.cell 0
  have f0 := X.out.frozen 0
  have HK := hid hK
  clear hb hK hD hR1 hBB hsz
  gi_wp2
  have X2 := X.out.set 0 (.bool true)
  have hK2 : (W.setCell ⟨w.heap.size + 1, 0, none⟩ (.bool true)).heap[D]? = some (.deferred (some [])) := (Below.heap_setCell _ _ _ _ (by show D ≠ w.heap.size + 1; omega)).trans HK.out
  have X3 : Arr ((W.setCell ⟨w.heap.size + 1, 0, none⟩ (.bool true)).putObj D (.deferred none)) (w.heap.size + 1) 4 [.bool true] := ⟨(World.putObj_heap_other (by omega)).trans X2.b⟩
  have c3 := X3.cell 0
  have f3 := X3.frozen 0
  refine endM_ret (v := .bool true) hK2 ?_ ⟨rfl, bl_putObj (bl_set _ _ HB.out (by show _ ≤ w.heap.size + 1; omega)) _ _ hDw⟩
  simp [results, Try.f82, go_sem, c3, f3]
end Go.Proofs.Ytknlpeloaapaiaa
