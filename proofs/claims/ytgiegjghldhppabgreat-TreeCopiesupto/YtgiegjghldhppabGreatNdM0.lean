/- The meter: what entering and leaving a node does to it. -/
import Derived.Test.YtgiegjghldhppabGreatNdS
namespace Go.Proofs.YtgiegjghldhppabGreat
open Go.RowKit
set_option linter.unusedVariables false

/-- What a meter holds: nodes, depth, at. -/
structure Mst where
  a : Int
  d : Int
  t : Int
def Mst.enter (s : Mst) : Mst := ⟨wrap64 (s.a + 1), max s.d (wrap64 (s.t + 1)), wrap64 (s.t + 1)⟩
def Mst.leave (s : Mst) : Mst := ⟨s.a, s.d, wrap64 (s.t - 1)⟩
mutual
def Nd.run : Nd → Mst → Mst
  | .mk _ ks => fun s => (Nd.runLL ks s.enter).leave
def Nd.runLL : List (List Nd) → Mst → Mst
  | [] => fun s => s
  | l :: r => fun s => Nd.runLL r (Nd.runL l s)
def Nd.runL : List Nd → Mst → Mst
  | [] => fun s => s
  | x :: r => fun s => Nd.runL r (Nd.run x s)
end
/-- A meter lies in block M. -/
structure Mt (w : World) (M : Nat) (s : Mst) : Prop where
  a : w.cell? ⟨M, 0, none⟩ = some (.int .i64 s.a)
  d : w.cell? ⟨M, 1, none⟩ = some (.int .i64 s.d)
  t : w.cell? ⟨M, 2, none⟩ = some (.int .i64 s.t)
  fa : w.frozen? ⟨M, 0, none⟩ = false
  fd : w.frozen? ⟨M, 1, none⟩ = false
  ft : w.frozen? ⟨M, 2, none⟩ = false
/-- All blocks but M are as they were. -/
structure Save (M : Nat) (w w' : World) : Prop where
  os : w'.os = w.os
  tape : w'.tape = w.tape
  output : w'.output = w.output
  size : w'.heap.size = w.heap.size
  block : ∀ k, k ≠ M → w'.heap[k]? = w.heap[k]?
theorem Save.refl (M : Nat) (w : World) : Save M w w := ⟨rfl, rfl, rfl, rfl, fun _ _ => rfl⟩
theorem Save.trans {M : Nat} {a b c : World} (h : Save M a b) (k : Save M b c) : Save M a c :=
  ⟨k.os.trans h.os, k.tape.trans h.tape, k.output.trans h.output, k.size.trans h.size, fun i hi => (k.block i hi).trans (h.block i hi)⟩
theorem Save.drew {M : Nat} {a w : World} (h : Save M a w) : Save M a w.drew := ⟨h.os, h.tape, h.output, h.size, h.block⟩
theorem Save.set {M : Nat} {a w : World} (h : Save M a w) (j : Nat) (u : Value) : Save M a (w.setCell ⟨M, j, none⟩ u) :=
  h.trans ⟨rfl, rfl, rfl, by simp [World.setCell], fun k hk => Below.heap_setCell _ _ _ _ hk⟩
theorem Save.cell {M : Nat} {w w' : World} (h : Save M w w') {p : Addr} (hp : p.block ≠ M) : w'.cell? p = w.cell? p := World.cell?_of_block (w := w) (h.block p.block hp)
theorem Save.below {M B : Nat} {a w w' : World} (hb : Below B a w) (h : Save M w w') (hM : B ≤ M) : Below B a w' :=
  hb.trans ⟨h.os, h.tape, h.output, Nat.le_of_eq h.size.symm, fun k hk => h.block k (by omega)⟩
theorem Keeps.of_save {K : Nat → Prop} {M : Nat} {w w' : World} (h : Save M w w') (hK : ¬ K M) : Keeps K w w' := fun b o v hb hv => (h.cell (fun e => hK (by rw [← (show b = M from e)]; exact hb))).trans hv

set_option maxHeartbeats 1000000 in
theorem enter_any (M : Nat) (s : Mst) (w : World) (h : Mt w M s) : Calls Tryz.prog 76 #[.pointer (some ⟨M, 0, none⟩)] w fun e w' => e = .returned (.tuple #[]) ∧ Mt w' M s.enter ∧ Save M w w' := by
  obtain ⟨a, d, t⟩ := s
  obtain ⟨h0, h1, h2, f0, f1, f2⟩ := h
  simp only at h0 h1 h2
  go_enter Tryz.func76, Tryz.ntmps76
  go_wp2
  go_region
  go_wp2
  go_end0
  refine ⟨rfl, ⟨?_, ?_, ?_, ?_, ?_, ?_⟩, ((((Save.refl _ _).set _ _).set _ _).set _ _).drew⟩
  all_goals simp [go_sem, h0, h1, h2, f0, f1, f2, Mst.enter]

theorem leave_any (M : Nat) (s : Mst) (w : World) (h : Mt w M s) : Calls Tryz.prog 80 #[.pointer (some ⟨M, 0, none⟩)] w fun e w' => e = .returned (.tuple #[]) ∧ Mt w' M s.leave ∧ Save M w w' := by
  obtain ⟨a, d, t⟩ := s
  obtain ⟨h0, h1, h2, f0, f1, f2⟩ := h
  simp only at h0 h1 h2
  go_enter Tryz.func80, Tryz.ntmps80
  go_wp2
  go_end0
  refine ⟨rfl, ⟨?_, ?_, ?_, ?_, ?_, ?_⟩, (Save.refl _ _).set _ _⟩
  all_goals simp [go_sem, h0, h1, h2, f0, f1, f2, Mst.leave]
end Go.Proofs.YtgiegjghldhppabGreat
