/- Pieces: GrX. -/
import Derived.Test.YtjebepnphoeiaabGreatDoorQak
import Derived.Test.YtjebepnphoeiaabGreatDoorQat
namespace Go.Proofs.YtjebepnphoeiaabGreatDoor
open Go.RowKit
set_option linter.unusedVariables false
set_option linter.unusedSimpArgs false

structure Rf (w : World) (B S : Nat) (p c : Int) : Prop where
 lt : B < w.heap.size
 rest : ∃ a n k, w.cell? ⟨B, 0, none⟩ = some (.slice a n k)
 e : w.cell? ⟨B, 1, none⟩ = some (.int .i64 (S : Int))
 a : w.cell? ⟨B, 2, none⟩ = some (.int .i64 p)
 k : w.cell? ⟨B, 3, none⟩ = some (.int .i64 c)
 z0 : w.frozen? ⟨B, 0, none⟩ = false
 z2 : w.frozen? ⟨B, 2, none⟩ = false
 z3 : w.frozen? ⟨B, 3, none⟩ = false
 ne : c ≠ 0
theorem Rd.fail {w : World} {B S : Nat} {ts : Gr.Ts} (h : Rd w B S ts) {p c : Int} (hc : c ≠ 0) : Rf ((w.setCell ⟨B, 2, none⟩ (.int .i64 p)).setCell ⟨B, 3, none⟩ (.int .i64 c)) B S p c := by
 obtain ⟨a, k, h0⟩ := h.form
 have h1 := h.e
 have h2 := h.a
 have h3 := h.k
 have z0 := h.z0
 have z2 := h.z2
 have z3 := h.z3
 refine ⟨by simpa [World.setCell] using h.lt, ⟨a, ts.length, k, ?_⟩, ?_, ?_, ?_, ?_, ?_, ?_, hc⟩
 all_goals simp [go_sem, h0, h1, h2, h3, z0, z2, z3]
theorem Rf.alloc {w : World} {B S : Nat} {p c : Int} (h : Rf w B S p c) (o : Obj) : Rf (w.alloc o) B S p c := by
 have hb : Below w.heap.size w (w.alloc o) := bl_alloc (Below.refl _ _) o
 obtain ⟨a, n, k, h0⟩ := h.rest
 exact ⟨Nat.lt_of_lt_of_le h.lt hb.size, ⟨a, n, k, (hb.cell h.lt).trans h0⟩, (hb.cell h.lt).trans h.e, (hb.cell h.lt).trans h.a, (hb.cell h.lt).trans h.k, (hb.frozen h.lt).trans h.z0, (hb.frozen h.lt).trans h.z2, (hb.frozen h.lt).trans h.z3, h.ne⟩

set_option maxHeartbeats 1000000 in
set_option maxRecDepth 100000 in
theorem fcTy_panicking (bx B S : Nat) (ts : Gr.Ts) (p c : Int) (hc : c ≠ 0) (older : List PanicEntry) (w : World) (h : Rd w B S ts) (hb : w.cell? ⟨bx, 0, none⟩ = some (.pointer (some ⟨B, 0, none⟩))) :
  CallsD Tryz.prog 88 #[.pointer (some ⟨bx, 0, none⟩)] (.panicking ({ v := .iface 72 (.agg #[.int .i64 p, .int .i64 c]), recovered := false } :: older)) w fun e' u' w' =>
   e' = .returned (.tuple #[]) ∧ u' = .panicking ({ v := .iface 72 (.agg #[.int .i64 p, .int .i64 c]), recovered := true } :: older) ∧ Rf w' B S p c ∧ Bes B w w' := by
 have hta : ∀ (v : Value) (W : World), (Instr.typeAssert (.iface 72 v) 20 72 true).run Tryz.prog W = .ok (.tuple #[v, .bool true]) W := fun v W => by kernel_rfl
 have k2 := h.a
 have k3 := h.k
 have z2 := h.z2
 have z3 := h.z3
 have hlt := h.lt
 have HF : Hid (Rf ((w.setCell ⟨B, 2, none⟩ (.int .i64 p)).setCell ⟨B, 3, none⟩ (.int .i64 c)) B S p c) := h.fail hc
 clear h
 have hbl := World.block_lt_of_cell? w _ hb
 refine callsD_of_wpS Tryz.func88 rfl fun c₀ cs hu => ?_
 apply wpS_seq
 apply wpS_region
 simp [wpOpsS, go_sem, recoverD, hu, Tryz.ntmps88, Exit.thenS]
 rw [show (#[Value.pointer (some ⟨bx, 0, none⟩)] ++ ((Array.replicate 18 undef).setIfInBounds 3 (Value.iface 72 (Value.agg #[Value.int IntKind.i64 p, Value.int IntKind.i64 c]))).setIfInBounds 0 (Value.iface 72 (Value.agg #[Value.int IntKind.i64 p, Value.int IntKind.i64 c]))) = #[.pointer (some ⟨bx, 0, none⟩), Value.iface 72 (Value.agg #[Value.int IntKind.i64 p, Value.int IntKind.i64 c]), undef, undef, Value.iface 72 (Value.agg #[Value.int IntKind.i64 p, Value.int IntKind.i64 c]), undef, undef, undef, undef, undef, undef, undef, undef, undef, undef, undef, undef, undef, undef] from rfl]
 refine wpS_of_wp ?_
 go_wp2
 simp [bodyPostS, results, Tryz.results88]
 exact ⟨HF.out.alloc _, (((Bes.refl _ _).set _ _).set _ _).alloc _⟩

set_option maxHeartbeats 1000000 in
set_option maxRecDepth 100000 in
theorem fcTy_idle (bx : Nat) (w : World) :
  CallsD Tryz.prog 88 #[.pointer (some ⟨bx, 0, none⟩)] .returning w fun e u' w' => e = .returned (.tuple #[]) ∧ u' = .returning ∧ w' = w := by
 refine callsD_of_wpS Tryz.func88 rfl fun c₀ cs hu => ?_
 apply wpS_seq
 apply wpS_region
 simp [wpOpsS, go_sem, recoverD, hu, Tryz.ntmps88, Exit.thenS]
 rw [show (#[Value.pointer (some ⟨bx, 0, none⟩)] ++ ((Array.replicate 18 undef).setIfInBounds 3 Value.nilIface).setIfInBounds 0 Value.nilIface) = #[.pointer (some ⟨bx, 0, none⟩), .nilIface, undef, undef, .nilIface, undef, undef, undef, undef, undef, undef, undef, undef, undef, undef, undef, undef, undef, undef] from rfl]
 refine wpS_of_wp ?_
 go_wp2
 cases c₀
 simp_all [bodyPostS, results, Tryz.results88]





set_option maxHeartbeats 1000000 in
set_option maxRecDepth 100000 in
theorem fcExp_panicking (bx B S : Nat) (ts : Gr.Ts) (p c : Int) (hc : c ≠ 0) (older : List PanicEntry) (w : World) (h : Rd w B S ts) (hb : w.cell? ⟨bx, 0, none⟩ = some (.pointer (some ⟨B, 0, none⟩))) :
  CallsD Tryz.prog 31 #[.pointer (some ⟨bx, 0, none⟩)] (.panicking ({ v := .iface 72 (.agg #[.int .i64 p, .int .i64 c]), recovered := false } :: older)) w fun e' u' w' =>
   e' = .returned (.tuple #[]) ∧ u' = .panicking ({ v := .iface 72 (.agg #[.int .i64 p, .int .i64 c]), recovered := true } :: older) ∧ Rf w' B S p c ∧ Bes B w w' := by
 have hta : ∀ (v : Value) (W : World), (Instr.typeAssert (.iface 72 v) 20 72 true).run Tryz.prog W = .ok (.tuple #[v, .bool true]) W := fun v W => by kernel_rfl
 have k2 := h.a
 have k3 := h.k
 have z2 := h.z2
 have z3 := h.z3
 have hlt := h.lt
 have HF : Hid (Rf ((w.setCell ⟨B, 2, none⟩ (.int .i64 p)).setCell ⟨B, 3, none⟩ (.int .i64 c)) B S p c) := h.fail hc
 clear h
 have hbl := World.block_lt_of_cell? w _ hb
 refine callsD_of_wpS Tryz.func31 rfl fun c₀ cs hu => ?_
 apply wpS_seq
 apply wpS_region
 simp [wpOpsS, go_sem, recoverD, hu, Tryz.ntmps31, Exit.thenS]
 rw [show (#[Value.pointer (some ⟨bx, 0, none⟩)] ++ ((Array.replicate 18 undef).setIfInBounds 3 (Value.iface 72 (Value.agg #[Value.int IntKind.i64 p, Value.int IntKind.i64 c]))).setIfInBounds 0 (Value.iface 72 (Value.agg #[Value.int IntKind.i64 p, Value.int IntKind.i64 c]))) = #[.pointer (some ⟨bx, 0, none⟩), Value.iface 72 (Value.agg #[Value.int IntKind.i64 p, Value.int IntKind.i64 c]), undef, undef, Value.iface 72 (Value.agg #[Value.int IntKind.i64 p, Value.int IntKind.i64 c]), undef, undef, undef, undef, undef, undef, undef, undef, undef, undef, undef, undef, undef, undef] from rfl]
 refine wpS_of_wp ?_
 go_wp2
 simp [bodyPostS, results, Tryz.results31]
 exact ⟨HF.out.alloc _, (((Bes.refl _ _).set _ _).set _ _).alloc _⟩

set_option maxHeartbeats 1000000 in
set_option maxRecDepth 100000 in
theorem fcExp_idle (bx : Nat) (w : World) :
  CallsD Tryz.prog 31 #[.pointer (some ⟨bx, 0, none⟩)] .returning w fun e u' w' => e = .returned (.tuple #[]) ∧ u' = .returning ∧ w' = w := by
 refine callsD_of_wpS Tryz.func31 rfl fun c₀ cs hu => ?_
 apply wpS_seq
 apply wpS_region
 simp [wpOpsS, go_sem, recoverD, hu, Tryz.ntmps31, Exit.thenS]
 rw [show (#[Value.pointer (some ⟨bx, 0, none⟩)] ++ ((Array.replicate 18 undef).setIfInBounds 3 Value.nilIface).setIfInBounds 0 Value.nilIface) = #[.pointer (some ⟨bx, 0, none⟩), .nilIface, undef, undef, .nilIface, undef, undef, undef, undef, undef, undef, undef, undef, undef, undef, undef, undef, undef, undef] from rfl]
 refine wpS_of_wp ?_
 go_wp2
 cases c₀
 simp_all [bodyPostS, results, Tryz.results31]
end Go.Proofs.YtjebepnphoeiaabGreatDoor
