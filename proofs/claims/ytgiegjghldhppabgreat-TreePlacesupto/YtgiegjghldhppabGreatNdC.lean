/- What catches a panic: the function that is deferred; what Right asks of one node. -/
import Derived.Test.YtgiegjghldhppabGreatNdQ1
import Derived.Defers
import Derived.Recover
namespace Go.Proofs.YtgiegjghldhppabGreat
open Go.RowKit
set_option linter.unusedVariables false

set_option maxHeartbeats 1000000 in
set_option maxRecDepth 100000 in
theorem catchDec_panicking (p : Addr) (x e : Int) (older : List PanicEntry) (w : World) (hc : w.cell? p = some (.int .i64 x)) (hz : w.frozen? p = false) :
    CallsD Tryz.prog 50 #[.pointer (some p)] (.panicking ({ v := .iface 36 (.int .i64 e), recovered := false } :: older)) w fun e' u' w' =>
      e' = .returned (.tuple #[]) ∧ u' = .panicking ({ v := .iface 36 (.int .i64 e), recovered := true } :: older) ∧ w' = w.setCell p (.int .i64 e) := by
  have hta : ∀ (v : Value) (W : World), (Instr.typeAssert (.iface 36 v) 20 36 true).run Tryz.prog W = .ok (.tuple #[v, .bool true]) W := fun v W => by kernel_rfl
  refine callsD_of_wpS Tryz.func50 rfl fun c₀ cs hu => ?_
  apply wpS_seq
  apply wpS_region
  simp [wpOpsS, go_sem, recoverD, hu, Tryz.ntmps50, Exit.thenS]
  rw [show (#[Value.pointer (some p)] ++ ((Array.replicate 15 undef).setIfInBounds 3 (Value.iface 36 (Value.int IntKind.i64 e))).setIfInBounds 0 (Value.iface 36 (Value.int IntKind.i64 e))) = #[.pointer (some p), .iface 36 (.int .i64 e), undef, undef, .iface 36 (.int .i64 e), undef, undef, undef, undef, undef, undef, undef, undef, undef, undef, undef] from rfl]
  refine wpS_of_wp ?_
  go_wp2
  simp [bodyPostS, results, Tryz.results50]

set_option maxHeartbeats 1000000 in
set_option maxRecDepth 100000 in
theorem catchDec_idle (p : Addr) (w : World) :
    CallsD Tryz.prog 50 #[.pointer (some p)] .returning w fun e u' w' => e = .returned (.tuple #[]) ∧ u' = .returning ∧ w' = w := by
  refine callsD_of_wpS Tryz.func50 rfl fun c₀ cs hu => ?_
  apply wpS_seq
  apply wpS_region
  simp [wpOpsS, go_sem, recoverD, hu, Tryz.ntmps50, Exit.thenS]
  rw [show (#[Value.pointer (some p)] ++ ((Array.replicate 15 undef).setIfInBounds 3 Value.nilIface).setIfInBounds 0 Value.nilIface) = #[.pointer (some p), .nilIface, undef, undef, .nilIface, undef, undef, undef, undef, undef, undef, undef, undef, undef, undef, undef] from rfl]
  refine wpS_of_wp ?_
  go_wp2
  cases c₀
  simp_all [bodyPostS, results, Tryz.results50]

set_option maxHeartbeats 1000000 in
set_option maxRecDepth 100000 in
theorem caughtDec (n : Nat) (ih : ErrOf 21 (Nd.err 3) n 3) (w : World) (b o : Nat) (vs : List Value) (nd : Nd) (hb : b < w.heap.size) (hc : Cells w b o vs) (ha : At w Any n 3 vs nd) :
    Calls Tryz.prog 20 #[.pointer (some ⟨b, o, none⟩), .func (.func 21) #[] #[]] w fun e w' => e = .returned (.int .i64 (Nd.err 3 nd)) ∧ Below w.heap.size w w' := by
  have hmf : ∀ (fn : Fn) (first cap : Array Value) (w : World), (Instr.makeFunc fn first cap).run Tryz.prog w = .ok (.func fn first cap) w := fun _ _ _ _ => rfl
  have q : Hid (∀ ob, Calls Tryz.prog 21 #[.pointer (some ⟨b, o, none⟩)] (w.alloc ob) fun e w' => e = outc (Nd.err 3 nd) ∧ Below (w.alloc ob).heap.size (w.alloc ob) w') := fun ob => ih (w.alloc ob) b o vs nd (by simp; omega) (hc.move trivial (Keeps.of_below (K := Any) (bl_alloc (Below.refl _ _) _))) (At.move (Keeps.of_below (bl_alloc (Below.refl _ _) _)) (fun _ h => h) _ _ _ _ ha)
  clear ih hc ha
  have hlt : w.heap.size < (w.alloc (.cells #[.int .i64 0] 36)).heap.size := by simp
  rcases outc_cases (Nd.err 3 nd) with ⟨hz, he⟩ | ⟨hz, he⟩
  · rw [he] at q
    have HZ : Hid (Nd.err 3 nd = 0) := hz
    clear hz he
    go_enter_defers Tryz.func20, Tryz.ntmps20
    go_wp2_with (go_at_call 21; refine (q.out _).mono ?_; rintro e w1 ⟨rfl, hb1⟩; have x0 : w1.cell? ⟨w.heap.size, 0, none⟩ = some (.int .i64 0) := (hb1.cell hlt).trans (by simp [go_sem]); have z0 : w1.frozen? ⟨w.heap.size, 0, none⟩ = false := (hb1.frozen hlt).trans (by simp [go_sem]); have hB : Hid (Below w.heap.size w w1) := bl_tr (bl_alloc (Below.refl _ _) _) hb1; clear hb1)
    refine leaves_cons (f := 50) (args := #[.pointer (some ⟨w.heap.size, 0, none⟩)]) (by simp) (by simp [go_sem]) ?_
    refine (catchDec_idle ⟨w.heap.size, 0, none⟩ _).mono ?_
    rintro e u' w'' ⟨rfl, rfl, rfl⟩
    have hB2 : Below w.heap.size w (w1.setCell ⟨w.heap.size, 0, none⟩ (.int .i64 0)) := hB.out.setCell (Nat.le_refl _) _
    simp [Leaves, settle, results, Tryz.results20, go_sem, x0, HZ.out, hB2]
  · rw [he] at q
    clear hz he
    go_enter_defers Tryz.func20, Tryz.ntmps20
    go_wp2_with (go_at_call 21; refine (q.out _).mono ?_; rintro e w1 ⟨rfl, hb1⟩; have x0 : w1.cell? ⟨w.heap.size, 0, none⟩ = some (.int .i64 0) := (hb1.cell hlt).trans (by simp [go_sem]); have z0 : w1.frozen? ⟨w.heap.size, 0, none⟩ = false := (hb1.frozen hlt).trans (by simp [go_sem]); have hB : Hid (Below w.heap.size w w1) := bl_tr (bl_alloc (Below.refl _ _) _) hb1; clear hb1)
    refine leaves_cons (f := 50) (args := #[.pointer (some ⟨w.heap.size, 0, none⟩)]) (by simp) (by simp [go_sem]) ?_
    refine (catchDec_panicking ⟨w.heap.size, 0, none⟩ 0 _ [] _ x0 z0).mono ?_
    rintro e u' w'' ⟨rfl, rfl, rfl⟩
    have hB2 : Below w.heap.size w (w1.setCell ⟨w.heap.size, 0, none⟩ (.int .i64 (Nd.err 3 nd))) := hB.out.setCell (Nat.le_refl _) _
    simp [Leaves, settle, results, Tryz.results20, go_sem, x0, hB2]

set_option maxHeartbeats 1000000 in
set_option maxRecDepth 100000 in
theorem catchExp_panicking (p : Addr) (x e : Int) (older : List PanicEntry) (w : World) (hc : w.cell? p = some (.int .i64 x)) (hz : w.frozen? p = false) :
    CallsD Tryz.prog 97 #[.pointer (some p)] (.panicking ({ v := .iface 36 (.int .i64 e), recovered := false } :: older)) w fun e' u' w' =>
      e' = .returned (.tuple #[]) ∧ u' = .panicking ({ v := .iface 36 (.int .i64 e), recovered := true } :: older) ∧ w' = w.setCell p (.int .i64 e) := by
  have hta : ∀ (v : Value) (W : World), (Instr.typeAssert (.iface 36 v) 20 36 true).run Tryz.prog W = .ok (.tuple #[v, .bool true]) W := fun v W => by kernel_rfl
  refine callsD_of_wpS Tryz.func97 rfl fun c₀ cs hu => ?_
  apply wpS_seq
  apply wpS_region
  simp [wpOpsS, go_sem, recoverD, hu, Tryz.ntmps97, Exit.thenS]
  rw [show (#[Value.pointer (some p)] ++ ((Array.replicate 15 undef).setIfInBounds 3 (Value.iface 36 (Value.int IntKind.i64 e))).setIfInBounds 0 (Value.iface 36 (Value.int IntKind.i64 e))) = #[.pointer (some p), .iface 36 (.int .i64 e), undef, undef, .iface 36 (.int .i64 e), undef, undef, undef, undef, undef, undef, undef, undef, undef, undef, undef] from rfl]
  refine wpS_of_wp ?_
  go_wp2
  simp [bodyPostS, results, Tryz.results97]

set_option maxHeartbeats 1000000 in
set_option maxRecDepth 100000 in
theorem catchExp_idle (p : Addr) (w : World) :
    CallsD Tryz.prog 97 #[.pointer (some p)] .returning w fun e u' w' => e = .returned (.tuple #[]) ∧ u' = .returning ∧ w' = w := by
  refine callsD_of_wpS Tryz.func97 rfl fun c₀ cs hu => ?_
  apply wpS_seq
  apply wpS_region
  simp [wpOpsS, go_sem, recoverD, hu, Tryz.ntmps97, Exit.thenS]
  rw [show (#[Value.pointer (some p)] ++ ((Array.replicate 15 undef).setIfInBounds 3 Value.nilIface).setIfInBounds 0 Value.nilIface) = #[.pointer (some p), .nilIface, undef, undef, .nilIface, undef, undef, undef, undef, undef, undef, undef, undef, undef, undef, undef] from rfl]
  refine wpS_of_wp ?_
  go_wp2
  cases c₀
  simp_all [bodyPostS, results, Tryz.results97]

set_option maxHeartbeats 1000000 in
set_option maxRecDepth 100000 in
theorem caughtExp (n : Nat) (ih : ErrOf 49 (Nd.err 2) n 2) (w : World) (b o : Nat) (vs : List Value) (nd : Nd) (hb : b < w.heap.size) (hc : Cells w b o vs) (ha : At w Any n 2 vs nd) :
    Calls Tryz.prog 75 #[.pointer (some ⟨b, o, none⟩), .func (.func 49) #[] #[]] w fun e w' => e = .returned (.int .i64 (Nd.err 2 nd)) ∧ Below w.heap.size w w' := by
  have hmf : ∀ (fn : Fn) (first cap : Array Value) (w : World), (Instr.makeFunc fn first cap).run Tryz.prog w = .ok (.func fn first cap) w := fun _ _ _ _ => rfl
  have q : Hid (∀ ob, Calls Tryz.prog 49 #[.pointer (some ⟨b, o, none⟩)] (w.alloc ob) fun e w' => e = outc (Nd.err 2 nd) ∧ Below (w.alloc ob).heap.size (w.alloc ob) w') := fun ob => ih (w.alloc ob) b o vs nd (by simp; omega) (hc.move trivial (Keeps.of_below (K := Any) (bl_alloc (Below.refl _ _) _))) (At.move (Keeps.of_below (bl_alloc (Below.refl _ _) _)) (fun _ h => h) _ _ _ _ ha)
  clear ih hc ha
  have hlt : w.heap.size < (w.alloc (.cells #[.int .i64 0] 36)).heap.size := by simp
  rcases outc_cases (Nd.err 2 nd) with ⟨hz, he⟩ | ⟨hz, he⟩
  · rw [he] at q
    have HZ : Hid (Nd.err 2 nd = 0) := hz
    clear hz he
    go_enter_defers Tryz.func75, Tryz.ntmps75
    go_wp2_with (go_at_call 49; refine (q.out _).mono ?_; rintro e w1 ⟨rfl, hb1⟩; have x0 : w1.cell? ⟨w.heap.size, 0, none⟩ = some (.int .i64 0) := (hb1.cell hlt).trans (by simp [go_sem]); have z0 : w1.frozen? ⟨w.heap.size, 0, none⟩ = false := (hb1.frozen hlt).trans (by simp [go_sem]); have hB : Hid (Below w.heap.size w w1) := bl_tr (bl_alloc (Below.refl _ _) _) hb1; clear hb1)
    refine leaves_cons (f := 97) (args := #[.pointer (some ⟨w.heap.size, 0, none⟩)]) (by simp) (by simp [go_sem]) ?_
    refine (catchExp_idle ⟨w.heap.size, 0, none⟩ _).mono ?_
    rintro e u' w'' ⟨rfl, rfl, rfl⟩
    have hB2 : Below w.heap.size w (w1.setCell ⟨w.heap.size, 0, none⟩ (.int .i64 0)) := hB.out.setCell (Nat.le_refl _) _
    simp [Leaves, settle, results, Tryz.results75, go_sem, x0, HZ.out, hB2]
  · rw [he] at q
    clear hz he
    go_enter_defers Tryz.func75, Tryz.ntmps75
    go_wp2_with (go_at_call 49; refine (q.out _).mono ?_; rintro e w1 ⟨rfl, hb1⟩; have x0 : w1.cell? ⟨w.heap.size, 0, none⟩ = some (.int .i64 0) := (hb1.cell hlt).trans (by simp [go_sem]); have z0 : w1.frozen? ⟨w.heap.size, 0, none⟩ = false := (hb1.frozen hlt).trans (by simp [go_sem]); have hB : Hid (Below w.heap.size w w1) := bl_tr (bl_alloc (Below.refl _ _) _) hb1; clear hb1)
    refine leaves_cons (f := 97) (args := #[.pointer (some ⟨w.heap.size, 0, none⟩)]) (by simp) (by simp [go_sem]) ?_
    refine (catchExp_panicking ⟨w.heap.size, 0, none⟩ 0 _ [] _ x0 z0).mono ?_
    rintro e u' w'' ⟨rfl, rfl, rfl⟩
    have hB2 : Below w.heap.size w (w1.setCell ⟨w.heap.size, 0, none⟩ (.int .i64 (Nd.err 2 nd))) := hB.out.setCell (Nat.le_refl _) _
    simp [Leaves, settle, results, Tryz.results75, go_sem, x0, hB2]

end Go.Proofs.YtgiegjghldhppabGreat
