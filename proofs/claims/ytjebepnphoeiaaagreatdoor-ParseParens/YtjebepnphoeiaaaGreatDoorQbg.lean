/- Pieces: NdQ1 NdC GrX GrY GrDn GrNz NdR0. -/
import Derived.Deep.RegionHeld
import Derived.Test.YtjebepnphoeiaaaGreatDoorQbf
import Derived.Defers
import Derived.Recover
import Derived.Test.YtjebepnphoeiaaaGreatDoorQai
import Derived.Test.YtjebepnphoeiaaaGreatDoorQae
import Derived.Test.YtjebepnphoeiaaaGreatDoorQag
import Derived.BigRegion
namespace Go.Proofs.YtjebepnphoeiaaaGreatDoor
open Go.RowKit
set_option linter.unusedVariables false
set_option linter.unusedSimpArgs false

theorem Nd.firstE_right (a : Int) : Nd.firstE a 0 = a := by
 unfold Nd.firstE
 by_cases h : a = 0
 ·
  rw [if_pos h, h]
 ·
  rw [if_neg h]
def Nd.ownN (s : Nat) (nd : Nd) : Int := Nd.own s nd.sc nd.ks
theorem Nd.firstE_left (a : Int) : Nd.firstE 0 a = a := Nd.firstE_zero rfl
theorem follows_mixed : Tryz.prog.follows .mixedOrders = true := by kernel_rfl
theorem sort_tyvar : SortOf 167 Nm.tyvar := ⟨enters_of Tryz.func167 (by kernel_rfl) rfl, fun s w hs => tyvar_any s hs w⟩
theorem sort_lower : SortOf 157 Nm.lower := ⟨enters_of Tryz.func157 (by kernel_rfl) rfl, fun s w hs => lower_any s hs w⟩
theorem sort_upper : SortOf 159 Nm.upper := ⟨enters_of Tryz.func159 (by kernel_rfl) rfl, fun s w hs => upper_any s hs w⟩
set_option maxHeartbeats 1000000 in
set_option maxRecDepth 100000 in
theorem catchExp_panicking (p : Addr) (x e : Int) (older : List PanicEntry) (w : World) (hc : w.cell? p = some (.int .i64 x)) (hz : w.frozen? p = false) :
  CallsD Tryz.prog 198 #[.pointer (some p)] (.panicking ({ v := .iface 29 (.int .i64 e), recovered := false } :: older)) w fun e' u' w' =>
   e' = .returned (.tuple #[]) ∧ u' = .panicking ({ v := .iface 29 (.int .i64 e), recovered := true } :: older) ∧ w' = w.setCell p (.int .i64 e) := by
 have hta : ∀ (v : Value) (W : World), (Instr.typeAssert (.iface 29 v) 20 29 true).run Tryz.prog W = .ok (.tuple #[v, .bool true]) W := fun v W => by kernel_rfl
 refine callsD_of_wpS Tryz.func198 rfl fun c₀ cs hu => ?_
 apply wpS_seq
 apply wpS_region
 simp [wpOpsS, go_sem, recoverD, hu, Tryz.ntmps198, Exit.thenS]
 rw [show (#[Value.pointer (some p)] ++ ((Array.replicate 15 undef).setIfInBounds 3 (Value.iface 29 (Value.int IntKind.i64 e))).setIfInBounds 0 (Value.iface 29 (Value.int IntKind.i64 e))) = #[.pointer (some p), .iface 29 (.int .i64 e), undef, undef, .iface 29 (.int .i64 e), undef, undef, undef, undef, undef, undef, undef, undef, undef, undef, undef] from rfl]
 refine wpS_of_wp ?_
 go_wp2
 simp [bodyPostS, results, Tryz.results198]

set_option maxHeartbeats 1000000 in
set_option maxRecDepth 100000 in
theorem catchExp_idle (p : Addr) (w : World) :
  CallsD Tryz.prog 198 #[.pointer (some p)] .returning w fun e u' w' => e = .returned (.tuple #[]) ∧ u' = .returning ∧ w' = w := by
 refine callsD_of_wpS Tryz.func198 rfl fun c₀ cs hu => ?_
 apply wpS_seq
 apply wpS_region
 simp [wpOpsS, go_sem, recoverD, hu, Tryz.ntmps198, Exit.thenS]
 rw [show (#[Value.pointer (some p)] ++ ((Array.replicate 15 undef).setIfInBounds 3 Value.nilIface).setIfInBounds 0 Value.nilIface) = #[.pointer (some p), .nilIface, undef, undef, .nilIface, undef, undef, undef, undef, undef, undef, undef, undef, undef, undef, undef] from rfl]
 refine wpS_of_wp ?_
 go_wp2
 cases c₀
 simp_all [bodyPostS, results, Tryz.results198]

set_option maxHeartbeats 1000000 in
set_option maxRecDepth 100000 in
theorem caughtExp (n : Nat) (ih : ErrOf 76 (Nd.err 2) n 2) (w : World) (b o : Nat) (vs : List Value) (nd : Nd) (hb : b < w.heap.size) (hc : Cells w b o vs) (ha : At w Any n 2 vs nd) :
  Calls Tryz.prog 129 #[.pointer (some ⟨b, o, none⟩), .func (.func 76) #[] #[]] w fun e w' => e = .returned (.int .i64 (Nd.err 2 nd)) ∧ Below w.heap.size w w' := by
 have hmf : ∀ (fn : Fn) (first cap : Array Value) (w : World), (Instr.makeFunc fn first cap).run Tryz.prog w = .ok (.func fn first cap) w := fun _ _ _ _ => rfl
 have q : Hid (∀ ob, Calls Tryz.prog 76 #[.pointer (some ⟨b, o, none⟩)] (w.alloc ob) fun e w' => e = outc (Nd.err 2 nd) ∧ Below (w.alloc ob).heap.size (w.alloc ob) w') := fun ob => ih (w.alloc ob) b o vs nd (by simp; omega) (hc.move trivial (Keeps.of_below (K := Any) (bl_alloc (Below.refl _ _) _))) (At.move (Keeps.of_below (bl_alloc (Below.refl _ _) _)) (fun _ h => h) _ _ _ _ ha)
 clear ih hc ha
 have hlt : w.heap.size < (w.alloc (.cells #[.int .i64 0] 29)).heap.size := by simp
 rcases outc_cases (Nd.err 2 nd) with ⟨hz, he⟩ | ⟨hz, he⟩
 ·
  rw [he] at q
  have HZ : Hid (Nd.err 2 nd = 0) := hz
  clear hz he
  go_enter_defers Tryz.func129, Tryz.ntmps129
  go_wp2_with (go_at_call 76; refine (q.out _).mono ?_; rintro e w1 ⟨rfl, hb1⟩; have x0 : w1.cell? ⟨w.heap.size, 0, none⟩ = some (.int .i64 0) := (hb1.cell hlt).trans (by simp [go_sem]); have z0 : w1.frozen? ⟨w.heap.size, 0, none⟩ = false := (hb1.frozen hlt).trans (by simp [go_sem]); have hB : Hid (Below w.heap.size w w1) := bl_tr (bl_alloc (Below.refl _ _) _) hb1; clear hb1)
  refine leaves_cons (f := 198) (args := #[.pointer (some ⟨w.heap.size, 0, none⟩)]) (by simp) (by simp [go_sem]) ?_
  refine (catchExp_idle ⟨w.heap.size, 0, none⟩ _).mono ?_
  rintro e u' w'' ⟨rfl, rfl, rfl⟩
  have hB2 : Below w.heap.size w (w1.setCell ⟨w.heap.size, 0, none⟩ (.int .i64 0)) := hB.out.setCell (Nat.le_refl _) _
  simp [Leaves, settle, results, Tryz.results129, go_sem, x0, HZ.out, hB2]
 ·
  rw [he] at q
  clear hz he
  go_enter_defers Tryz.func129, Tryz.ntmps129
  go_wp2_with (go_at_call 76; refine (q.out _).mono ?_; rintro e w1 ⟨rfl, hb1⟩; have x0 : w1.cell? ⟨w.heap.size, 0, none⟩ = some (.int .i64 0) := (hb1.cell hlt).trans (by simp [go_sem]); have z0 : w1.frozen? ⟨w.heap.size, 0, none⟩ = false := (hb1.frozen hlt).trans (by simp [go_sem]); have hB : Hid (Below w.heap.size w w1) := bl_tr (bl_alloc (Below.refl _ _) _) hb1; clear hb1)
  refine leaves_cons (f := 198) (args := #[.pointer (some ⟨w.heap.size, 0, none⟩)]) (by simp) (by simp [go_sem]) ?_
  refine (catchExp_panicking ⟨w.heap.size, 0, none⟩ 0 _ [] _ x0 z0).mono ?_
  rintro e u' w'' ⟨rfl, rfl, rfl⟩
  have hB2 : Below w.heap.size w (w1.setCell ⟨w.heap.size, 0, none⟩ (.int .i64 (Nd.err 2 nd))) := hB.out.setCell (Nat.le_refl _) _
  simp [Leaves, settle, results, Tryz.results129, go_sem, x0, hB2]

set_option linter.unusedSimpArgs false
structure Rf (w : World) (B S : Nat) (p c : Int) : Prop where
 lt : B < w.heap.size
 rest : ∃ a n k, w.cell? ⟨B, 0, none⟩ = some (.slice a n k)
 e : w.cell? ⟨B, 1, none⟩ = some (.int .i64 (S : Int))
 a : w.cell? ⟨B, 2, none⟩ = some (.int .i64 p)
 k : w.cell? ⟨B, 3, none⟩ = some (.int .i64 c)
 z0 : w.frozen? ⟨B, 0, none⟩ = false
 z2 : w.frozen? ⟨B, 2, none⟩ = false
 z3 : w.frozen? ⟨B, 3, none⟩ = false
 ne : c ≠ 0
theorem Rd.fail {w : World} {B S : Nat} {ts : Gr.Ts} (h : Rd w B S ts) {p c : Int} (hc : c ≠ 0) : Rf ((w.setCell ⟨B, 2, none⟩ (.int .i64 p)).setCell ⟨B, 3, none⟩ (.int .i64 c)) B S p c := by
 obtain ⟨a, k, h0⟩ := h.form
 have h1 := h.e
 have h2 := h.a
 have h3 := h.k
 have z0 := h.z0
 have z2 := h.z2
 have z3 := h.z3
 refine ⟨by simpa [World.setCell] using h.lt, ⟨a, ts.length, k, ?_⟩, ?_, ?_, ?_, ?_, ?_, ?_, hc⟩
 all_goals simp [go_sem, h0, h1, h2, h3, z0, z2, z3]
theorem Rf.alloc {w : World} {B S : Nat} {p c : Int} (h : Rf w B S p c) (o : Obj) : Rf (w.alloc o) B S p c := by
 have hb : Below w.heap.size w (w.alloc o) := bl_alloc (Below.refl _ _) o
 obtain ⟨a, n, k, h0⟩ := h.rest
 exact ⟨Nat.lt_of_lt_of_le h.lt hb.size, ⟨a, n, k, (hb.cell h.lt).trans h0⟩, (hb.cell h.lt).trans h.e, (hb.cell h.lt).trans h.a, (hb.cell h.lt).trans h.k, (hb.frozen h.lt).trans h.z0, (hb.frozen h.lt).trans h.z2, (hb.frozen h.lt).trans h.z3, h.ne⟩

set_option maxHeartbeats 1000000 in
set_option maxRecDepth 100000 in
theorem fcTy_panicking (bx B S : Nat) (ts : Gr.Ts) (p c : Int) (hc : c ≠ 0) (older : List PanicEntry) (w : World) (h : Rd w B S ts) (hb : w.cell? ⟨bx, 0, none⟩ = some (.pointer (some ⟨B, 0, none⟩))) :
  CallsD Tryz.prog 164 #[.pointer (some ⟨bx, 0, none⟩)] (.panicking ({ v := .iface 76 (.agg #[.int .i64 p, .int .i64 c]), recovered := false } :: older)) w fun e' u' w' =>
   e' = .returned (.tuple #[]) ∧ u' = .panicking ({ v := .iface 76 (.agg #[.int .i64 p, .int .i64 c]), recovered := true } :: older) ∧ Rf w' B S p c ∧ Bes B w w' := by
 have hta : ∀ (v : Value) (W : World), (Instr.typeAssert (.iface 76 v) 20 76 true).run Tryz.prog W = .ok (.tuple #[v, .bool true]) W := fun v W => by kernel_rfl
 have k2 := h.a
 have k3 := h.k
 have z2 := h.z2
 have z3 := h.z3
 have hlt := h.lt
 have HF : Hid (Rf ((w.setCell ⟨B, 2, none⟩ (.int .i64 p)).setCell ⟨B, 3, none⟩ (.int .i64 c)) B S p c) := h.fail hc
 clear h
 have hbl := World.block_lt_of_cell? w _ hb
 refine callsD_of_wpS Tryz.func164 rfl fun c₀ cs hu => ?_
 apply wpS_seq
 apply wpS_region
 simp [wpOpsS, go_sem, recoverD, hu, Tryz.ntmps164, Exit.thenS]
 rw [show (#[Value.pointer (some ⟨bx, 0, none⟩)] ++ ((Array.replicate 18 undef).setIfInBounds 3 (Value.iface 76 (Value.agg #[Value.int IntKind.i64 p, Value.int IntKind.i64 c]))).setIfInBounds 0 (Value.iface 76 (Value.agg #[Value.int IntKind.i64 p, Value.int IntKind.i64 c]))) = #[.pointer (some ⟨bx, 0, none⟩), Value.iface 76 (Value.agg #[Value.int IntKind.i64 p, Value.int IntKind.i64 c]), undef, undef, Value.iface 76 (Value.agg #[Value.int IntKind.i64 p, Value.int IntKind.i64 c]), undef, undef, undef, undef, undef, undef, undef, undef, undef, undef, undef, undef, undef, undef] from rfl]
 refine wpS_of_wp ?_
 go_wp2
 simp [bodyPostS, results, Tryz.results164]
 exact ⟨HF.out.alloc _, (((Bes.refl _ _).set _ _).set _ _).alloc _⟩

set_option maxHeartbeats 1000000 in
set_option maxRecDepth 100000 in
theorem fcTy_idle (bx : Nat) (w : World) :
  CallsD Tryz.prog 164 #[.pointer (some ⟨bx, 0, none⟩)] .returning w fun e u' w' => e = .returned (.tuple #[]) ∧ u' = .returning ∧ w' = w := by
 refine callsD_of_wpS Tryz.func164 rfl fun c₀ cs hu => ?_
 apply wpS_seq
 apply wpS_region
 simp [wpOpsS, go_sem, recoverD, hu, Tryz.ntmps164, Exit.thenS]
 rw [show (#[Value.pointer (some ⟨bx, 0, none⟩)] ++ ((Array.replicate 18 undef).setIfInBounds 3 Value.nilIface).setIfInBounds 0 Value.nilIface) = #[.pointer (some ⟨bx, 0, none⟩), .nilIface, undef, undef, .nilIface, undef, undef, undef, undef, undef, undef, undef, undef, undef, undef, undef, undef, undef, undef] from rfl]
 refine wpS_of_wp ?_
 go_wp2
 cases c₀
 simp_all [bodyPostS, results, Tryz.results164]

set_option maxHeartbeats 1000000 in
set_option maxRecDepth 100000 in
theorem fcPat_panicking (bx B S : Nat) (ts : Gr.Ts) (p c : Int) (hc : c ≠ 0) (older : List PanicEntry) (w : World) (h : Rd w B S ts) (hb : w.cell? ⟨bx, 0, none⟩ = some (.pointer (some ⟨B, 0, none⟩))) :
  CallsD Tryz.prog 151 #[.pointer (some ⟨bx, 0, none⟩)] (.panicking ({ v := .iface 76 (.agg #[.int .i64 p, .int .i64 c]), recovered := false } :: older)) w fun e' u' w' =>
   e' = .returned (.tuple #[]) ∧ u' = .panicking ({ v := .iface 76 (.agg #[.int .i64 p, .int .i64 c]), recovered := true } :: older) ∧ Rf w' B S p c ∧ Bes B w w' := by
 have hta : ∀ (v : Value) (W : World), (Instr.typeAssert (.iface 76 v) 20 76 true).run Tryz.prog W = .ok (.tuple #[v, .bool true]) W := fun v W => by kernel_rfl
 have k2 := h.a
 have k3 := h.k
 have z2 := h.z2
 have z3 := h.z3
 have hlt := h.lt
 have HF : Hid (Rf ((w.setCell ⟨B, 2, none⟩ (.int .i64 p)).setCell ⟨B, 3, none⟩ (.int .i64 c)) B S p c) := h.fail hc
 clear h
 have hbl := World.block_lt_of_cell? w _ hb
 refine callsD_of_wpS Tryz.func151 rfl fun c₀ cs hu => ?_
 apply wpS_seq
 apply wpS_region
 simp [wpOpsS, go_sem, recoverD, hu, Tryz.ntmps151, Exit.thenS]
 rw [show (#[Value.pointer (some ⟨bx, 0, none⟩)] ++ ((Array.replicate 18 undef).setIfInBounds 3 (Value.iface 76 (Value.agg #[Value.int IntKind.i64 p, Value.int IntKind.i64 c]))).setIfInBounds 0 (Value.iface 76 (Value.agg #[Value.int IntKind.i64 p, Value.int IntKind.i64 c]))) = #[.pointer (some ⟨bx, 0, none⟩), Value.iface 76 (Value.agg #[Value.int IntKind.i64 p, Value.int IntKind.i64 c]), undef, undef, Value.iface 76 (Value.agg #[Value.int IntKind.i64 p, Value.int IntKind.i64 c]), undef, undef, undef, undef, undef, undef, undef, undef, undef, undef, undef, undef, undef, undef] from rfl]
 refine wpS_of_wp ?_
 go_wp2
 simp [bodyPostS, results, Tryz.results151]
 exact ⟨HF.out.alloc _, (((Bes.refl _ _).set _ _).set _ _).alloc _⟩

set_option maxHeartbeats 1000000 in
set_option maxRecDepth 100000 in
theorem fcPat_idle (bx : Nat) (w : World) :
  CallsD Tryz.prog 151 #[.pointer (some ⟨bx, 0, none⟩)] .returning w fun e u' w' => e = .returned (.tuple #[]) ∧ u' = .returning ∧ w' = w := by
 refine callsD_of_wpS Tryz.func151 rfl fun c₀ cs hu => ?_
 apply wpS_seq
 apply wpS_region
 simp [wpOpsS, go_sem, recoverD, hu, Tryz.ntmps151, Exit.thenS]
 rw [show (#[Value.pointer (some ⟨bx, 0, none⟩)] ++ ((Array.replicate 18 undef).setIfInBounds 3 Value.nilIface).setIfInBounds 0 Value.nilIface) = #[.pointer (some ⟨bx, 0, none⟩), .nilIface, undef, undef, .nilIface, undef, undef, undef, undef, undef, undef, undef, undef, undef, undef, undef, undef, undef, undef] from rfl]
 refine wpS_of_wp ?_
 go_wp2
 cases c₀
 simp_all [bodyPostS, results, Tryz.results151]

set_option maxHeartbeats 1000000 in
set_option maxRecDepth 100000 in
theorem fcExp_panicking (bx B S : Nat) (ts : Gr.Ts) (p c : Int) (hc : c ≠ 0) (older : List PanicEntry) (w : World) (h : Rd w B S ts) (hb : w.cell? ⟨bx, 0, none⟩ = some (.pointer (some ⟨B, 0, none⟩))) :
  CallsD Tryz.prog 125 #[.pointer (some ⟨bx, 0, none⟩)] (.panicking ({ v := .iface 76 (.agg #[.int .i64 p, .int .i64 c]), recovered := false } :: older)) w fun e' u' w' =>
   e' = .returned (.tuple #[]) ∧ u' = .panicking ({ v := .iface 76 (.agg #[.int .i64 p, .int .i64 c]), recovered := true } :: older) ∧ Rf w' B S p c ∧ Bes B w w' := by
 have hta : ∀ (v : Value) (W : World), (Instr.typeAssert (.iface 76 v) 20 76 true).run Tryz.prog W = .ok (.tuple #[v, .bool true]) W := fun v W => by kernel_rfl
 have k2 := h.a
 have k3 := h.k
 have z2 := h.z2
 have z3 := h.z3
 have hlt := h.lt
 have HF : Hid (Rf ((w.setCell ⟨B, 2, none⟩ (.int .i64 p)).setCell ⟨B, 3, none⟩ (.int .i64 c)) B S p c) := h.fail hc
 clear h
 have hbl := World.block_lt_of_cell? w _ hb
 refine callsD_of_wpS Tryz.func125 rfl fun c₀ cs hu => ?_
 apply wpS_seq
 apply wpS_region
 simp [wpOpsS, go_sem, recoverD, hu, Tryz.ntmps125, Exit.thenS]
 rw [show (#[Value.pointer (some ⟨bx, 0, none⟩)] ++ ((Array.replicate 18 undef).setIfInBounds 3 (Value.iface 76 (Value.agg #[Value.int IntKind.i64 p, Value.int IntKind.i64 c]))).setIfInBounds 0 (Value.iface 76 (Value.agg #[Value.int IntKind.i64 p, Value.int IntKind.i64 c]))) = #[.pointer (some ⟨bx, 0, none⟩), Value.iface 76 (Value.agg #[Value.int IntKind.i64 p, Value.int IntKind.i64 c]), undef, undef, Value.iface 76 (Value.agg #[Value.int IntKind.i64 p, Value.int IntKind.i64 c]), undef, undef, undef, undef, undef, undef, undef, undef, undef, undef, undef, undef, undef, undef] from rfl]
 refine wpS_of_wp ?_
 go_wp2
 simp [bodyPostS, results, Tryz.results125]
 exact ⟨HF.out.alloc _, (((Bes.refl _ _).set _ _).set _ _).alloc _⟩

set_option maxHeartbeats 1000000 in
set_option maxRecDepth 100000 in
theorem fcExp_idle (bx : Nat) (w : World) :
  CallsD Tryz.prog 125 #[.pointer (some ⟨bx, 0, none⟩)] .returning w fun e u' w' => e = .returned (.tuple #[]) ∧ u' = .returning ∧ w' = w := by
 refine callsD_of_wpS Tryz.func125 rfl fun c₀ cs hu => ?_
 apply wpS_seq
 apply wpS_region
 simp [wpOpsS, go_sem, recoverD, hu, Tryz.ntmps125, Exit.thenS]
 rw [show (#[Value.pointer (some ⟨bx, 0, none⟩)] ++ ((Array.replicate 18 undef).setIfInBounds 3 Value.nilIface).setIfInBounds 0 Value.nilIface) = #[.pointer (some ⟨bx, 0, none⟩), .nilIface, undef, undef, .nilIface, undef, undef, undef, undef, undef, undef, undef, undef, undef, undef, undef, undef, undef, undef] from rfl]
 refine wpS_of_wp ?_
 go_wp2
 cases c₀
 simp_all [bodyPostS, results, Tryz.results125]
set_option linter.unusedSimpArgs false
set_option maxHeartbeats 1000000 in
set_option maxRecDepth 100000 in
theorem faceTy_ok (w : World) (B S : Nat) (ts r : Gr.Ts) (nd : Nd) (h : Rd w B S ts) (q : ∀ W, Rd W B S ts → Calls Tryz.prog 39 #[.pointer (some ⟨B, 0, none⟩)] W (Gr.Ans B S 0 W (.ok nd r))) :
  Calls Tryz.prog 92 #[.pointer (some ⟨B, 0, none⟩), .func (.func 39) #[] #[]] w (Gr.Ans B S 0 w (.ok nd r)) := by
 have hmf := mf_any
 have hlt := h.lt
 have HR : Hid (Rd w B S ts) := h
 have Q : Hid (∀ W, Rd W B S ts → Calls Tryz.prog 39 #[.pointer (some ⟨B, 0, none⟩)] W (Gr.Ans B S 0 W (.ok nd r))) := q
 clear h q
 go_enter_defers Tryz.func92, Tryz.ntmps92
 go_wp2_with (first | (go_at_call 113; refine Calls.mono (gr_goes _ B S ts ?rd) ?_; (case rd => exact (HR.out.alloc _).alloc _); rintro e ww ⟨rfl, hww⟩; rw [hww]; clear hww ww) | (go_at_call 39; refine Calls.mono (Q.out _ ?rd) ?_; (case rd => exact (HR.out.alloc _).alloc _); rintro e w1 ⟨⟨vs, n, rfl, ha0⟩, hRR, hBB⟩; obtain ⟨xi, xs, xa, xn, xc, xd, xm, xe, rfl⟩ := ha0.ty_form; have ha : Hid (At w1 (Ge (w.heap.size + 2)) n 0 [.int .i64 xi, .string xs, .slice xa xn xc, .slice xd xm xe] nd) := At.move (Keeps.refl _ _) (Ge.le (by simp)) _ _ _ _ ha0; have hR1 : Hid (Rd w1 B S r) := hRR; have hB1 : Hid (Bes B w w1) := (((Bes.refl _ _).alloc _).alloc _).trans hBB; have hbb : Bx w1 (w.heap.size + 1) [.int .i64 0, .string ⟨#[]⟩, .slice none 0 0, .slice none 0 0] := (by have hq := (Bx.new (w.alloc (.cells #[.pointer (some ⟨B, 0, none⟩)] 46)) [.int .i64 0, .string ⟨#[]⟩, .slice none 0 0, .slice none 0 0] 41).bes hBB (by simp; omega); simpa using hq); obtain ⟨⟨k0, k1, k2, k3⟩, z0, z1, z2, z3⟩ := hbb.e4; have k0b : w1.cell? ⟨w.heap.size, 0, none⟩ = some (.pointer (some ⟨B, 0, none⟩)) := (hBB.cell (by simp; omega) (by simp; omega)).trans (by simp [go_sem]); clear hRR hBB ha0))
 refine leaves_cons (f := 164) (args := #[.pointer (some ⟨w.heap.size, 0, none⟩)]) (by simp) (by simp [go_sem]) ?_
 refine (fcTy_idle w.heap.size _).mono ?_
 rintro e u' w'' ⟨rfl, rfl, rfl⟩
 simp [Leaves, settle, results, Tryz.results92, go_sem, k0, k1, k2, k3]
 exact ⟨⟨[.int .i64 xi, .string xs, .slice xa xn xc, .slice xd xm xe], n, rfl, At.move (Keeps.save (b := w.heap.size + 1) (by simp only [sv]) (by omega)) (Ge.le (by omega)) _ _ _ _ ha.out⟩, Rd.save (b := w.heap.size + 1) hR1.out (by simp only [sv]) (by omega), Bes.save (b := w.heap.size + 1) hB1.out (by simp only [sv]) (by omega)⟩

set_option maxHeartbeats 1000000 in
set_option maxRecDepth 100000 in
theorem faceTy_bad (w : World) (B S : Nat) (ts r : Gr.Ts) (c : Int) (hc : c ≠ 0) (h : Rd w B S ts) (q : ∀ W, Rd W B S ts → Calls Tryz.prog 39 #[.pointer (some ⟨B, 0, none⟩)] W (Gr.Ans B S 0 W (.bad r c))) :
  Calls Tryz.prog 92 #[.pointer (some ⟨B, 0, none⟩), .func (.func 39) #[] #[]] w fun e w' => e = .returned (.agg #[.int .i64 0, .string ⟨#[]⟩, .slice none 0 0, .slice none 0 0]) ∧ Rf w' B S (Gr.place S r) c ∧ Bes B w w' := by
 have hmf := mf_any
 have hlt := h.lt
 have HR : Hid (Rd w B S ts) := h
 have Q : Hid (∀ W, Rd W B S ts → Calls Tryz.prog 39 #[.pointer (some ⟨B, 0, none⟩)] W (Gr.Ans B S 0 W (.bad r c))) := q
 clear h q
 go_enter_defers Tryz.func92, Tryz.ntmps92
 go_wp2_with (first | (go_at_call 113; refine Calls.mono (gr_goes _ B S ts ?rd) ?_; (case rd => exact (HR.out.alloc _).alloc _); rintro e ww ⟨rfl, hww⟩; rw [hww]; clear hww ww) | (go_at_call 39; refine Calls.mono (Q.out _ ?rd) ?_; (case rd => exact (HR.out.alloc _).alloc _); rintro e w1 ⟨rfl, ⟨ts', hRR⟩, hBB⟩; have hR1 : Hid (Rd w1 B S ts') := hRR; have hB1 : Hid (Bes B w w1) := (((Bes.refl _ _).alloc _).alloc _).trans hBB; have hbb : Hid (Bx w1 (w.heap.size + 1) [.int .i64 0, .string ⟨#[]⟩, .slice none 0 0, .slice none 0 0]) := (by show Bx _ _ _; have hq := (Bx.new (w.alloc (.cells #[.pointer (some ⟨B, 0, none⟩)] 46)) [.int .i64 0, .string ⟨#[]⟩, .slice none 0 0, .slice none 0 0] 41).bes hBB (by simp; omega); simpa using hq); have k0b : w1.cell? ⟨w.heap.size, 0, none⟩ = some (.pointer (some ⟨B, 0, none⟩)) := (hBB.cell (by simp; omega) (by simp; omega)).trans (by simp [go_sem]); clear hRR hBB; simp only [Gr.pe]))
 refine leaves_cons (f := 164) (args := #[.pointer (some ⟨w.heap.size, 0, none⟩)]) (by simp) (by simp [go_sem]) ?_
 refine (fcTy_panicking w.heap.size B S ts' _ c hc [] _ hR1.out k0b).mono ?_
 rintro e u' w'' ⟨rfl, rfl, hF, hB2⟩
 obtain ⟨⟨k0, k1, k2, k3⟩, z0, z1, z2, z3⟩ := (hbb.out.bes hB2 (by omega)).e4
 have hB3 : Hid (Bes B w w'') := hB1.out.trans hB2
 have HF : Hid (Rf w'' B S (Gr.place S r) c) := hF
 clear hB2 hF
 simp [Leaves, settle, results, Tryz.results92, go_sem, k0, k1, k2, k3]
 exact ⟨HF.out, hB3.out⟩

set_option maxHeartbeats 1000000 in
set_option maxRecDepth 100000 in
theorem facePat_ok (w : World) (B S : Nat) (ts r : Gr.Ts) (nd : Nd) (h : Rd w B S ts) (q : ∀ W, Rd W B S ts → Calls Tryz.prog 33 #[.pointer (some ⟨B, 0, none⟩)] W (Gr.Ans B S 1 W (.ok nd r))) :
  Calls Tryz.prog 82 #[.pointer (some ⟨B, 0, none⟩), .func (.func 33) #[] #[]] w (Gr.Ans B S 1 w (.ok nd r)) := by
 have hmf := mf_any
 have hlt := h.lt
 have HR : Hid (Rd w B S ts) := h
 have Q : Hid (∀ W, Rd W B S ts → Calls Tryz.prog 33 #[.pointer (some ⟨B, 0, none⟩)] W (Gr.Ans B S 1 W (.ok nd r))) := q
 clear h q
 go_enter_defers Tryz.func82, Tryz.ntmps82
 go_wp2_with (first | (go_at_call 113; refine Calls.mono (gr_goes _ B S ts ?rd) ?_; (case rd => exact (HR.out.alloc _).alloc _); rintro e ww ⟨rfl, hww⟩; rw [hww]; clear hww ww) | (go_at_call 33; refine Calls.mono (Q.out _ ?rd) ?_; (case rd => exact (HR.out.alloc _).alloc _); rintro e w1 ⟨⟨vs, n, rfl, ha0⟩, hRR, hBB⟩; obtain ⟨xi, xs, xa, xn, xc, xj, xd, xm, xe, rfl⟩ := ha0.pat_form; have ha : Hid (At w1 (Ge (w.heap.size + 2)) n 1 [.int .i64 xi, .string xs, .slice xa xn xc, .int .i64 xj, .slice xd xm xe] nd) := At.move (Keeps.refl _ _) (Ge.le (by simp)) _ _ _ _ ha0; have hR1 : Hid (Rd w1 B S r) := hRR; have hB1 : Hid (Bes B w w1) := (((Bes.refl _ _).alloc _).alloc _).trans hBB; have hbb : Bx w1 (w.heap.size + 1) [.int .i64 0, .string ⟨#[]⟩, .slice none 0 0, .int .i64 0, .slice none 0 0] := (by have hq := (Bx.new (w.alloc (.cells #[.pointer (some ⟨B, 0, none⟩)] 46)) [.int .i64 0, .string ⟨#[]⟩, .slice none 0 0, .int .i64 0, .slice none 0 0] 36).bes hBB (by simp; omega); simpa using hq); obtain ⟨⟨k0, k1, k2, k3, k4⟩, z0, z1, z2, z3, z4⟩ := hbb.e5; have k0b : w1.cell? ⟨w.heap.size, 0, none⟩ = some (.pointer (some ⟨B, 0, none⟩)) := (hBB.cell (by simp; omega) (by simp; omega)).trans (by simp [go_sem]); clear hRR hBB ha0))
 refine leaves_cons (f := 151) (args := #[.pointer (some ⟨w.heap.size, 0, none⟩)]) (by simp) (by simp [go_sem]) ?_
 refine (fcPat_idle w.heap.size _).mono ?_
 rintro e u' w'' ⟨rfl, rfl, rfl⟩
 simp [Leaves, settle, results, Tryz.results82, go_sem, k0, k1, k2, k3, k4]
 exact ⟨⟨[.int .i64 xi, .string xs, .slice xa xn xc, .int .i64 xj, .slice xd xm xe], n, rfl, At.move (Keeps.save (b := w.heap.size + 1) (by simp only [sv]) (by omega)) (Ge.le (by omega)) _ _ _ _ ha.out⟩, Rd.save (b := w.heap.size + 1) hR1.out (by simp only [sv]) (by omega), Bes.save (b := w.heap.size + 1) hB1.out (by simp only [sv]) (by omega)⟩

set_option maxHeartbeats 1000000 in
set_option maxRecDepth 100000 in
theorem facePat_bad (w : World) (B S : Nat) (ts r : Gr.Ts) (c : Int) (hc : c ≠ 0) (h : Rd w B S ts) (q : ∀ W, Rd W B S ts → Calls Tryz.prog 33 #[.pointer (some ⟨B, 0, none⟩)] W (Gr.Ans B S 1 W (.bad r c))) :
  Calls Tryz.prog 82 #[.pointer (some ⟨B, 0, none⟩), .func (.func 33) #[] #[]] w fun e w' => e = .returned (.agg #[.int .i64 0, .string ⟨#[]⟩, .slice none 0 0, .int .i64 0, .slice none 0 0]) ∧ Rf w' B S (Gr.place S r) c ∧ Bes B w w' := by
 have hmf := mf_any
 have hlt := h.lt
 have HR : Hid (Rd w B S ts) := h
 have Q : Hid (∀ W, Rd W B S ts → Calls Tryz.prog 33 #[.pointer (some ⟨B, 0, none⟩)] W (Gr.Ans B S 1 W (.bad r c))) := q
 clear h q
 go_enter_defers Tryz.func82, Tryz.ntmps82
 go_wp2_with (first | (go_at_call 113; refine Calls.mono (gr_goes _ B S ts ?rd) ?_; (case rd => exact (HR.out.alloc _).alloc _); rintro e ww ⟨rfl, hww⟩; rw [hww]; clear hww ww) | (go_at_call 33; refine Calls.mono (Q.out _ ?rd) ?_; (case rd => exact (HR.out.alloc _).alloc _); rintro e w1 ⟨rfl, ⟨ts', hRR⟩, hBB⟩; have hR1 : Hid (Rd w1 B S ts') := hRR; have hB1 : Hid (Bes B w w1) := (((Bes.refl _ _).alloc _).alloc _).trans hBB; have hbb : Hid (Bx w1 (w.heap.size + 1) [.int .i64 0, .string ⟨#[]⟩, .slice none 0 0, .int .i64 0, .slice none 0 0]) := (by show Bx _ _ _; have hq := (Bx.new (w.alloc (.cells #[.pointer (some ⟨B, 0, none⟩)] 46)) [.int .i64 0, .string ⟨#[]⟩, .slice none 0 0, .int .i64 0, .slice none 0 0] 36).bes hBB (by simp; omega); simpa using hq); have k0b : w1.cell? ⟨w.heap.size, 0, none⟩ = some (.pointer (some ⟨B, 0, none⟩)) := (hBB.cell (by simp; omega) (by simp; omega)).trans (by simp [go_sem]); clear hRR hBB; simp only [Gr.pe]))
 refine leaves_cons (f := 151) (args := #[.pointer (some ⟨w.heap.size, 0, none⟩)]) (by simp) (by simp [go_sem]) ?_
 refine (fcPat_panicking w.heap.size B S ts' _ c hc [] _ hR1.out k0b).mono ?_
 rintro e u' w'' ⟨rfl, rfl, hF, hB2⟩
 obtain ⟨⟨k0, k1, k2, k3, k4⟩, z0, z1, z2, z3, z4⟩ := (hbb.out.bes hB2 (by omega)).e5
 have hB3 : Hid (Bes B w w'') := hB1.out.trans hB2
 have HF : Hid (Rf w'' B S (Gr.place S r) c) := hF
 clear hB2 hF
 simp [Leaves, settle, results, Tryz.results82, go_sem, k0, k1, k2, k3, k4]
 exact ⟨HF.out, hB3.out⟩

set_option maxHeartbeats 1000000 in
set_option maxRecDepth 100000 in
theorem faceExp_ok (w : World) (B S : Nat) (ts r : Gr.Ts) (nd : Nd) (h : Rd w B S ts) (q : ∀ W, Rd W B S ts → Calls Tryz.prog 27 #[.pointer (some ⟨B, 0, none⟩)] W (Gr.Ans B S 2 W (.ok nd r))) :
  Calls Tryz.prog 71 #[.pointer (some ⟨B, 0, none⟩), .func (.func 27) #[] #[]] w (Gr.Ans B S 2 w (.ok nd r)) := by
 have hmf := mf_any
 have hlt := h.lt
 have HR : Hid (Rd w B S ts) := h
 have Q : Hid (∀ W, Rd W B S ts → Calls Tryz.prog 27 #[.pointer (some ⟨B, 0, none⟩)] W (Gr.Ans B S 2 W (.ok nd r))) := q
 clear h q
 go_enter_defers Tryz.func71, Tryz.ntmps71
 go_wp2_with (first | (go_at_call 113; refine Calls.mono (gr_goes _ B S ts ?rd) ?_; (case rd => exact (HR.out.alloc _).alloc _); rintro e ww ⟨rfl, hww⟩; rw [hww]; clear hww ww) | (go_at_call 27; refine Calls.mono (Q.out _ ?rd) ?_; (case rd => exact (HR.out.alloc _).alloc _); rintro e w1 ⟨⟨vs, n, rfl, ha0⟩, hRR, hBB⟩; obtain ⟨xi, xj, xk, xa, xn, xc, xd0, xm0, xe0, xd1, xm1, xe1, xd2, xm2, xe2, xd3, xm3, xe3, rfl⟩ := ha0.exp_form; have ha : Hid (At w1 (Ge (w.heap.size + 2)) n 2 [.int .i64 xi, .int .i64 xj, .int .i64 xk, .slice xa xn xc, .slice xd0 xm0 xe0, .slice xd1 xm1 xe1, .slice xd2 xm2 xe2, .slice xd3 xm3 xe3] nd) := At.move (Keeps.refl _ _) (Ge.le (by simp)) _ _ _ _ ha0; have hR1 : Hid (Rd w1 B S r) := hRR; have hB1 : Hid (Bes B w w1) := (((Bes.refl _ _).alloc _).alloc _).trans hBB; have hbb : Bx w1 (w.heap.size + 1) [.int .i64 0, .int .i64 0, .int .i64 0, .slice none 0 0, .slice none 0 0, .slice none 0 0, .slice none 0 0, .slice none 0 0] := (by have hq := (Bx.new (w.alloc (.cells #[.pointer (some ⟨B, 0, none⟩)] 46)) [.int .i64 0, .int .i64 0, .int .i64 0, .slice none 0 0, .slice none 0 0, .slice none 0 0, .slice none 0 0, .slice none 0 0] 28).bes hBB (by simp; omega); simpa using hq); obtain ⟨⟨k0, k1, k2, k3, k4, k5, k6, k7⟩, z0, z1, z2, z3, z4, z5, z6, z7⟩ := hbb.e8; have k0b : w1.cell? ⟨w.heap.size, 0, none⟩ = some (.pointer (some ⟨B, 0, none⟩)) := (hBB.cell (by simp; omega) (by simp; omega)).trans (by simp [go_sem]); clear hRR hBB ha0))
 refine leaves_cons (f := 125) (args := #[.pointer (some ⟨w.heap.size, 0, none⟩)]) (by simp) (by simp [go_sem]) ?_
 refine (fcExp_idle w.heap.size _).mono ?_
 rintro e u' w'' ⟨rfl, rfl, rfl⟩
 simp [Leaves, settle, results, Tryz.results71, go_sem, k0, k1, k2, k3, k4, k5, k6, k7]
 exact ⟨⟨[.int .i64 xi, .int .i64 xj, .int .i64 xk, .slice xa xn xc, .slice xd0 xm0 xe0, .slice xd1 xm1 xe1, .slice xd2 xm2 xe2, .slice xd3 xm3 xe3], n, rfl, At.move (Keeps.save (b := w.heap.size + 1) (by simp only [sv]) (by omega)) (Ge.le (by omega)) _ _ _ _ ha.out⟩, Rd.save (b := w.heap.size + 1) hR1.out (by simp only [sv]) (by omega), Bes.save (b := w.heap.size + 1) hB1.out (by simp only [sv]) (by omega)⟩

set_option maxHeartbeats 1000000 in
set_option maxRecDepth 100000 in
theorem faceExp_bad (w : World) (B S : Nat) (ts r : Gr.Ts) (c : Int) (hc : c ≠ 0) (h : Rd w B S ts) (q : ∀ W, Rd W B S ts → Calls Tryz.prog 27 #[.pointer (some ⟨B, 0, none⟩)] W (Gr.Ans B S 2 W (.bad r c))) :
  Calls Tryz.prog 71 #[.pointer (some ⟨B, 0, none⟩), .func (.func 27) #[] #[]] w fun e w' => e = .returned (.agg #[.int .i64 0, .int .i64 0, .int .i64 0, .slice none 0 0, .slice none 0 0, .slice none 0 0, .slice none 0 0, .slice none 0 0]) ∧ Rf w' B S (Gr.place S r) c ∧ Bes B w w' := by
 have hmf := mf_any
 have hlt := h.lt
 have HR : Hid (Rd w B S ts) := h
 have Q : Hid (∀ W, Rd W B S ts → Calls Tryz.prog 27 #[.pointer (some ⟨B, 0, none⟩)] W (Gr.Ans B S 2 W (.bad r c))) := q
 clear h q
 go_enter_defers Tryz.func71, Tryz.ntmps71
 go_wp2_with (first | (go_at_call 113; refine Calls.mono (gr_goes _ B S ts ?rd) ?_; (case rd => exact (HR.out.alloc _).alloc _); rintro e ww ⟨rfl, hww⟩; rw [hww]; clear hww ww) | (go_at_call 27; refine Calls.mono (Q.out _ ?rd) ?_; (case rd => exact (HR.out.alloc _).alloc _); rintro e w1 ⟨rfl, ⟨ts', hRR⟩, hBB⟩; have hR1 : Hid (Rd w1 B S ts') := hRR; have hB1 : Hid (Bes B w w1) := (((Bes.refl _ _).alloc _).alloc _).trans hBB; have hbb : Hid (Bx w1 (w.heap.size + 1) [.int .i64 0, .int .i64 0, .int .i64 0, .slice none 0 0, .slice none 0 0, .slice none 0 0, .slice none 0 0, .slice none 0 0]) := (by show Bx _ _ _; have hq := (Bx.new (w.alloc (.cells #[.pointer (some ⟨B, 0, none⟩)] 46)) [.int .i64 0, .int .i64 0, .int .i64 0, .slice none 0 0, .slice none 0 0, .slice none 0 0, .slice none 0 0, .slice none 0 0] 28).bes hBB (by simp; omega); simpa using hq); have k0b : w1.cell? ⟨w.heap.size, 0, none⟩ = some (.pointer (some ⟨B, 0, none⟩)) := (hBB.cell (by simp; omega) (by simp; omega)).trans (by simp [go_sem]); clear hRR hBB; simp only [Gr.pe]))
 refine leaves_cons (f := 125) (args := #[.pointer (some ⟨w.heap.size, 0, none⟩)]) (by simp) (by simp [go_sem]) ?_
 refine (fcExp_panicking w.heap.size B S ts' _ c hc [] _ hR1.out k0b).mono ?_
 rintro e u' w'' ⟨rfl, rfl, hF, hB2⟩
 obtain ⟨⟨k0, k1, k2, k3, k4, k5, k6, k7⟩, z0, z1, z2, z3, z4, z5, z6, z7⟩ := (hbb.out.bes hB2 (by omega)).e8
 have hB3 : Hid (Bes B w w'') := hB1.out.trans hB2
 have HF : Hid (Rf w'' B S (Gr.place S r) c) := hF
 clear hB2 hF
 simp [Leaves, settle, results, Tryz.results71, go_sem, k0, k1, k2, k3, k4, k5, k6, k7]
 exact ⟨HF.out, hB3.out⟩
set_option linter.unusedSimpArgs false
set_option maxHeartbeats 800000 in
set_option maxRecDepth 100000 in
theorem gr_goes_failed (w : World) (B S : Nat) (p c : Int) (h : Rf w B S p c) :
  Calls Tryz.prog 113 #[.pointer (some ⟨B, 0, none⟩)] w fun e w' => e = .returned (.bool false) ∧ w' = w := by
 have hk := h.k
 have hne : (c == 0) = false := by rw [beq_eq_false_iff_ne]; exact h.ne
 clear h
 go_enter Tryz.func113, Tryz.ntmps113
 go_wp2
 go_ret
 exact ⟨rfl, rfl⟩

set_option maxHeartbeats 800000 in
set_option maxRecDepth 100000 in
theorem gr_next_failed (w : World) (B S : Nat) (p c : Int) (h : Rf w B S p c) :
  Calls Tryz.prog 63 #[.pointer (some ⟨B, 0, none⟩)] w fun e w' => e = .returned (.tuple #[.agg #[.int .i64 0, .string ⟨#[]⟩, .int .i64 0, .int .i64 0], .bool false]) ∧ Below w.heap.size w w' := by
 have q : Hid (∀ ob, Calls Tryz.prog 113 #[.pointer (some ⟨B, 0, none⟩)] (w.alloc ob) fun e w' => e = .returned (.bool false) ∧ w' = w.alloc ob) := fun ob => gr_goes_failed _ B S p c (h.alloc ob)
 clear h
 go_enter Tryz.func63, Tryz.ntmps63
 go_wp2_with (go_at_call 113; refine (q.out _).mono ?_; rintro e w1 ⟨rfl, hw1⟩; rw [hw1]; clear hw1 w1)
 refine bodyPost_ret (v := .tuple #[.agg #[.int .i64 0, .string ⟨#[]⟩, .int .i64 0, .int .i64 0], .bool false]) (by rw [results_cell_tmp rfl]; simp [go_sem]) rfl ⟨rfl, ?_⟩
 exact bl_alloc (Below.refl _ _) _

set_option maxHeartbeats 800000 in
set_option maxRecDepth 100000 in
theorem gr_done (w : World) (B S : Nat) (ts : Gr.Ts) (h : Rd w B S ts) :
  Calls Tryz.prog 22 #[.pointer (some ⟨B, 0, none⟩)] w fun e w' => e = .returned (.tuple #[.int .i64 (Gr.at0 S ts), .int .i64 (if ts = [] then 0 else 11)]) ∧ Below w.heap.size w w' := by
 have q : Hid (Calls Tryz.prog 63 #[.pointer (some ⟨B, 0, none⟩)] w fun e w' => e = .returned (.tuple #[Gr.tokV S ts, .bool (decide (ts ≠ []))]) ∧ Below w.heap.size w w') := gr_next w B S ts h
 have hlt := h.lt
 have ha := h.a
 have hk := h.k
 clear h
 cases ts with
 | nil =>
  unfold Gr.tokV Gr.kd Gr.hd Gr.hn Gr.at0 at q
  go_enter Tryz.func22, Tryz.ntmps22
  go_wp2_with (go_at_call 63; refine q.out.mono ?_; rintro e w1 ⟨rfl, hB1⟩; have hlt1 : B < w1.heap.size := Nat.lt_of_lt_of_le hlt hB1.size; have ha1 : w1.cell? ⟨B, 2, none⟩ = some (.int .i64 0) := (hB1.cell hlt).trans ha; have hk1 : w1.cell? ⟨B, 3, none⟩ = some (.int .i64 0) := (hB1.cell hlt).trans hk)
  all_goals first | go_ret2 | (go_region; go_wp2; go_ret2)
  all_goals exact ⟨rfl, by first | exact bl_alloc hB1 _ | exact (bl_alloc hB1 _).drew⟩
 | cons t r =>
  unfold Gr.tokV at q
  generalize (Gr.kd (t :: r) : Int) = K at *
  generalize Gr.hd (t :: r) = T at *
  generalize (Gr.hn (t :: r) : Int) = N at *
  generalize Gr.at0 S (t :: r) = A at *
  go_enter Tryz.func22, Tryz.ntmps22
  go_wp2_with (go_at_call 63; refine q.out.mono ?_; rintro e w1 ⟨rfl, hB1⟩)
  all_goals first | go_ret2 | (go_region; go_wp2; go_ret2)
  all_goals exact ⟨rfl, by first | exact bl_alloc hB1 _ | exact (bl_alloc hB1 _).drew⟩

set_option maxHeartbeats 800000 in
set_option maxRecDepth 100000 in
theorem gr_done_failed (w : World) (B S : Nat) (p c : Int) (h : Rf w B S p c) :
  Calls Tryz.prog 22 #[.pointer (some ⟨B, 0, none⟩)] w fun e w' => e = .returned (.tuple #[.int .i64 p, .int .i64 c]) ∧ Below w.heap.size w w' := by
 have q : Hid (Calls Tryz.prog 63 #[.pointer (some ⟨B, 0, none⟩)] w fun e w' => e = .returned (.tuple #[.agg #[.int .i64 0, .string ⟨#[]⟩, .int .i64 0, .int .i64 0], .bool false]) ∧ Below w.heap.size w w') := gr_next_failed w B S p c h
 have hlt := h.lt
 have ha := h.a
 have hk := h.k
 clear h
 go_enter Tryz.func22, Tryz.ntmps22
 go_wp2_with (go_at_call 63; refine q.out.mono ?_; rintro e w1 ⟨rfl, hB1⟩; have hlt1 : B < w1.heap.size := Nat.lt_of_lt_of_le hlt hB1.size; have ha1 : w1.cell? ⟨B, 2, none⟩ = some (.int .i64 p) := (hB1.cell hlt).trans ha; have hk1 : w1.cell? ⟨B, 3, none⟩ = some (.int .i64 c) := (hB1.cell hlt).trans hk)
 all_goals first | go_ret2 | (go_region; go_wp2; go_ret2)
 all_goals exact ⟨rfl, by first | exact bl_alloc hB1 _ | exact (bl_alloc hB1 _).drew⟩
end Go.Proofs.YtjebepnphoeiaaaGreatDoor
namespace Go.Proofs.YtjebepnphoeiaaaGreatDoor
set_option linter.unusedVariables false

def Gr.Nz : Gr.Res → Prop
 | .bad _ c => c = 3 ∨ c = 11
 | _ => True
def Gr.PNz : Gr.PRes → Prop
 | .bad _ c => c = 3 ∨ c = 11
 | _ => True
theorem Gr.Nz.bind {a : Gr.Res} {k : Nd → Gr.Ts → Gr.Res} (h : Gr.Nz a) (hk : ∀ v r, Gr.Nz (k v r)) : Gr.Nz (a.bind k) := by
 cases a with
 | ok v r => exact hk v r
 | bad r c => exact h
 | out => trivial
theorem Gr.PNz.bind {a : Gr.PRes} {k : List ByteArray → Bool → Gr.Ts → Gr.Res} (h : Gr.PNz a) (hk : ∀ p l r, Gr.Nz (k p l r)) : Gr.Nz (a.bind k) := by
 cases a with
 | ok p l r => exact hk p l r
 | bad r c => exact h
theorem Gr.Nz.need {x : List UInt8} {ts : Gr.Ts} {k : Gr.Ts → Gr.Res} (hk : ∀ r, Gr.Nz (k r)) : Gr.Nz (Gr.need x ts k) := by
 unfold Gr.need; split
 ·
  exact hk _
 ·
  exact .inr rfl
theorem Gr.Nz.name {q : Nat} {ts : Gr.Ts} {k : ByteArray → Gr.Ts → Gr.Res} (hk : ∀ s r, Gr.Nz (k s r)) : Gr.Nz (Gr.name q ts k) := by
 unfold Gr.name; split
 ·
  exact hk _ _
 ·
  exact .inr rfl
theorem Gr.Nz.ite {c : Prop} [Decidable c] {a b : Gr.Res} (h1 : Gr.Nz a) (h2 : Gr.Nz b) : Gr.Nz (if c then a else b) := by
 split
 ·
  exact h1
 ·
  exact h2
theorem Gr.Nz.path (lo up : Bool) (first : Gr.Ts) : ∀ (k : Nat) (ts : Gr.Ts) (acc : List ByteArray), Gr.PNz (Gr.path lo up first k ts acc)
 | 0, ts, acc => by
  unfold Gr.path
  split
  ·
   exact .inr rfl
  ·
   exact .inl rfl
 | k + 1, ts, acc => by
  unfold Gr.path
  split
  ·
   exact .inr rfl
  ·
   show Gr.PNz (if _ then _ else _)
   split
   ·
    exact Gr.Nz.path lo up first k _ _
   ·
    split
    ·
     trivial
    ·
     exact .inr rfl
theorem Gr.nz : ∀ (f : Nat) (nt : Gr.Nt) (ts : Gr.Ts), Gr.Nz (Gr.g f nt ts)
 | 0, nt, ts => trivial
 | f + 1, nt, ts => by
  have use : ∀ (nt' : Gr.Nt) (ts' : Gr.Ts), Gr.Nz (Gr.g f nt' ts') := Gr.nz f
  have hl : ∀ ts, Gr.PNz (Gr.low ts) := fun ts => Gr.Nz.path _ _ _ _ _ _
  have hh : ∀ ts, Gr.PNz (Gr.high ts) := fun ts => Gr.Nz.path _ _ _ _ _ _
  have he : ∀ ts, Gr.PNz (Gr.either ts) := fun ts => Gr.Nz.path _ _ _ _ _ _
  cases nt <;> unfold Gr.g <;> simp only []
  all_goals repeat' first
   | exact use _ _
   | exact Or.inr rfl
   | exact trivial
   | (refine Gr.Nz.need fun _ => ?_)
   | (refine Gr.Nz.name fun _ _ => ?_)
   | (refine Gr.Nz.ite ?_ ?_)
   | (refine Gr.PNz.bind (hl _) fun _ _ _ => ?_)
   | (refine Gr.PNz.bind (hh _) fun _ _ _ => ?_)
   | (refine Gr.PNz.bind (he _) fun _ _ _ => ?_)
   | (refine Gr.Nz.bind (use _ _) fun _ _ => ?_)
theorem Gr.bad_ne {f : Nat} {nt : Gr.Nt} {ts r : Gr.Ts} {c : Int} (h : Gr.g f nt ts = .bad r c) : c ≠ 0 := by
 have := Gr.nz f nt ts
 rw [h] at this
 rcases this with h | h <;> omega
end Go.Proofs.YtjebepnphoeiaaaGreatDoor
namespace Go.Proofs.YtjebepnphoeiaaaGreatDoor
open Go.RowKit
set_option linter.unusedVariables false
set_option linter.unusedSimpArgs false

set_option maxHeartbeats 4000000 in
set_option maxRecDepth 100000 in
theorem right0 (n : Nat) (q0 : ErrLOf 135 96 (Nd.err 0) n 0) : ErrOf 96 (Nd.err 0) (n + 1) 0 := by
 intro w b o vs nd hb hc ha
 obtain ⟨k, s, vp, p, vl, l, rfl, rfl, -, hs, ⟨tx, hpx, hpl⟩, kl⟩ := At.ty ha
 clear ha
 have hp := pn_any
 have TX : Hid (∀ w', Below w.heap.size w w' → Strs w' vp p) := fun w' h' => (tx.move (Keeps.of_below h') (fun _ h => h)).strs
 have Rl : Hid (∀ w', Below w.heap.size w w' → Calls Tryz.prog 135 #[vl, .func (.func 96) #[] #[]] w' fun e w'' => e = outc (Nd.errF (Nd.err 0) l) ∧ Below w'.heap.size w' w'') := fun w' h' => q0 w' vl l (kl.below h')
 obtain ⟨ap, cp, rfl⟩ := tx.form
 clear tx
 obtain ⟨al, cl, rfl, -⟩ := kl.form
 clear kl
 have d0 : w.cell? ⟨b, o, none⟩ = some (.int .i64 k) := hc 0 _ rfl
 have D0 : Hid (∀ w', Below w.heap.size w w' → w'.cell? ⟨b, o, none⟩ = some (.int .i64 k)) := fun w' h' => (h'.cell hb).trans (hc 0 _ rfl)
 have d1 : w.cell? ⟨b, o + 1, none⟩ = some (.string s) := hc 1 _ rfl
 have D1 : Hid (∀ w', Below w.heap.size w w' → w'.cell? ⟨b, o + 1, none⟩ = some (.string s)) := fun w' h' => (h'.cell hb).trans (hc 1 _ rfl)
 have d2 : w.cell? ⟨b, o + 2, none⟩ = some (.slice ap p.length cp) := hc 2 _ rfl
 have D2 : Hid (∀ w', Below w.heap.size w w' → w'.cell? ⟨b, o + 2, none⟩ = some (.slice ap p.length cp)) := fun w' h' => (h'.cell hb).trans (hc 2 _ rfl)
 have d3 : w.cell? ⟨b, o + 3, none⟩ = some (.slice al l.length cl) := hc 3 _ rfl
 have D3 : Hid (∀ w', Below w.heap.size w w' → w'.cell? ⟨b, o + 3, none⟩ = some (.slice al l.length cl)) := fun w' h' => (h'.cell hb).trans (hc 3 _ rfl)
 clear hc q0
 go_enter Tryz.func96, Tryz.ntmps96
 go_wp2
 go_region
 by_cases hk1 : k = 1
 ·
  subst hk1
  have HE0 : Hid ((Nd.err 0) (.mk [.int 1, .str s, .strs p] [l]) = Nd.firstE (Nd.fitE { name := s, path := (p.length : Int), kids := (l.length : Int) } { name := s }) (Nd.firstE (Nd.nameE s (Nm.tyvar s)) (Nd.errF (Nd.err 0) l))) := by
   show _ = _
   rw [Nd.err, show Nd.own 0 [.int 1, .str s, .strs p] [l] = Nd.ownTy 1 s p l from rfl]
   rw [Nd.ownTy, if_pos (by omega)]
   simp only [Nd.subs, Nd.errLL, Nd.errL_eq, Nd.firstE_assoc, Nd.firstE_right]
  go_wp2_with (first | (go_at_call 135; refine (Rl.out _ hB1).mono ?_; rintro e w2 ⟨rfl, hb⟩; have hB2 := bl_tr hB1 hb; clear hb; refine (outc_cases (Nd.errF (Nd.err 0) l)).elim (fun ⟨hz, he⟩ => ?_) (fun ⟨hz, he⟩ => by rw [he]; exact ⟨rfl, (by rw [HE2.out]; exact he.symm), hB2⟩); rw [he]; have HE3 : Hid (outc ((Nd.err 0) (.mk [.int 1, .str s, .strs p] [l])) = .returned (.tuple #[])) := (by show _ = _; rw [HE2.out]; exact he); clear HE2 hz he; have f0_2 := D0.out _ hB2; have f1_2 := D1.out _ hB2; have f2_2 := D2.out _ hB2; have f3_2 := D3.out _ hB2; skip) | (go_at_call 156; refine (named_any s hs 167 Nm.tyvar sort_tyvar _).mono ?_; rintro e w2 ⟨rfl, hw⟩; rw [hw]; clear hw w2; refine (outc_cases (Nd.nameE s (Nm.tyvar s))).elim (fun ⟨hz, he⟩ => ?_) (fun ⟨hz, he⟩ => by rw [he]; exact ⟨rfl, (by rw [HE1.out, Nd.firstE_ne hz]; exact he.symm), hB1⟩); rw [he]; have HE2 := HE1.out.trans (Nd.firstE_zero hz); replace HE2 : Hid ((Nd.err 0) (.mk [.int 1, .str s, .strs p] [l]) = Nd.errF (Nd.err 0) l) := HE2; clear HE1 hz he) | (go_at_call 155; refine (fit_any { name := s, path := (p.length : Int), kids := (l.length : Int) } { name := s } _).mono ?_; rintro e w1 ⟨rfl, hb1⟩; have hB1 : Below w.heap.size w w1 := (by refine bl_tr ?_ hb1; first | exact (bl_alloc (Below.refl _ _) _).drew | exact bl_alloc (Below.refl _ _) _ | exact bl_alloc (Below.refl _ _).drew _); clear hb1; refine (outc_cases (Nd.fitE { name := s, path := (p.length : Int), kids := (l.length : Int) } { name := s })).elim (fun ⟨hz, he⟩ => ?_) (fun ⟨hz, he⟩ => by rw [he]; exact ⟨rfl, (by rw [HE0.out, Nd.firstE_ne hz]; exact he.symm), hB1⟩); rw [he]; have HE1 := HE0.out.trans (Nd.firstE_zero hz); replace HE1 : Hid ((Nd.err 0) (.mk [.int 1, .str s, .strs p] [l]) = Nd.firstE (Nd.nameE s (Nm.tyvar s)) (Nd.errF (Nd.err 0) l)) := HE1; clear HE0 hz he; have f0_1 := D0.out _ hB1; have f1_1 := D1.out _ hB1; have f2_1 := D2.out _ hB1; have f3_1 := D3.out _ hB1; skip))
  first | go_end0 | refine bodyPost_ret (results_none rfl _ _ _) rfl ?_
  exact ⟨HE3.out.symm, hB2⟩
 by_cases hk2 : k = 2
 ·
  subst hk2
  cases hg : Nd.given p with
  | true =>
   have HE0 : Hid ((Nd.err 0) (.mk [.int 2, .str s, .strs p] [l]) = Nd.firstE (Nd.fitE { name := s, path := (p.length : Int), kids := (l.length : Int) } { path := (p.length : Int) }) (Nd.errF (Nd.err 0) l)) := by
    show _ = _
    rw [Nd.err, show Nd.own 0 [.int 2, .str s, .strs p] [l] = Nd.ownTy 2 s p l from rfl]
    rw [Nd.ownTy, if_neg (by omega), if_pos (by omega), if_pos hg]
    simp only [Nd.subs, Nd.errLL, Nd.errL_eq, Nd.firstE_right]
   go_wp2_with (first | (go_at_call 135; refine (Rl.out _ hB1).mono ?_; rintro e w2 ⟨rfl, hb⟩; have hB2 := bl_tr hB1 hb; clear hb; refine (outc_cases (Nd.errF (Nd.err 0) l)).elim (fun ⟨hz, he⟩ => ?_) (fun ⟨hz, he⟩ => by rw [he]; exact ⟨rfl, (by rw [HE1.out]; exact he.symm), hB2⟩); rw [he]; have HE2 : Hid (outc ((Nd.err 0) (.mk [.int 2, .str s, .strs p] [l])) = .returned (.tuple #[])) := (by show _ = _; rw [HE1.out]; exact he); clear HE1 hz he; have f0_2 := D0.out _ hB2; have f1_2 := D1.out _ hB2; have f2_2 := D2.out _ hB2; have f3_2 := D3.out _ hB2; skip) | (go_at_call 168; refine (given_any _ p _ (TX.out _ hB1) hpl).mono ?_; rintro e w2 ⟨rfl, hw⟩; rw [hw, hg]; clear hw w2) | (go_at_call 155; refine (fit_any { name := s, path := (p.length : Int), kids := (l.length : Int) } { path := (p.length : Int) } _).mono ?_; rintro e w1 ⟨rfl, hb1⟩; have hB1 : Below w.heap.size w w1 := (by refine bl_tr ?_ hb1; first | exact (bl_alloc (Below.refl _ _) _).drew | exact bl_alloc (Below.refl _ _) _ | exact bl_alloc (Below.refl _ _).drew _); clear hb1; refine (outc_cases (Nd.fitE { name := s, path := (p.length : Int), kids := (l.length : Int) } { path := (p.length : Int) })).elim (fun ⟨hz, he⟩ => ?_) (fun ⟨hz, he⟩ => by rw [he]; exact ⟨rfl, (by rw [HE0.out, Nd.firstE_ne hz]; exact he.symm), hB1⟩); rw [he]; have HE1 := HE0.out.trans (Nd.firstE_zero hz); replace HE1 : Hid ((Nd.err 0) (.mk [.int 2, .str s, .strs p] [l]) = Nd.errF (Nd.err 0) l) := HE1; clear HE0 hz he; have f0_1 := D0.out _ hB1; have f1_1 := D1.out _ hB1; have f2_1 := D2.out _ hB1; have f3_1 := D3.out _ hB1; skip))
   first | go_end0 | refine bodyPost_ret (results_none rfl _ _ _) rfl ?_
   exact ⟨HE2.out.symm, hB2⟩
  | false =>
   have HE0 : Hid ((Nd.err 0) (.mk [.int 2, .str s, .strs p] [l]) = Nd.firstE (Nd.fitE { name := s, path := (p.length : Int), kids := (l.length : Int) } { path := (p.length : Int) }) (Nd.firstE (Nd.pathE p Nm.lower) (Nd.errF (Nd.err 0) l))) := by
    show _ = _
    rw [Nd.err, show Nd.own 0 [.int 2, .str s, .strs p] [l] = Nd.ownTy 2 s p l from rfl]
    rw [Nd.ownTy, if_neg (by omega), if_pos (by omega), if_neg (by rw [hg]; decide)]
    simp only [Nd.subs, Nd.errLL, Nd.errL_eq, Nd.firstE_assoc, Nd.firstE_right]
   go_wp2_with (first | (go_at_call 135; refine (Rl.out _ hB1).mono ?_; rintro e w2 ⟨rfl, hb⟩; have hB2 := bl_tr hB1 hb; clear hb; refine (outc_cases (Nd.errF (Nd.err 0) l)).elim (fun ⟨hz, he⟩ => ?_) (fun ⟨hz, he⟩ => by rw [he]; exact ⟨rfl, (by rw [HE2.out]; exact he.symm), hB2⟩); rw [he]; have HE3 : Hid (outc ((Nd.err 0) (.mk [.int 2, .str s, .strs p] [l])) = .returned (.tuple #[])) := (by show _ = _; rw [HE2.out]; exact he); clear HE2 hz he; have f0_2 := D0.out _ hB2; have f1_2 := D1.out _ hB2; have f2_2 := D2.out _ hB2; have f3_2 := D3.out _ hB2; skip) | (go_at_call 158; refine (pathed_any _ p _ (TX.out _ hB1) hpx hpl 157 Nm.lower sort_lower).mono ?_; rintro e w2 ⟨rfl, hw⟩; rw [hw]; clear hw w2; refine (outc_cases (Nd.pathE p Nm.lower)).elim (fun ⟨hz, he⟩ => ?_) (fun ⟨hz, he⟩ => by rw [he]; exact ⟨rfl, (by rw [HE1.out, Nd.firstE_ne hz]; exact he.symm), hB1⟩); rw [he]; have HE2 := HE1.out.trans (Nd.firstE_zero hz); replace HE2 : Hid ((Nd.err 0) (.mk [.int 2, .str s, .strs p] [l]) = Nd.errF (Nd.err 0) l) := HE2; clear HE1 hz he) | (go_at_call 168; refine (given_any _ p _ (TX.out _ hB1) hpl).mono ?_; rintro e w2 ⟨rfl, hw⟩; rw [hw, hg]; clear hw w2) | (go_at_call 155; refine (fit_any { name := s, path := (p.length : Int), kids := (l.length : Int) } { path := (p.length : Int) } _).mono ?_; rintro e w1 ⟨rfl, hb1⟩; have hB1 : Below w.heap.size w w1 := (by refine bl_tr ?_ hb1; first | exact (bl_alloc (Below.refl _ _) _).drew | exact bl_alloc (Below.refl _ _) _ | exact bl_alloc (Below.refl _ _).drew _); clear hb1; refine (outc_cases (Nd.fitE { name := s, path := (p.length : Int), kids := (l.length : Int) } { path := (p.length : Int) })).elim (fun ⟨hz, he⟩ => ?_) (fun ⟨hz, he⟩ => by rw [he]; exact ⟨rfl, (by rw [HE0.out, Nd.firstE_ne hz]; exact he.symm), hB1⟩); rw [he]; have HE1 := HE0.out.trans (Nd.firstE_zero hz); replace HE1 : Hid ((Nd.err 0) (.mk [.int 2, .str s, .strs p] [l]) = Nd.firstE (Nd.pathE p Nm.lower) (Nd.errF (Nd.err 0) l)) := HE1; clear HE0 hz he; have f0_1 := D0.out _ hB1; have f1_1 := D1.out _ hB1; have f2_1 := D2.out _ hB1; have f3_1 := D3.out _ hB1; skip))
   first | go_end0 | refine bodyPost_ret (results_none rfl _ _ _) rfl ?_
   exact ⟨HE3.out.symm, hB2⟩
 by_cases hk3 : k = 3
 ·
  subst hk3
  have HE0 : Hid ((Nd.err 0) (.mk [.int 3, .str s, .strs p] [l]) = Nd.firstE (Nd.fitE { name := s, path := (p.length : Int), kids := (l.length : Int) } { kids := 2 }) (Nd.errF (Nd.err 0) l)) := by
   show _ = _
   rw [Nd.err, show Nd.own 0 [.int 3, .str s, .strs p] [l] = Nd.ownTy 3 s p l from rfl]
   rw [Nd.ownTy, if_neg (by omega), if_neg (by omega), if_pos (by omega)]
   simp only [Nd.subs, Nd.errLL, Nd.errL_eq, Nd.firstE_right]
  go_wp2_with (first | (go_at_call 135; refine (Rl.out _ hB1).mono ?_; rintro e w2 ⟨rfl, hb⟩; have hB2 := bl_tr hB1 hb; clear hb; refine (outc_cases (Nd.errF (Nd.err 0) l)).elim (fun ⟨hz, he⟩ => ?_) (fun ⟨hz, he⟩ => by rw [he]; exact ⟨rfl, (by rw [HE1.out]; exact he.symm), hB2⟩); rw [he]; have HE2 : Hid (outc ((Nd.err 0) (.mk [.int 3, .str s, .strs p] [l])) = .returned (.tuple #[])) := (by show _ = _; rw [HE1.out]; exact he); clear HE1 hz he; have f0_2 := D0.out _ hB2; have f1_2 := D1.out _ hB2; have f2_2 := D2.out _ hB2; have f3_2 := D3.out _ hB2; skip) | (go_at_call 155; refine (fit_any { name := s, path := (p.length : Int), kids := (l.length : Int) } { kids := 2 } _).mono ?_; rintro e w1 ⟨rfl, hb1⟩; have hB1 : Below w.heap.size w w1 := (by refine bl_tr ?_ hb1; first | exact (bl_alloc (Below.refl _ _) _).drew | exact bl_alloc (Below.refl _ _) _ | exact bl_alloc (Below.refl _ _).drew _); clear hb1; refine (outc_cases (Nd.fitE { name := s, path := (p.length : Int), kids := (l.length : Int) } { kids := 2 })).elim (fun ⟨hz, he⟩ => ?_) (fun ⟨hz, he⟩ => by rw [he]; exact ⟨rfl, (by rw [HE0.out, Nd.firstE_ne hz]; exact he.symm), hB1⟩); rw [he]; have HE1 := HE0.out.trans (Nd.firstE_zero hz); replace HE1 : Hid ((Nd.err 0) (.mk [.int 3, .str s, .strs p] [l]) = Nd.errF (Nd.err 0) l) := HE1; clear HE0 hz he; have f0_1 := D0.out _ hB1; have f1_1 := D1.out _ hB1; have f2_1 := D2.out _ hB1; have f3_1 := D3.out _ hB1; skip))
  first | go_end0 | refine bodyPost_ret (results_none rfl _ _ _) rfl ?_
  exact ⟨HE2.out.symm, hB2⟩
 by_cases hk4 : k = 4
 ·
  subst hk4
  have HE0 : Hid ((Nd.err 0) (.mk [.int 4, .str s, .strs p] [l]) = Nd.firstE (Nd.fitE { name := s, path := (p.length : Int), kids := (l.length : Int) } { kids := 2 }) (Nd.errF (Nd.err 0) l)) := by
   show _ = _
   rw [Nd.err, show Nd.own 0 [.int 4, .str s, .strs p] [l] = Nd.ownTy 4 s p l from rfl]
   rw [Nd.ownTy, if_neg (by omega), if_neg (by omega), if_pos (by omega)]
   simp only [Nd.subs, Nd.errLL, Nd.errL_eq, Nd.firstE_right]
  go_wp2_with (first | (go_at_call 135; refine (Rl.out _ hB1).mono ?_; rintro e w2 ⟨rfl, hb⟩; have hB2 := bl_tr hB1 hb; clear hb; refine (outc_cases (Nd.errF (Nd.err 0) l)).elim (fun ⟨hz, he⟩ => ?_) (fun ⟨hz, he⟩ => by rw [he]; exact ⟨rfl, (by rw [HE1.out]; exact he.symm), hB2⟩); rw [he]; have HE2 : Hid (outc ((Nd.err 0) (.mk [.int 4, .str s, .strs p] [l])) = .returned (.tuple #[])) := (by show _ = _; rw [HE1.out]; exact he); clear HE1 hz he; have f0_2 := D0.out _ hB2; have f1_2 := D1.out _ hB2; have f2_2 := D2.out _ hB2; have f3_2 := D3.out _ hB2; skip) | (go_at_call 155; refine (fit_any { name := s, path := (p.length : Int), kids := (l.length : Int) } { kids := 2 } _).mono ?_; rintro e w1 ⟨rfl, hb1⟩; have hB1 : Below w.heap.size w w1 := (by refine bl_tr ?_ hb1; first | exact (bl_alloc (Below.refl _ _) _).drew | exact bl_alloc (Below.refl _ _) _ | exact bl_alloc (Below.refl _ _).drew _); clear hb1; refine (outc_cases (Nd.fitE { name := s, path := (p.length : Int), kids := (l.length : Int) } { kids := 2 })).elim (fun ⟨hz, he⟩ => ?_) (fun ⟨hz, he⟩ => by rw [he]; exact ⟨rfl, (by rw [HE0.out, Nd.firstE_ne hz]; exact he.symm), hB1⟩); rw [he]; have HE1 := HE0.out.trans (Nd.firstE_zero hz); replace HE1 : Hid ((Nd.err 0) (.mk [.int 4, .str s, .strs p] [l]) = Nd.errF (Nd.err 0) l) := HE1; clear HE0 hz he; have f0_1 := D0.out _ hB1; have f1_1 := D1.out _ hB1; have f2_1 := D2.out _ hB1; have f3_1 := D3.out _ hB1; skip))
  first | go_end0 | refine bodyPost_ret (results_none rfl _ _ _) rfl ?_
  exact ⟨HE2.out.symm, hB2⟩
 have HE : Hid (outc ((Nd.err 0) (.mk [.int k, .str s, .strs p] [l])) = .panicked [{ v := .iface 29 (.int .i64 1), recovered := false }]) := by
  show _ = _
  rw [Nd.err, show Nd.own 0 [.int k, .str s, .strs p] [l] = Nd.ownTy k s p l from rfl]
  rw [Nd.ownTy, if_neg (by omega), if_neg (by omega), if_neg (by omega), Nd.firstE_ne (by decide)]
  exact outc_err (by decide)
 replace hk1 : (k == 1) = false := by rw [beq_eq_false_iff_ne]; exact hk1
 replace hk2 : (k == 2) = false := by rw [beq_eq_false_iff_ne]; exact hk2
 replace hk3 : (k == 3) = false := by rw [beq_eq_false_iff_ne]; exact hk3
 replace hk4 : (k == 4) = false := by rw [beq_eq_false_iff_ne]; exact hk4
 go_wp2
 exact ⟨rfl, HE.out.symm, (by first | exact (bl_alloc (Below.refl _ _) _).drew | exact bl_alloc (Below.refl _ _) _ | exact bl_alloc (Below.refl _ _).drew _)⟩

end Go.Proofs.YtjebepnphoeiaaaGreatDoor
