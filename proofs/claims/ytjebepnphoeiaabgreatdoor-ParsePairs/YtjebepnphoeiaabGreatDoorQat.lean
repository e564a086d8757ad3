/- Pieces: NdQ1 NdC. -/
import Derived.Deep.RegionHeld
import Derived.Test.YtjebepnphoeiaabGreatDoorQas
import Derived.Defers
import Derived.Recover
namespace Go.Proofs.YtjebepnphoeiaabGreatDoor
open Go.RowKit
set_option linter.unusedVariables false
set_option linter.unusedSimpArgs false

theorem Nd.firstE_right (a : Int) : Nd.firstE a 0 = a := by
 unfold Nd.firstE
 by_cases h : a = 0
 ·
  rw [if_pos h, h]
 ·
  rw [if_neg h]
def Nd.ownN (s : Nat) (nd : Nd) : Int := Nd.own s nd.sc nd.ks
theorem Nd.firstE_left (a : Int) : Nd.firstE 0 a = a := Nd.firstE_zero rfl
theorem follows_mixed : Tryz.prog.follows .mixedOrders = true := by kernel_rfl
theorem sort_tyvar : SortOf 86 Nm.tyvar := ⟨enters_of Tryz.func86 (by kernel_rfl) rfl, fun s w hs => tyvar_any s hs w⟩
theorem sort_lower : SortOf 78 Nm.lower := ⟨enters_of Tryz.func78 (by kernel_rfl) rfl, fun s w hs => lower_any s hs w⟩
theorem sort_upper : SortOf 79 Nm.upper := ⟨enters_of Tryz.func79 (by kernel_rfl) rfl, fun s w hs => upper_any s hs w⟩
set_option maxHeartbeats 1000000 in
set_option maxRecDepth 100000 in
theorem catchExp_panicking (p : Addr) (x e : Int) (older : List PanicEntry) (w : World) (hc : w.cell? p = some (.int .i64 x)) (hz : w.frozen? p = false) :
  CallsD Tryz.prog 69 #[.pointer (some p)] (.panicking ({ v := .iface 29 (.int .i64 e), recovered := false } :: older)) w fun e' u' w' =>
   e' = .returned (.tuple #[]) ∧ u' = .panicking ({ v := .iface 29 (.int .i64 e), recovered := true } :: older) ∧ w' = w.setCell p (.int .i64 e) := by
 have hta : ∀ (v : Value) (W : World), (Instr.typeAssert (.iface 29 v) 20 29 true).run Tryz.prog W = .ok (.tuple #[v, .bool true]) W := fun v W => by kernel_rfl
 refine callsD_of_wpS Tryz.func69 rfl fun c₀ cs hu => ?_
 apply wpS_seq
 apply wpS_region
 simp [wpOpsS, go_sem, recoverD, hu, Tryz.ntmps69, Exit.thenS]
 rw [show (#[Value.pointer (some p)] ++ ((Array.replicate 15 undef).setIfInBounds 3 (Value.iface 29 (Value.int IntKind.i64 e))).setIfInBounds 0 (Value.iface 29 (Value.int IntKind.i64 e))) = #[.pointer (some p), .iface 29 (.int .i64 e), undef, undef, .iface 29 (.int .i64 e), undef, undef, undef, undef, undef, undef, undef, undef, undef, undef, undef] from rfl]
 refine wpS_of_wp ?_
 go_wp2
 simp [bodyPostS, results, Tryz.results69]

set_option maxHeartbeats 1000000 in
set_option maxRecDepth 100000 in
theorem catchExp_idle (p : Addr) (w : World) :
  CallsD Tryz.prog 69 #[.pointer (some p)] .returning w fun e u' w' => e = .returned (.tuple #[]) ∧ u' = .returning ∧ w' = w := by
 refine callsD_of_wpS Tryz.func69 rfl fun c₀ cs hu => ?_
 apply wpS_seq
 apply wpS_region
 simp [wpOpsS, go_sem, recoverD, hu, Tryz.ntmps69, Exit.thenS]
 rw [show (#[Value.pointer (some p)] ++ ((Array.replicate 15 undef).setIfInBounds 3 Value.nilIface).setIfInBounds 0 Value.nilIface) = #[.pointer (some p), .nilIface, undef, undef, .nilIface, undef, undef, undef, undef, undef, undef, undef, undef, undef, undef, undef] from rfl]
 refine wpS_of_wp ?_
 go_wp2
 cases c₀
 simp_all [bodyPostS, results, Tryz.results69]

set_option maxHeartbeats 1000000 in
set_option maxRecDepth 100000 in
theorem caughtExp (n : Nat) (ih : ErrOf 21 (Nd.err 2) n 2) (w : World) (b o : Nat) (vs : List Value) (nd : Nd) (hb : b < w.heap.size) (hc : Cells w b o vs) (ha : At w Any n 2 vs nd) :
  Calls Tryz.prog 41 #[.pointer (some ⟨b, o, none⟩), .func (.func 21) #[] #[]] w fun e w' => e = .returned (.int .i64 (Nd.err 2 nd)) ∧ Below w.heap.size w w' := by
 have hmf : ∀ (fn : Fn) (first cap : Array Value) (w : World), (Instr.makeFunc fn first cap).run Tryz.prog w = .ok (.func fn first cap) w := fun _ _ _ _ => rfl
 have q : Hid (∀ ob, Calls Tryz.prog 21 #[.pointer (some ⟨b, o, none⟩)] (w.alloc ob) fun e w' => e = outc (Nd.err 2 nd) ∧ Below (w.alloc ob).heap.size (w.alloc ob) w') := fun ob => ih (w.alloc ob) b o vs nd (by simp; omega) (hc.move trivial (Keeps.of_below (K := Any) (bl_alloc (Below.refl _ _) _))) (At.move (Keeps.of_below (bl_alloc (Below.refl _ _) _)) (fun _ h => h) _ _ _ _ ha)
 clear ih hc ha
 have hlt : w.heap.size < (w.alloc (.cells #[.int .i64 0] 29)).heap.size := by simp
 rcases outc_cases (Nd.err 2 nd) with ⟨hz, he⟩ | ⟨hz, he⟩
 ·
  rw [he] at q
  have HZ : Hid (Nd.err 2 nd = 0) := hz
  clear hz he
  go_enter_defers Tryz.func41, Tryz.ntmps41
  go_wp2_with (go_at_call 21; refine (q.out _).mono ?_; rintro e w1 ⟨rfl, hb1⟩; have x0 : w1.cell? ⟨w.heap.size, 0, none⟩ = some (.int .i64 0) := (hb1.cell hlt).trans (by simp [go_sem]); have z0 : w1.frozen? ⟨w.heap.size, 0, none⟩ = false := (hb1.frozen hlt).trans (by simp [go_sem]); have hB : Hid (Below w.heap.size w w1) := bl_tr (bl_alloc (Below.refl _ _) _) hb1; clear hb1)
  refine leaves_cons (f := 69) (args := #[.pointer (some ⟨w.heap.size, 0, none⟩)]) (by simp) (by simp [go_sem]) ?_
  refine (catchExp_idle ⟨w.heap.size, 0, none⟩ _).mono ?_
  rintro e u' w'' ⟨rfl, rfl, rfl⟩
  have hB2 : Below w.heap.size w (w1.setCell ⟨w.heap.size, 0, none⟩ (.int .i64 0)) := hB.out.setCell (Nat.le_refl _) _
  simp [Leaves, settle, results, Tryz.results41, go_sem, x0, HZ.out, hB2]
 ·
  rw [he] at q
  clear hz he
  go_enter_defers Tryz.func41, Tryz.ntmps41
  go_wp2_with (go_at_call 21; refine (q.out _).mono ?_; rintro e w1 ⟨rfl, hb1⟩; have x0 : w1.cell? ⟨w.heap.size, 0, none⟩ = some (.int .i64 0) := (hb1.cell hlt).trans (by simp [go_sem]); have z0 : w1.frozen? ⟨w.heap.size, 0, none⟩ = false := (hb1.frozen hlt).trans (by simp [go_sem]); have hB : Hid (Below w.heap.size w w1) := bl_tr (bl_alloc (Below.refl _ _) _) hb1; clear hb1)
  refine leaves_cons (f := 69) (args := #[.pointer (some ⟨w.heap.size, 0, none⟩)]) (by simp) (by simp [go_sem]) ?_
  refine (catchExp_panicking ⟨w.heap.size, 0, none⟩ 0 _ [] _ x0 z0).mono ?_
  rintro e u' w'' ⟨rfl, rfl, rfl⟩
  have hB2 : Below w.heap.size w (w1.setCell ⟨w.heap.size, 0, none⟩ (.int .i64 (Nd.err 2 nd))) := hB.out.setCell (Nat.le_refl _) _
  simp [Leaves, settle, results, Tryz.results41, go_sem, x0, hB2]

end Go.Proofs.YtjebepnphoeiaabGreatDoor
