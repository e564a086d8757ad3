/- Pieces: GrRt. -/
import Derived.Test.YtjebepnphoeiaabGreatDoorQbd
namespace Go.Proofs.YtjebepnphoeiaabGreatDoor
open Go.RowKit
set_option linter.unusedVariables false

def Nd.rightTy (nd : Nd) : Int := if 100 < (nd.run ⟨0, 0, 0⟩).d then 4 else Nd.err 0 nd

set_option maxHeartbeats 1000000 in
set_option maxRecDepth 100000 in
theorem catchTy_panicking (p : Addr) (x e : Int) (older : List PanicEntry) (w : World) (hc : w.cell? p = some (.int .i64 x)) (hz : w.frozen? p = false) :
  CallsD Tryz.prog 111 #[.pointer (some p)] (.panicking ({ v := .iface 29 (.int .i64 e), recovered := false } :: older)) w fun e' u' w' =>
   e' = .returned (.tuple #[]) ∧ u' = .panicking ({ v := .iface 29 (.int .i64 e), recovered := true } :: older) ∧ w' = w.setCell p (.int .i64 e) := by
 have hta : ∀ (v : Value) (W : World), (Instr.typeAssert (.iface 29 v) 20 29 true).run Tryz.prog W = .ok (.tuple #[v, .bool true]) W := fun v W => by kernel_rfl
 refine callsD_of_wpS Tryz.func111 rfl fun c₀ cs hu => ?_
 apply wpS_seq
 apply wpS_region
 simp [wpOpsS, go_sem, recoverD, hu, Tryz.ntmps111, Exit.thenS]
 rw [show (#[Value.pointer (some p)] ++ ((Array.replicate 15 undef).setIfInBounds 3 (Value.iface 29 (Value.int IntKind.i64 e))).setIfInBounds 0 (Value.iface 29 (Value.int IntKind.i64 e))) = #[.pointer (some p), .iface 29 (.int .i64 e), undef, undef, .iface 29 (.int .i64 e), undef, undef, undef, undef, undef, undef, undef, undef, undef, undef, undef] from rfl]
 refine wpS_of_wp ?_
 go_wp2
 simp [bodyPostS, results, Tryz.results111]

set_option maxHeartbeats 1000000 in
set_option maxRecDepth 100000 in
theorem catchTy_idle (p : Addr) (w : World) :
  CallsD Tryz.prog 111 #[.pointer (some p)] .returning w fun e u' w' => e = .returned (.tuple #[]) ∧ u' = .returning ∧ w' = w := by
 refine callsD_of_wpS Tryz.func111 rfl fun c₀ cs hu => ?_
 apply wpS_seq
 apply wpS_region
 simp [wpOpsS, go_sem, recoverD, hu, Tryz.ntmps111, Exit.thenS]
 rw [show (#[Value.pointer (some p)] ++ ((Array.replicate 15 undef).setIfInBounds 3 Value.nilIface).setIfInBounds 0 Value.nilIface) = #[.pointer (some p), .nilIface, undef, undef, .nilIface, undef, undef, undef, undef, undef, undef, undef, undef, undef, undef, undef] from rfl]
 refine wpS_of_wp ?_
 go_wp2
 cases c₀
 simp_all [bodyPostS, results, Tryz.results111]

set_option maxHeartbeats 1000000 in
set_option maxRecDepth 100000 in
theorem caughtTy (n : Nat) (ih : ErrOf 54 (Nd.err 0) n 0) (w : World) (b o : Nat) (vs : List Value) (nd : Nd) (hb : b < w.heap.size) (hc : Cells w b o vs) (ha : At w Any n 0 vs nd) :
  Calls Tryz.prog 90 #[.pointer (some ⟨b, o, none⟩), .func (.func 54) #[] #[]] w fun e w' => e = .returned (.int .i64 (Nd.err 0 nd)) ∧ Below w.heap.size w w' := by
 have hmf : ∀ (fn : Fn) (first cap : Array Value) (w : World), (Instr.makeFunc fn first cap).run Tryz.prog w = .ok (.func fn first cap) w := fun _ _ _ _ => rfl
 have q : Hid (∀ ob, Calls Tryz.prog 54 #[.pointer (some ⟨b, o, none⟩)] (w.alloc ob) fun e w' => e = outc (Nd.err 0 nd) ∧ Below (w.alloc ob).heap.size (w.alloc ob) w') := fun ob => ih (w.alloc ob) b o vs nd (by simp; omega) (hc.move trivial (Keeps.of_below (K := Any) (bl_alloc (Below.refl _ _) _))) (At.move (Keeps.of_below (bl_alloc (Below.refl _ _) _)) (fun _ h => h) _ _ _ _ ha)
 clear ih hc ha
 have hlt : w.heap.size < (w.alloc (.cells #[.int .i64 0] 29)).heap.size := by simp
 rcases outc_cases (Nd.err 0 nd) with ⟨hz, he⟩ | ⟨hz, he⟩
 ·
  rw [he] at q
  have HZ : Hid (Nd.err 0 nd = 0) := hz
  clear hz he
  go_enter_defers Tryz.func90, Tryz.ntmps90
  go_wp2_with (go_at_call 54; refine (q.out _).mono ?_; rintro e w1 ⟨rfl, hb1⟩; have x0 : w1.cell? ⟨w.heap.size, 0, none⟩ = some (.int .i64 0) := (hb1.cell hlt).trans (by simp [go_sem]); have z0 : w1.frozen? ⟨w.heap.size, 0, none⟩ = false := (hb1.frozen hlt).trans (by simp [go_sem]); have hB : Hid (Below w.heap.size w w1) := bl_tr (bl_alloc (Below.refl _ _) _) hb1; clear hb1)
  refine leaves_cons (f := 111) (args := #[.pointer (some ⟨w.heap.size, 0, none⟩)]) (by simp) (by simp [go_sem]) ?_
  refine (catchTy_idle ⟨w.heap.size, 0, none⟩ _).mono ?_
  rintro e u' w'' ⟨rfl, rfl, rfl⟩
  have hB2 : Below w.heap.size w (w1.setCell ⟨w.heap.size, 0, none⟩ (.int .i64 0)) := hB.out.setCell (Nat.le_refl _) _
  simp [Leaves, settle, results, Tryz.results90, go_sem, x0, HZ.out, hB2]
 ·
  rw [he] at q
  clear hz he
  go_enter_defers Tryz.func90, Tryz.ntmps90
  go_wp2_with (go_at_call 54; refine (q.out _).mono ?_; rintro e w1 ⟨rfl, hb1⟩; have x0 : w1.cell? ⟨w.heap.size, 0, none⟩ = some (.int .i64 0) := (hb1.cell hlt).trans (by simp [go_sem]); have z0 : w1.frozen? ⟨w.heap.size, 0, none⟩ = false := (hb1.frozen hlt).trans (by simp [go_sem]); have hB : Hid (Below w.heap.size w w1) := bl_tr (bl_alloc (Below.refl _ _) _) hb1; clear hb1)
  refine leaves_cons (f := 111) (args := #[.pointer (some ⟨w.heap.size, 0, none⟩)]) (by simp) (by simp [go_sem]) ?_
  refine (catchTy_panicking ⟨w.heap.size, 0, none⟩ 0 _ [] _ x0 z0).mono ?_
  rintro e u' w'' ⟨rfl, rfl, rfl⟩
  have hB2 : Below w.heap.size w (w1.setCell ⟨w.heap.size, 0, none⟩ (.int .i64 (Nd.err 0 nd))) := hB.out.setCell (Nat.le_refl _) _
  simp [Leaves, settle, results, Tryz.results90, go_sem, x0, hB2]

set_option maxHeartbeats 1000000 in
set_option maxRecDepth 100000 in
theorem aloneTy_any (n : Nat) (w : World) (b o : Nat) (vs : List Value) (nd : Nd) (hb : b < w.heap.size) (hc : Cells w b o vs) (ha : At w Any n 0 vs nd) :
  Calls Tryz.prog 57 #[.pointer (some ⟨b, o, none⟩), .func (.func 49) #[] #[], .func (.func 54) #[] #[]] w fun e w' => e = .returned (.int .i64 (Nd.rightTy nd)) ∧ Below w.heap.size w w' := by
 have q : Hid (∀ ob, Mt (w.alloc ob) w.heap.size ⟨0, 0, 0⟩ → _) := fun ob hm => (meter_all n).s0 (w.alloc ob) (Old w) w.heap.size ⟨0, 0, 0⟩ b o vs nd (Nat.lt_irrefl _) hb (hc.move trivial (Keeps.of_below (K := Any) (bl_alloc (Below.refl _ _) _))) (At.move (Keeps.of_below (bl_alloc (Below.refl _ _) _)) (fun _ h => h) _ _ _ _ (At.old _ _ _ _ ha)) hm
 have r : Hid (∀ w', Below w.heap.size w w' → _) := fun w' h' => caughtTy n (right_all n).s0 w' b o vs nd (Nat.lt_of_lt_of_le hb h'.size) (hc.move trivial (Keeps.of_below (K := Any) h')) (At.move (Keeps.of_below h') (fun _ h => h) _ _ _ _ ha)
 clear hc ha hb
 by_cases hd : 100 < (nd.run ⟨0, 0, 0⟩).d
 ·
  have H : Hid (Nd.rightTy nd = 4) := by show _ = _; unfold Nd.rightTy; rw [if_pos hd]
  clear r
  go_enter Tryz.func57, Tryz.ntmps57
  go_wp2_with (go_at_call 49; refine (q.out _ (Mt.start1 _)).mono ?_; rintro e w1 ⟨rfl, hm1, hs1⟩; have m1 := hm1.d; have hB : Hid (Below w.heap.size w w1) := Save.below (bl_alloc (Below.refl _ _) _) hs1 (Nat.le_refl _); clear hm1 hs1)
  go_ret
  exact ⟨ret_int H.out.symm, hB⟩
 ·
  have H : Hid (Nd.rightTy nd = Nd.err 0 nd) := by show _ = _; unfold Nd.rightTy; rw [if_neg hd]
  go_enter Tryz.func57, Tryz.ntmps57
  go_wp2_with (first | (go_at_call 90; refine (r.out _ hB.out).mono ?_; rintro e w2 ⟨rfl, hb2⟩; have hB2 := bl_tr hB.out hb2) | (go_at_call 49; refine (q.out _ (Mt.start1 _)).mono ?_; rintro e w1 ⟨rfl, hm1, hs1⟩; have m1 := hm1.d; have hB : Hid (Below w.heap.size w w1) := Save.below (bl_alloc (Below.refl _ _) _) hs1 (Nat.le_refl _); clear hm1 hs1))
  go_ret
  exact ⟨ret_int H.out.symm, hB2⟩

set_option maxHeartbeats 1000000 in
set_option maxRecDepth 100000 in
theorem rightTy_any (n : Nat) (w : World) (vs : List Value) (nd : Nd) (ha : At w Any n 0 vs nd) :
  Calls Tryz.prog 24 #[.agg vs.toArray] w fun e w' => e = .returned (.int .i64 (Nd.rightTy nd)) ∧ Below w.heap.size w w' := by
 have q : Hid (∀ t, Cells (w.alloc (.cells vs.toArray t)) w.heap.size 0 vs → _) := fun t hc => aloneTy_any n (w.alloc (.cells vs.toArray t)) w.heap.size 0 vs nd (by simp) hc (At.move (Keeps.of_below (bl_alloc (Below.refl _ _) _)) (fun _ h => h) _ _ _ _ ha)
 have hc : ∀ t, Cells (w.alloc (.cells vs.toArray t)) w.heap.size 0 vs := fun t j v hv => by
  rw [World.cell?_alloc_at _ _ _ _ rfl]
  simpa using hv
 obtain ⟨i0, s1, a2, n2, c2, d0, m0, e0, rfl⟩ := At.ty_form ha
 have q2 := q.out _ (hc 41)
 clear q hc ha
 go_enter Tryz.func24, Tryz.ntmps24
 go_wp2_with (go_at_call 57; refine q2.mono ?_; rintro e w1 ⟨rfl, hb1⟩; have hB := bl_tr (bl_alloc (Below.refl _ _) _) hb1)
 go_ret
 exact ⟨rfl, hB⟩

def Nd.rightPat (nd : Nd) : Int := if 100 < (nd.run ⟨0, 0, 0⟩).d then 4 else Nd.err 1 nd











end Go.Proofs.YtjebepnphoeiaabGreatDoor
