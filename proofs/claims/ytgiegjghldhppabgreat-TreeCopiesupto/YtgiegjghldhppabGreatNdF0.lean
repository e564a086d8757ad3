/- What holds a node's shape against the shape that its kind allows. -/
import Derived.Test.YtgiegjghldhppabGreatNdN
import Derived.Laws.StructEq
namespace Go.Proofs.YtgiegjghldhppabGreat
open Go.RowKit
set_option linter.unusedVariables false

structure Sh where
  op : Int := 0
  n : Int := 0
  name : ByteArray := ⟨#[]⟩
  path : Int := 0
  params : Int := 0
  pats : Int := 0
  kids : Int := 0
  decs : Int := 0
  tys : Int := 0
  exps : Int := 0
  cons : Int := 0
  mods : Int := 0
  sigs : Int := 0
  specs : Int := 0
deriving DecidableEq
def Sh.val (h : Sh) : Value := .agg #[.int .i64 h.op, .int .i64 h.n, .string h.name, .int .i64 h.path, .int .i64 h.params, .int .i64 h.pats, .int .i64 h.kids, .int .i64 h.decs, .int .i64 h.tys, .int .i64 h.exps, .int .i64 h.cons, .int .i64 h.mods, .int .i64 h.sigs, .int .i64 h.specs]

/-- How a call ends that gives up with an error. -/
def outc (e : Int) : Ending := if e = 0 then .returned (.tuple #[]) else .panicked [{ v := .iface 36 (.int .i64 e), recovered := false }]

theorem outc_zero : outc 0 = .returned (.tuple #[]) := rfl
theorem outc_err {e : Int} (h : e ≠ 0) : outc e = .panicked [{ v := .iface 36 (.int .i64 e), recovered := false }] := by unfold outc; rw [if_neg h]
theorem pn_any (T : TypeId) (v : Value) (w : World) : (Instr.panic (.iface T v)).run Tryz.prog w = .halt (.panic (.iface T v)) w := rfl

set_option maxHeartbeats 1000000 in
set_option maxRecDepth 100000 in
theorem fit_ok (h : Sh) (w : World) : Calls Tryz.prog 84 #[h.val, h.val] w fun e w' => e = .returned (.tuple #[]) ∧ Below w.heap.size w w' := by
  unfold Sh.val
  go_enter Tryz.func84, Tryz.ntmps84
  go_wp2
  go_end0
  exact ⟨rfl, bl_alloc (bl_alloc (Below.refl _ _) _) _⟩

theorem Sh.of_eqs {h g : Sh} (e0 : h.op = g.op) (e1 : h.n = g.n) (e2 : h.name.toList = g.name.toList) (e3 : h.path = g.path) (e4 : h.params = g.params) (e5 : h.pats = g.pats) (e6 : h.kids = g.kids) (e7 : h.decs = g.decs) (e8 : h.tys = g.tys) (e9 : h.exps = g.exps) (e10 : h.cons = g.cons) (e11 : h.mods = g.mods) (e12 : h.sigs = g.sigs) (e13 : h.specs = g.specs) : h = g := by
  have e2' : h.name = g.name := by
    have := Nm.str_eq h.name g.name
    rw [e2, beq_self_eq_true] at this
    exact of_decide_eq_true this.symm
  obtain ⟨a0, a1, a2, a3, a4, a5, a6, a7, a8, a9, a10, a11, a12, a13⟩ := h
  obtain ⟨b0, b1, b2, b3, b4, b5, b6, b7, b8, b9, b10, b11, b12, b13⟩ := g
  simp only at *
  subst e0; subst e1; subst e2'; subst e3; subst e4; subst e5; subst e6; subst e7; subst e8; subst e9; subst e10; subst e11; subst e12; subst e13
  rfl

set_option maxHeartbeats 1000000 in
set_option maxRecDepth 100000 in
theorem fit_bad (hh gg : Sh) (hne : hh ≠ gg) (w : World) : Calls Tryz.prog 84 #[hh.val, gg.val] w fun e w' => e = outc 1 ∧ Below w.heap.size w w' := by
  have H : Hid (hh ≠ gg) := hne
  clear hne
  have hp := pn_any
  unfold Sh.val
  go_enter Tryz.func84, Tryz.ntmps84
  go_wp2
  all_goals first | exact ⟨rfl, rfl, bl_alloc (bl_alloc (Below.refl _ _) _) _⟩ | exact (H.out (Sh.of_eqs (by assumption) (by assumption) (by assumption) (by assumption) (by assumption) (by assumption) (by assumption) (by assumption) (by assumption) (by assumption) (by assumption) (by assumption) (by assumption) (by assumption))).elim

end Go.Proofs.YtgiegjghldhppabGreat
