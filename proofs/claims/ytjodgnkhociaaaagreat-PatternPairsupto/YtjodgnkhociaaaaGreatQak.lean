/- Two lists of texts: slices.Equal, and the document's texts. What the program's Same and its kin come to: being the same data, but for places. The meter: what entering and leaving a node does to it. The meter gone through lists and nodes. How many nodes, how deep: Nodes and Depth. What holds a node's shape against the shape that its kind allows. What spelt and Tyvar come to, and the document's own loops over a name's bytes. What Reserved comes to: the program's switch. What Right, Lower and Upper come to. -/
import Derived.Laws.StructEq
import Derived.Test.YtjodgnkhociaaaaGreatQaj
import Derived.Test.YtjodgnkhociaaaaGreatQai
namespace Go.Proofs.YtjodgnkhociaaaaGreat.Tre
open Go.RowKit
set_option linter.unusedVariables false

end Go.Proofs.YtjodgnkhociaaaaGreat.Tre

namespace Go.Proofs.YtjodgnkhociaaaaGreat.Tre
open Go.RowKit
set_option linter.unusedVariables false

abbrev Any : Nat → Prop := fun _ => True
noncomputable def Nd.eq (a b : Nd) : Bool := @decide (a = b) (Classical.propDecidable _)
noncomputable def Nd.eqL (a b : List Nd) : Bool := @decide (a = b) (Classical.propDecidable _)
theorem Nd.eq_true {a b : Nd} : Nd.eq a b = true ↔ a = b := by unfold Nd.eq; exact @decide_eq_true_iff _ (Classical.propDecidable _)
theorem Nd.eqL_true {a b : List Nd} : Nd.eqL a b = true ↔ a = b := by unfold Nd.eqL; exact @decide_eq_true_iff _ (Classical.propDecidable _)
theorem Nd.eqL_nil : Nd.eqL [] [] = true := Nd.eqL_true.2 rfl
theorem Nd.eqL_cons (a b : Nd) (xs ys : List Nd) : Nd.eqL (a :: xs) (b :: ys) = (Nd.eq a b && Nd.eqL xs ys) := by
  rw [Bool.eq_iff_iff, Bool.and_eq_true, Nd.eqL_true, Nd.eqL_true, Nd.eq_true, List.cons.injEq]
theorem Nd.eqL_len {xs ys : List Nd} (h : xs.length ≠ ys.length) : Nd.eqL xs ys = false := by
  rw [Bool.eq_false_iff]
  intro e
  rw [Nd.eqL_true] at e
  exact h (by rw [e])
theorem Nd.eqL_at {xs ys : List Nd} {k : Nat} {x y : Nd} (hx : xs[k]? = some x) (hy : ys[k]? = some y) : Nd.eqL (xs.drop k) (ys.drop k) = (Nd.eq x y && Nd.eqL (xs.drop (k + 1)) (ys.drop (k + 1))) := by
  obtain ⟨h1, e1⟩ := List.getElem?_eq_some_iff.1 hx
  obtain ⟨h2, e2⟩ := List.getElem?_eq_some_iff.1 hy
  rw [List.drop_eq_getElem_cons h1, List.drop_eq_getElem_cons h2, e1, e2, Nd.eqL_cons]

theorem len2 {l : List Value} (h : l.length = 2) : ∃ a b, l = [a, b] := by match l, h with | [a, b], _ => exact ⟨a, b, rfl⟩
theorem len4 {l : List Value} (h : l.length = 4) : ∃ a b c d, l = [a, b, c, d] := by match l, h with | [a, b, c, d], _ => exact ⟨a, b, c, d, rfl⟩
theorem len5 {l : List Value} (h : l.length = 5) : ∃ a b c d e, l = [a, b, c, d, e] := by match l, h with | [a, b, c, d, e], _ => exact ⟨a, b, c, d, e, rfl⟩
theorem len6 {l : List Value} (h : l.length = 6) : ∃ a b c d e f, l = [a, b, c, d, e, f] := by match l, h with | [a, b, c, d, e, f], _ => exact ⟨a, b, c, d, e, f, rfl⟩
theorem len8 {l : List Value} (h : l.length = 8) : ∃ a b c d e f g i, l = [a, b, c, d, e, f, g, i] := by match l, h with | [a, b, c, d, e, f, g, i], _ => exact ⟨a, b, c, d, e, f, g, i, rfl⟩
theorem len9 {l : List Value} (h : l.length = 9) : ∃ a b c d e f g i j, l = [a, b, c, d, e, f, g, i, j] := by match l, h with | [a, b, c, d, e, f, g, i, j], _ => exact ⟨a, b, c, d, e, f, g, i, j, rfl⟩
theorem bl_alloc {w w1 : World} (h : Below w.heap.size w w1) (o : Obj) : Below w.heap.size w (w1.alloc o) := h.alloc h.size o
theorem bl_tr {w w1 w2 : World} (h : Below w.heap.size w w1) (h2 : Below w1.heap.size w1 w2) : Below w.heap.size w w2 := h.trans (h2.mono h.size)
theorem bl_drewN (w : World) (n : Nat) : Below w.heap.size w (w.drewN n) := by
  induction n with
  | zero => exact Below.refl _ _
  | succ k ih => exact ih.drew
/-- Two boxes, of the two arguments, behind what was there. -/
structure Fr (w wc : World) (va vb : List Value) : Prop where
  bl : Below w.heap.size w wc
  sz : w.heap.size + 1 < wc.heap.size
  a : ∀ (j : Nat) v, va[j]? = some v → wc.cell? ⟨w.heap.size, j, none⟩ = some v
  b : ∀ (j : Nat) v, vb[j]? = some v → wc.cell? ⟨w.heap.size + 1, j, none⟩ = some v
theorem Fr.start (w : World) (va vb : List Value) (t : TypeId) : Fr w ((w.alloc (.cells va.toArray t)).alloc (.cells vb.toArray t)) va vb := by
  refine ⟨bl_alloc (bl_alloc (Below.refl _ _) _) _, by simp, fun j v hv => ?_, fun j v hv => ?_⟩
  · rw [World.cell?_alloc2_first]
    simpa using hv
  · rw [World.cell?_alloc_at _ _ _ _ (by simp)]
    simpa using hv
theorem Fr.step {w wc w1 : World} {va vb : List Value} (h : Fr w wc va vb) (hb : Below wc.heap.size wc w1) : Fr w w1 va vb :=
  ⟨bl_tr h.bl hb, Nat.lt_of_lt_of_le h.sz hb.size, fun j v hv => (hb.cell (show w.heap.size < _ by have := h.sz; omega)).trans (h.a j v hv), fun j v hv => (hb.cell (show w.heap.size + 1 < _ from h.sz)).trans (h.b j v hv)⟩
theorem Fr.atl {w wc : World} {va vb : List Value} (h : Fr w wc va vb) {n s : Nat} {v : Value} {l : List Nd} (hl : AtL w Any n s v l) : AtL wc Any n s v l := hl.below h.bl
theorem Fr.tx {w wc : World} {va vb : List Value} (h : Fr w wc va vb) {v : Value} {l : List ByteArray} (hl : Tx w Any v l) : Strs wc v l := (hl.move (Keeps.of_below h.bl) (fun _ h => h)).strs
/-- What the contract of one of them says. -/
def SameOf (f : FuncId) (n s : Nat) : Prop := ∀ (w : World) (va vb : List Value) (A B : Nd), At w Any n s va A → At w Any n s vb B →
  Calls Tryz.prog f #[.agg va.toArray, .agg vb.toArray] w fun e w' => e = .returned (.bool (Nd.eq A B)) ∧ Below w.heap.size w w'
def SameLOf (f : FuncId) (g : Value) (n s : Nat) : Prop := ∀ (w : World) (v1 v2 : Value) (xs ys : List Nd), AtL w Any n s v1 xs → AtL w Any n s v2 ys →
  Calls Tryz.prog f #[v1, v2, g] w fun e w' => e = .returned (.bool (Nd.eqL xs ys)) ∧ Below w.heap.size w w'

end Go.Proofs.YtjodgnkhociaaaaGreat.Tre

namespace Go.Proofs.YtjodgnkhociaaaaGreat.Tre
open Go.RowKit
set_option linter.unusedVariables false

/-- What a meter holds: nodes, depth, at. -/
structure Mst where
  a : Int
  d : Int
  t : Int
def Mst.enter (s : Mst) : Mst := ⟨wrap64 (s.a + 1), max s.d (wrap64 (s.t + 1)), wrap64 (s.t + 1)⟩
def Mst.leave (s : Mst) : Mst := ⟨s.a, s.d, wrap64 (s.t - 1)⟩
mutual
def Nd.run : Nd → Mst → Mst
  | .mk _ ks => fun s => (Nd.runLL ks s.enter).leave
def Nd.runLL : List (List Nd) → Mst → Mst
  | [] => fun s => s
  | l :: r => fun s => Nd.runLL r (Nd.runL l s)
def Nd.runL : List Nd → Mst → Mst
  | [] => fun s => s
  | x :: r => fun s => Nd.runL r (Nd.run x s)
end
/-- A meter lies in block M. -/
structure Mt (w : World) (M : Nat) (s : Mst) : Prop where
  a : w.cell? ⟨M, 0, none⟩ = some (.int .i64 s.a)
  d : w.cell? ⟨M, 1, none⟩ = some (.int .i64 s.d)
  t : w.cell? ⟨M, 2, none⟩ = some (.int .i64 s.t)
  fa : w.frozen? ⟨M, 0, none⟩ = false
  fd : w.frozen? ⟨M, 1, none⟩ = false
  ft : w.frozen? ⟨M, 2, none⟩ = false
/-- All blocks but M are as they were. -/
structure Save (M : Nat) (w w' : World) : Prop where
  os : w'.os = w.os
  tape : w'.tape = w.tape
  output : w'.output = w.output
  size : w'.heap.size = w.heap.size
  block : ∀ k, k ≠ M → w'.heap[k]? = w.heap[k]?
theorem Save.refl (M : Nat) (w : World) : Save M w w := ⟨rfl, rfl, rfl, rfl, fun _ _ => rfl⟩
theorem Save.trans {M : Nat} {a b c : World} (h : Save M a b) (k : Save M b c) : Save M a c :=
  ⟨k.os.trans h.os, k.tape.trans h.tape, k.output.trans h.output, k.size.trans h.size, fun i hi => (k.block i hi).trans (h.block i hi)⟩
theorem Save.drew {M : Nat} {a w : World} (h : Save M a w) : Save M a w.drew := ⟨h.os, h.tape, h.output, h.size, h.block⟩
theorem Save.set {M : Nat} {a w : World} (h : Save M a w) (j : Nat) (u : Value) : Save M a (w.setCell ⟨M, j, none⟩ u) :=
  h.trans ⟨rfl, rfl, rfl, by simp [World.setCell], fun k hk => Below.heap_setCell _ _ _ _ hk⟩
theorem Save.cell {M : Nat} {w w' : World} (h : Save M w w') {p : Addr} (hp : p.block ≠ M) : w'.cell? p = w.cell? p := World.cell?_of_block (w := w) (h.block p.block hp)
theorem Save.below {M B : Nat} {a w w' : World} (hb : Below B a w) (h : Save M w w') (hM : B ≤ M) : Below B a w' :=
  hb.trans ⟨h.os, h.tape, h.output, Nat.le_of_eq h.size.symm, fun k hk => h.block k (by omega)⟩
theorem Keeps.of_save {K : Nat → Prop} {M : Nat} {w w' : World} (h : Save M w w') (hK : ¬ K M) : Keeps K w w' := fun b o v hb hv => (h.cell (fun e => hK (by rw [← (show b = M from e)]; exact hb))).trans hv

set_option maxHeartbeats 1000000 in
theorem enter_any (M : Nat) (s : Mst) (w : World) (h : Mt w M s) : Calls Tryz.prog 53 #[.pointer (some ⟨M, 0, none⟩)] w fun e w' => e = .returned (.tuple #[]) ∧ Mt w' M s.enter ∧ Save M w w' := by
  obtain ⟨a, d, t⟩ := s
  obtain ⟨h0, h1, h2, f0, f1, f2⟩ := h
  simp only at h0 h1 h2
  go_enter Tryz.func53, Tryz.ntmps53
  go_wp2
  go_region
  go_wp2
  go_end0
  refine ⟨rfl, ⟨?_, ?_, ?_, ?_, ?_, ?_⟩, ((((Save.refl _ _).set _ _).set _ _).set _ _).drew⟩
  all_goals simp [go_sem, h0, h1, h2, f0, f1, f2, Mst.enter]

theorem leave_any (M : Nat) (s : Mst) (w : World) (h : Mt w M s) : Calls Tryz.prog 54 #[.pointer (some ⟨M, 0, none⟩)] w fun e w' => e = .returned (.tuple #[]) ∧ Mt w' M s.leave ∧ Save M w w' := by
  obtain ⟨a, d, t⟩ := s
  obtain ⟨h0, h1, h2, f0, f1, f2⟩ := h
  simp only at h0 h1 h2
  go_enter Tryz.func54, Tryz.ntmps54
  go_wp2
  go_end0
  refine ⟨rfl, ⟨?_, ?_, ?_, ?_, ?_, ?_⟩, (Save.refl _ _).set _ _⟩
  all_goals simp [go_sem, h0, h1, h2, f0, f1, f2, Mst.leave]
end Go.Proofs.YtjodgnkhociaaaaGreat.Tre

namespace Go.Proofs.YtjodgnkhociaaaaGreat.Tre
open Go.RowKit
set_option linter.unusedVariables false

theorem Nd.runL_at {xs : List Nd} {k : Nat} {x : Nd} (hx : xs[k]? = some x) (s : Mst) : Nd.runL (xs.drop k) s = Nd.runL (xs.drop (k + 1)) (x.run s) := by
  obtain ⟨h1, e1⟩ := List.getElem?_eq_some_iff.1 hx
  rw [List.drop_eq_getElem_cons h1, e1, Nd.runL]
/-- What the contract of a method that goes through a node says. -/
def MeterOf (f : FuncId) (n s : Nat) : Prop := ∀ (w : World) (K : Nat → Prop) (M : Nat) (st : Mst) (b o : Nat) (vs : List Value) (nd : Nd), ¬ K M → K b → Cells w b o vs → At w K n s vs nd → Mt w M st →
  Calls Tryz.prog f #[.pointer (some ⟨M, 0, none⟩), .pointer (some ⟨b, o, none⟩)] w fun e w' => e = .returned (.tuple #[]) ∧ Mt w' M (nd.run st) ∧ Save M w w'
def MeterLOf (f : FuncId) (g : FuncId) (n s : Nat) : Prop := ∀ (w : World) (K : Nat → Prop) (M : Nat) (st : Mst) (v : Value) (l : List Nd), ¬ K M → AtL w K n s v l → Mt w M st →
  Calls Tryz.prog f #[v, .func (.func g) #[.pointer (some ⟨M, 0, none⟩)] #[]] w fun e w' => e = .returned (.tuple #[]) ∧ Mt w' M (Nd.runL l st) ∧ Save M w w'

set_option maxHeartbeats 1000000 in
theorem eachM1 (n : Nat) (ih : MeterOf 38 n 1) : MeterLOf 43 38 n 1 := by
  intro w K M st v l hM hv hm
  obtain ⟨a1, c1, e1, hx⟩ := hv.form
  unfold maxLen at hx
  by_cases h0 : l = []
  · subst h0
    subst e1
    clear hv
    go_enter Tryz.func43, Tryz.ntmps43
    go_wp2
    go_loopw [7] (fun v wr => v = .int .i64 0 ∧ wr = w) (fun _ _ => 0)
    case atStart => exact ⟨rfl, rfl⟩
    case round =>
      obtain ⟨rfl, rfl⟩ := hrel
      go_wp2
      go_end0
      exact ⟨rfl, hm, Save.refl _ _⟩
  · clear e1
    obtain ⟨b, o, c, rfl, hb, -, -, hk⟩ := hv.resolve_right (fun h => h0 h.1)
    clear hv h0
    go_enter Tryz.func43, Tryz.ntmps43
    go_wp2
    go_loopw [7] (fun v wr => ∃ (k : Nat) (s1 : Mst), v = .int .i64 k ∧ k ≤ l.length ∧ Hid (Nd.runL l st = Nd.runL (l.drop k) s1) ∧ Mt wr M s1 ∧ Save M w wr) (fun v _ => l.length - (intOf v).toNat)
    case atStart => exact ⟨0, st, rfl, Nat.zero_le _, rfl, hm, Save.refl _ _⟩
    case round =>
      obtain ⟨k, s1, rfl, hkl, hH, hm1, hS⟩ := hrel
      by_cases hlt : k < l.length
      · obtain ⟨x, hxk⟩ : ∃ x, l[k]? = some x := ⟨_, List.getElem?_eq_getElem hlt⟩
        obtain ⟨vs, -, hc, ha⟩ := hk k x hxk
        have HX : Hid (Nd.runL l st = Nd.runL (l.drop (k + 1)) (x.run s1)) := by
          show _ = _
          rw [hH.out, Nd.runL_at hxk]
        have hq := ih wr K M s1 b (o + k * 5) vs x hM hb (hc.move hb (Keeps.of_save hS hM)) (At.move (Keeps.of_save hS hM) (fun _ h => h) _ _ _ _ ha) hm1
        clear hH hk hc ha hxk hm
        go_wp2_with (go_at_call 38; refine hq.mono ?_; rintro e w2 ⟨rfl, hm2, hs2⟩)
        go_roundw
        case rel => exact ⟨k + 1, _, by go_num, by omega, HX, hm2, hS.trans hs2⟩
        case measure => simp [intOf]; omega
      · have HX : Hid (Nd.runL l st = s1) := by
          show _ = _
          rw [hH.out, List.drop_eq_nil_of_le (by omega), Nd.runL]
        clear hH hk
        go_wp2
        go_end0
        exact ⟨rfl, by rw [HX.out]; exact hm1, hS⟩

set_option maxHeartbeats 1000000 in
theorem meter1 (n : Nat) (q1 : MeterLOf 43 38 n 1) : MeterOf 38 (n + 1) 1 := by
  intro w K M st b o vs nd hM hb hc ha hm
  obtain ⟨i0, s1, p2, x2, i3, v0, l0, rfl, rfl, -, -, -, -, k0⟩ := At.pat ha
  clear ha
  have hmf : ∀ (fn : Fn) (first cap : Array Value) (w : World), (Instr.makeFunc fn first cap).run Tryz.prog w = .ok (.func fn first cap) w := fun _ _ _ _ => rfl
  have hbM : b ≠ M := fun e => hM (e ▸ hb)
  have c0 : ∀ w', Save M w w' → w'.cell? ⟨b, o + 4, none⟩ = some v0 := fun w' h' => (h'.cell hbM).trans (hc 4 _ rfl)
  have r0 : Hid (∀ w' s, Save M w w' → Mt w' M s → _) := fun w' s h' => q1 w' K M s v0 l0 hM (k0.move (Keeps.of_save h' hM) (fun _ h => h))
  clear hc k0 q1
  go_enter Tryz.func38, Tryz.ntmps38
  go_wp2_with (first | (go_at_call 54; refine (leave_any M _ _ hm2).mono ?_; rintro e w3 ⟨rfl, hm3, hs3⟩) | (go_at_call 43; refine (r0.out _ _ hs1 hm1).mono ?_; rintro e w2 ⟨rfl, hm2, ht2⟩; have hs2 := hs1.trans ht2; clear ht2) | (go_at_call 53; refine (enter_any M st _ hm).mono ?_; rintro e w1 ⟨rfl, hm1, hs1⟩; have d0 := c0 _ hs1))
  go_end0
  exact ⟨rfl, hm3, hs2.trans hs3⟩

end Go.Proofs.YtjodgnkhociaaaaGreat.Tre

namespace Go.Proofs.YtjodgnkhociaaaaGreat.Tre
open Go.RowKit
set_option linter.unusedVariables false

def Nd.meter (l : List Nd) : Mst := Nd.runL l ⟨0, 0, 0⟩
theorem Mt.start (w : World) (o : Obj) : Mt ((w.alloc o).alloc (.cells #[.int .i64 0, .int .i64 0, .int .i64 0] 162)) (w.heap.size + 1) ⟨0, 0, 0⟩ := by
  refine ⟨?_, ?_, ?_, ?_, ?_, ?_⟩
  all_goals simp [go_sem]
theorem Save.frozen {M : Nat} {w w' : World} (h : Save M w w') {p : Addr} (hp : p.block ≠ M) : w'.frozen? p = w.frozen? p := World.frozen?_of_block (w := w) (h.block p.block hp)

end Go.Proofs.YtjodgnkhociaaaaGreat.Tre

namespace Go.Proofs.YtjodgnkhociaaaaGreat.Tre
open Go.RowKit
set_option linter.unusedVariables false

structure Sh where
  op : Int := 0
  n : Int := 0
  name : ByteArray := ⟨#[]⟩
  path : Int := 0
  params : Int := 0
  pats : Int := 0
  kids : Int := 0
  decs : Int := 0
  tys : Int := 0
  exps : Int := 0
  cons : Int := 0
  mods : Int := 0
  sigs : Int := 0
  specs : Int := 0
deriving DecidableEq
def Sh.val (h : Sh) : Value := .agg #[.int .i64 h.op, .int .i64 h.n, .string h.name, .int .i64 h.path, .int .i64 h.params, .int .i64 h.pats, .int .i64 h.kids, .int .i64 h.decs, .int .i64 h.tys, .int .i64 h.exps, .int .i64 h.cons, .int .i64 h.mods, .int .i64 h.sigs, .int .i64 h.specs]

/-- How a call ends that gives up with an error. -/
def outc (e : Int) : Ending := if e = 0 then .returned (.tuple #[]) else .panicked [{ v := .iface 49 (.int .i64 e), recovered := false }]

theorem outc_zero : outc 0 = .returned (.tuple #[]) := rfl
theorem outc_err {e : Int} (h : e ≠ 0) : outc e = .panicked [{ v := .iface 49 (.int .i64 e), recovered := false }] := by unfold outc; rw [if_neg h]
theorem pn_any (T : TypeId) (v : Value) (w : World) : (Instr.panic (.iface T v)).run Tryz.prog w = .halt (.panic (.iface T v)) w := rfl

set_option maxHeartbeats 1000000 in
set_option maxRecDepth 100000 in
theorem fit_ok (h : Sh) (w : World) : Calls Tryz.prog 55 #[h.val, h.val] w fun e w' => e = .returned (.tuple #[]) ∧ Below w.heap.size w w' := by
  unfold Sh.val
  go_enter Tryz.func55, Tryz.ntmps55
  go_wp2
  go_end0
  exact ⟨rfl, bl_alloc (bl_alloc (Below.refl _ _) _) _⟩

theorem Sh.of_eqs {h g : Sh} (e0 : h.op = g.op) (e1 : h.n = g.n) (e2 : h.name.toList = g.name.toList) (e3 : h.path = g.path) (e4 : h.params = g.params) (e5 : h.pats = g.pats) (e6 : h.kids = g.kids) (e7 : h.decs = g.decs) (e8 : h.tys = g.tys) (e9 : h.exps = g.exps) (e10 : h.cons = g.cons) (e11 : h.mods = g.mods) (e12 : h.sigs = g.sigs) (e13 : h.specs = g.specs) : h = g := by
  have e2' : h.name = g.name := by
    have := Nm.str_eq h.name g.name
    rw [e2, beq_self_eq_true] at this
    exact of_decide_eq_true this.symm
  obtain ⟨a0, a1, a2, a3, a4, a5, a6, a7, a8, a9, a10, a11, a12, a13⟩ := h
  obtain ⟨b0, b1, b2, b3, b4, b5, b6, b7, b8, b9, b10, b11, b12, b13⟩ := g
  simp only at *
  subst e0; subst e1; subst e2'; subst e3; subst e4; subst e5; subst e6; subst e7; subst e8; subst e9; subst e10; subst e11; subst e12; subst e13
  rfl

set_option maxHeartbeats 1000000 in
set_option maxRecDepth 100000 in
theorem fit_bad (hh gg : Sh) (hne : hh ≠ gg) (w : World) : Calls Tryz.prog 55 #[hh.val, gg.val] w fun e w' => e = outc 1 ∧ Below w.heap.size w w' := by
  have H : Hid (hh ≠ gg) := hne
  clear hne
  have hp := pn_any
  unfold Sh.val
  go_enter Tryz.func55, Tryz.ntmps55
  go_wp2
  all_goals first | exact ⟨rfl, rfl, bl_alloc (bl_alloc (Below.refl _ _) _) _⟩ | exact (H.out (Sh.of_eqs (by assumption) (by assumption) (by assumption) (by assumption) (by assumption) (by assumption) (by assumption) (by assumption) (by assumption) (by assumption) (by assumption) (by assumption) (by assumption) (by assumption))).elim

end Go.Proofs.YtjodgnkhociaaaaGreat.Tre

namespace Go.Proofs.YtjodgnkhociaaaaGreat.Tre
open Go.RowKit
set_option linter.unusedVariables false

theorem Nm.empty_of {s : ByteArray} (h : s.size = 0) : s = ⟨#[]⟩ := by
  have e : s.data.toList = [] := List.eq_nil_of_length_eq_zero (by rw [Nm.len]; exact h)
  rw [show s = ⟨s.data⟩ from rfl]; congr 1; exact Array.toList_inj.1 e
theorem Nm.not_empty {s : ByteArray} (h : 0 < s.size) : (s.toList == []) = false := by
  rw [beq_eq_false_iff_ne, Lib.toList_data]
  intro e
  have := Nm.len s
  rw [e] at this
  simp at this; omega

set_option maxHeartbeats 1000000 in
theorem spelt_any (s : ByteArray) (hs : s.size ≤ maxLen) (w : World) : Calls Tryz.prog 91 #[.string s] w fun e w' => e = .returned (.bool (Nm.spelt s)) ∧ w' = w := by
  unfold maxLen at hs
  rcases Nat.eq_zero_or_pos s.size with h0 | h0
  · obtain rfl := Nm.empty_of h0
    go_enter Tryz.func91, Tryz.ntmps91
    go_wp2
    go_ret
    exact ⟨rfl, rfl⟩
  · have he := Nm.not_empty h0
    cases hl0 : Nm.letter (s[0].toNat : Int) with
    | false =>
      have H : Hid (Nm.spelt s = false) := Nm.spelt_head h0 hl0
      go_enter Tryz.func91, Tryz.ntmps91
      go_wp2_with (go_at_call 120; refine (letter_any _ _).mono ?_; rintro e w' ⟨rfl, rfl⟩)
      go_ret
      exact ⟨ret_bool H.out.symm, rfl⟩
    | true =>
      have H : Hid (Nm.spelt s = (s.data.toList.drop 1).all fun b => Nm.body (b.toNat : Int)) := by show _ = _; rw [Nm.spelt_eq s h0, hl0]; rfl
      go_enter Tryz.func91, Tryz.ntmps91
      go_wp2_with (go_at_call 120; refine (letter_any _ _).mono ?_; rintro e w' ⟨rfl, rfl⟩)
      go_loop [3] (fun v => ∃ k : Nat, v = .int .i64 k ∧ 1 ≤ k ∧ k ≤ s.size ∧ Hid (Nm.spelt s = (s.data.toList.drop k).all fun b => Nm.body (b.toNat : Int))) (fun v => s.size - (intOf v).toNat)
      case atStart => exact ⟨1, rfl, Nat.le_refl _, h0, H⟩
      case round =>
        obtain ⟨k, rfl, hk1, hk, hx⟩ := hrel
        clear hl0 H
        by_cases hlt : k < s.size
        · have hx2 := hx.out
          rw [Nm.all_at s _ k hlt] at hx2
          have hbd : Nm.body (s[k].toNat : Int) = (Nm.letter (s[k].toNat : Int) || Nm.dig (s[k].toNat : Int) || decide ((s[k].toNat : Int) = 95)) := rfl
          cases hl : Nm.letter (s[k].toNat : Int) with
          | true =>
            have HX : Hid (Nm.spelt s = (s.data.toList.drop (k + 1)).all fun b => Nm.body (b.toNat : Int)) := by show _ = _; rw [hx2, hbd, hl]; simp
            clear hx hx2 hbd
            go_wp2_with (first | (go_at_call 120; refine (letter_any _ _).mono ?_; rintro e w' ⟨rfl, rfl⟩) | (go_at_call 121; refine (digit_any _ _).mono ?_; rintro e w' ⟨rfl, rfl⟩))
            go_round
            case rel => exact ⟨k + 1, by go_num, by omega, by omega, HX⟩
            case measure => simp [intOf]; omega
          | false =>
            cases hd : Nm.dig (s[k].toNat : Int) with
            | true =>
              have HX : Hid (Nm.spelt s = (s.data.toList.drop (k + 1)).all fun b => Nm.body (b.toNat : Int)) := by show _ = _; rw [hx2, hbd, hl, hd]; simp
              clear hx hx2 hbd
              go_wp2_with (first | (go_at_call 120; refine (letter_any _ _).mono ?_; rintro e w' ⟨rfl, rfl⟩) | (go_at_call 121; refine (digit_any _ _).mono ?_; rintro e w' ⟨rfl, rfl⟩))
              go_round
              case rel => exact ⟨k + 1, by go_num, by omega, by omega, HX⟩
              case measure => simp [intOf]; omega
            | false =>
              by_cases h95 : (s[k].toNat : Int) = 95
              · have HX : Hid (Nm.spelt s = (s.data.toList.drop (k + 1)).all fun b => Nm.body (b.toNat : Int)) := by show _ = _; rw [hx2, hbd, hl, hd]; simp [h95]
                have h95' : ((s[k].toNat : Int) == 95) = true := by rw [h95]; rfl
                clear hx hx2 hbd h95
                go_wp2_with (first | (go_at_call 120; refine (letter_any _ _).mono ?_; rintro e w' ⟨rfl, rfl⟩) | (go_at_call 121; refine (digit_any _ _).mono ?_; rintro e w' ⟨rfl, rfl⟩))
                go_round
                case rel => exact ⟨k + 1, by go_num, by omega, by omega, HX⟩
                case measure => simp [intOf]; omega
              · have HX : Hid (Nm.spelt s = false) := by show _ = _; rw [hx2, hbd, hl, hd]; simp [h95]
                have h95' : ((s[k].toNat : Int) == 95) = false := by rw [beq_eq_false_iff_ne]; exact h95
                clear hx hx2 hbd h95
                go_wp2_with (first | (go_at_call 120; refine (letter_any _ _).mono ?_; rintro e w' ⟨rfl, rfl⟩) | (go_at_call 121; refine (digit_any _ _).mono ?_; rintro e w' ⟨rfl, rfl⟩))
                go_ret
                exact ⟨ret_bool HX.out.symm, rfl⟩
        · have HX : Hid (Nm.spelt s = true) := by show _ = _; rw [hx.out, Nm.all_end s _ k (by omega)]
          clear hx
          go_wp2
          go_ret
          exact ⟨ret_bool HX.out.symm, rfl⟩
end Go.Proofs.YtjodgnkhociaaaaGreat.Tre

namespace Go.Proofs.YtjodgnkhociaaaaGreat.Tre
open Go.RowKit
set_option linter.unusedVariables false

set_option maxRecDepth 100000 in
set_option maxHeartbeats 2000000 in
theorem reserved_any (s : ByteArray) (w : World) : Calls Tryz.prog 92 #[.string s] w fun e w' => e = .returned (.bool (Nm.reserved s)) ∧ w' = w := by
  go_enter Tryz.func92, Tryz.ntmps92
  go_wp2
  all_goals go_ret
  all_goals refine ⟨ret_bool ?_, rfl⟩
  all_goals (unfold Nm.reserved; simp only [Lib.toList_data] at *)
  all_goals (first | (simp_all [Nm.words]; done) | skip)
end Go.Proofs.YtjodgnkhociaaaaGreat.Tre

namespace Go.Proofs.YtjodgnkhociaaaaGreat.Tre
open Go.RowKit
set_option linter.unusedVariables false

theorem Nm.right_spelt {s : ByteArray} (h : Nm.spelt s = false) : Nm.right s = 12 := by unfold Nm.right; rw [if_pos h]
theorem Nm.right_big {s : ByteArray} (h : Nm.spelt s = true) (hb : 32 < s.size) : Nm.right s = 3 := by unfold Nm.right; rw [if_neg (by simp [h]), if_pos hb]
theorem Nm.right_word {s : ByteArray} (h : Nm.spelt s = true) (hb : ¬ 32 < s.size) (hr : Nm.reserved s = true) : Nm.right s = 12 := by unfold Nm.right; rw [if_neg (by simp [h]), if_neg hb, if_pos hr]
theorem Nm.right_ok {s : ByteArray} (h : Nm.spelt s = true) (hb : ¬ 32 < s.size) (hr : Nm.reserved s = false) : Nm.right s = 0 := by unfold Nm.right; rw [if_neg (by simp [h]), if_neg hb, if_neg (by simp [hr])]
theorem Nm.right_zero {s : ByteArray} (h : Nm.right s = 0) : Nm.spelt s = true ∧ s.size ≤ 32 ∧ Nm.reserved s = false := by
  cases h1 : Nm.spelt s with
  | false => rw [Nm.right_spelt h1] at h; omega
  | true =>
    by_cases h2 : 32 < s.size
    · rw [Nm.right_big h1 h2] at h; omega
    · cases h3 : Nm.reserved s with
      | true => rw [Nm.right_word h1 h2 h3] at h; omega
      | false => exact ⟨rfl, by omega, rfl⟩

theorem right_any (s : ByteArray) (hs : s.size ≤ maxLen) (w : World) : Calls Tryz.prog 70 #[.string s] w fun e w' => e = .returned (.int .i64 (Nm.right s)) ∧ w' = w := by
  have hs' := hs
  unfold maxLen at hs'
  cases h1 : Nm.spelt s with
  | false =>
    have H : Hid (Nm.right s = 12) := Nm.right_spelt h1
    go_enter Tryz.func70, Tryz.ntmps70
    go_wp2_with (go_at_call 91; refine (spelt_any _ hs _).mono ?_; rintro e w' ⟨rfl, rfl⟩)
    go_ret
    exact ⟨ret_int H.out.symm, rfl⟩
  | true =>
    by_cases h2 : 32 < s.size
    · have H : Hid (Nm.right s = 3) := Nm.right_big h1 h2
      go_enter Tryz.func70, Tryz.ntmps70
      go_wp2_with (go_at_call 91; refine (spelt_any _ hs _).mono ?_; rintro e w' ⟨rfl, rfl⟩)
      go_ret
      exact ⟨ret_int H.out.symm, rfl⟩
    · cases h3 : Nm.reserved s with
      | true =>
        have H : Hid (Nm.right s = 12) := Nm.right_word h1 h2 h3
        go_enter Tryz.func70, Tryz.ntmps70
        go_wp2_with (first | (go_at_call 91; refine (spelt_any _ hs _).mono ?_; rintro e w' ⟨rfl, rfl⟩) | (go_at_call 92; refine (reserved_any _ _).mono ?_; rintro e w' ⟨rfl, rfl⟩))
        go_ret
        exact ⟨ret_int H.out.symm, rfl⟩
      | false =>
        have H : Hid (Nm.right s = 0) := Nm.right_ok h1 h2 h3
        go_enter Tryz.func70, Tryz.ntmps70
        go_wp2_with (first | (go_at_call 91; refine (spelt_any _ hs _).mono ?_; rintro e w' ⟨rfl, rfl⟩) | (go_at_call 92; refine (reserved_any _ _).mono ?_; rintro e w' ⟨rfl, rfl⟩))
        go_ret
        exact ⟨ret_int H.out.symm, rfl⟩

theorem lower_any (s : ByteArray) (hs : s.size ≤ maxLen) (w : World) : Calls Tryz.prog 57 #[.string s] w fun e w' => e = .returned (.bool (Nm.lower s)) ∧ w' = w := by
  by_cases h : Nm.right s = 0
  · have h0 := Nm.spelt_pos (Nm.right_zero h).1
    have hs' := hs
    unfold maxLen at hs'
    have H : Hid (Nm.lower s = Nm.low (s[0].toNat : Int)) := by show _ = _; unfold Nm.lower; rw [Nm.head_eq s h0, decide_eq_true h]; rfl
    have hr : (Nm.right s == 0) = true := by rw [h]; rfl
    clear h
    go_enter Tryz.func57, Tryz.ntmps57
    go_wp2_with (first | (go_at_call 70; refine (right_any _ hs _).mono ?_; rintro e w' ⟨rfl, rfl⟩) | (go_at_call 71; refine (small_any _ _).mono ?_; rintro e w' ⟨rfl, rfl⟩))
    go_ret
    exact ⟨ret_bool H.out.symm, rfl⟩
  · have H : Hid (Nm.lower s = false) := by show _ = _; unfold Nm.lower; rw [decide_eq_false h]; rfl
    have hr : (Nm.right s == 0) = false := by rw [beq_eq_false_iff_ne]; exact h
    clear h
    go_enter Tryz.func57, Tryz.ntmps57
    go_wp2_with (first | (go_at_call 70; refine (right_any _ hs _).mono ?_; rintro e w' ⟨rfl, rfl⟩) | (go_at_call 71; refine (small_any _ _).mono ?_; rintro e w' ⟨rfl, rfl⟩))
    go_ret
    exact ⟨ret_bool H.out.symm, rfl⟩

theorem upper_any (s : ByteArray) (hs : s.size ≤ maxLen) (w : World) : Calls Tryz.prog 59 #[.string s] w fun e w' => e = .returned (.bool (Nm.upper s)) ∧ w' = w := by
  by_cases h : Nm.right s = 0
  · have h0 := Nm.spelt_pos (Nm.right_zero h).1
    have hs' := hs
    unfold maxLen at hs'
    have H : Hid (Nm.upper s = Nm.high (s[0].toNat : Int)) := by show _ = _; unfold Nm.upper; rw [Nm.head_eq s h0, decide_eq_true h]; rfl
    have hr : (Nm.right s == 0) = true := by rw [h]; rfl
    clear h
    go_enter Tryz.func59, Tryz.ntmps59
    go_wp2_with (first | (go_at_call 70; refine (right_any _ hs _).mono ?_; rintro e w' ⟨rfl, rfl⟩) | (go_at_call 73; refine (capital_any _ _).mono ?_; rintro e w' ⟨rfl, rfl⟩))
    go_ret
    exact ⟨ret_bool H.out.symm, rfl⟩
  · have H : Hid (Nm.upper s = false) := by show _ = _; unfold Nm.upper; rw [decide_eq_false h]; rfl
    have hr : (Nm.right s == 0) = false := by rw [beq_eq_false_iff_ne]; exact h
    clear h
    go_enter Tryz.func59, Tryz.ntmps59
    go_wp2_with (first | (go_at_call 70; refine (right_any _ hs _).mono ?_; rintro e w' ⟨rfl, rfl⟩) | (go_at_call 73; refine (capital_any _ _).mono ?_; rintro e w' ⟨rfl, rfl⟩))
    go_ret
    exact ⟨ret_bool H.out.symm, rfl⟩

end Go.Proofs.YtjodgnkhociaaaaGreat.Tre
