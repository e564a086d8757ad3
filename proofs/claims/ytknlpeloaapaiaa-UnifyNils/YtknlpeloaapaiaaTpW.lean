/- walk: going through a type's nodes with whatever looks at them. -/
import Derived.WalkSpells
import Derived.Lib.Walk
import Derived.Deep.QuietTactic
import Derived.Deep.RegionWith
import Derived.Test.YtknlpeloaapaiaaProg
import Derived.Test.YtknlpeloaapaiaaTpA
namespace Go.Proofs.Ytknlpeloaapaiaa
open Go.RowKit
set_option linter.unusedVariables false

def Enters (f : FuncId) : Prop := ∀ (args : Array Value) (w : World), (callFunc f args).run Try.prog w = .ok (.enter f args) w
theorem enters_of {f : FuncId} {fn : Func} {c : Code} (hf : Try.prog.funcs[f]? = some fn) (hname : (fn.name == "runtime.NumGoroutine") = false) (hb : fn.body = some c) : Enters f := by
  intro args w
  have h1 : ¬ fn.name = "runtime.NumGoroutine" := fun e => by rw [e] at hname; simp at hname
  simp [callFunc, hf, h1, hb]
theorem ret_bool {a b : Bool} (h : a = b) : Ending.returned (.bool a) = .returned (.bool b) := by rw [h]
theorem ret_int {a b : Int} (h : a = b) : Ending.returned (.int .i64 a) = .returned (.int .i64 b) := by rw [h]
/-- What is kept in memory stays while nothing that was there turns, and lies there. -/
structure Steady {S : Type} (I : S → (Nat → Prop) → World → Prop) : Prop where
  stays : ∀ s own w w', I s own w → Below w.heap.size w w' → I s own w'
  lt : ∀ s own w b, I s own w → own b → b < w.heap.size
def SeeOf {S : Type} (g : FuncId) (fs : Array Value) (f : S → Tp → S × Bool × Bool) (I : S → (Nat → Prop) → World → Prop) (o0 : Nat → Prop) (w0 : World) (n : Nat) : Prop :=
  ∀ (w : World) (own : Nat → Prop) (s : S) (vs : List Value) (t : Tp), I s own w → Ev o0 w0 own w → TAt w0 (Free o0 w0) n vs t →
    Calls Try.prog g (fs ++ #[.agg vs.toArray]) w fun e w' => e = .returned (.tuple #[.bool (f s t).2.1, .bool (f s t).2.2]) ∧ ∃ own', I (f s t).1 own' w' ∧ Ev own w own' w'
def WalkOf {S : Type} (g : FuncId) (fs : Array Value) (f : S → Tp → S × Bool × Bool) (I : S → (Nat → Prop) → World → Prop) (o0 : Nat → Prop) (w0 : World) (n : Nat) : Prop :=
  ∀ (w : World) (own : Nat → Prop) (s : S) (vs : List Value) (t : Tp), I s own w → Ev o0 w0 own w → TAt w0 (Free o0 w0) n vs t →
    Calls Try.prog 38 #[.agg vs.toArray, .func (.func g) fs #[]] w fun e w' => e = .returned (.bool (Tp.walk f t s).2) ∧ ∃ own', I (Tp.walk f t s).1 own' w' ∧ Ev own w own' w'

theorem Tp.walkL_at {S : Type} {f : S → Tp → S × Bool × Bool} {xs : List Tp} {k : Nat} {x : Tp} (hx : xs[k]? = some x) (s : S) : Tp.walkL f (xs.drop k) s = bif (Tp.walk f x s).2 then Tp.walkL f (xs.drop (k + 1)) (Tp.walk f x s).1 else ((Tp.walk f x s).1, false) := by
  obtain ⟨h1, e1⟩ := List.getElem?_eq_some_iff.1 hx
  rw [List.drop_eq_getElem_cons h1, e1, Tp.walkL_cons]

set_option maxHeartbeats 2000000 in
set_option maxRecDepth 100000 in
theorem walk_step {S : Type} (g : FuncId) (fs : Array Value) (f : S → Tp → S × Bool × Bool) (I : S → (Nat → Prop) → World → Prop) (o0 : Nat → Prop) (w0 : World) (n : Nat) (st : Steady I) (en : Enters g) (see : SeeOf g fs f I o0 w0 (n + 1)) (ih : WalkOf g fs f I o0 w0 n) : WalkOf g fs f I o0 w0 (n + 1) := by
  intro w own s vs t hI hE hT
  unfold Enters at en
  obtain ⟨v, rfl, hk, hn, hL⟩ := hT.open_
  have hwalk : Hid (Tp.walk f t s = bif (f s t).2.2 && (f s t).2.1 then Tp.walkL f t.ks (f s t).1 else ((f s t).1, (f s t).2.2)) := by
    obtain ⟨k, m, ks⟩ := t
    exact Tp.walk_mk f k m ks s
  have HS : Hid (∀ o, Calls Try.prog g (fs ++ #[.agg #[.int .i64 t.k, .int .i64 t.n, v]]) (w.alloc o) fun e w' => e = .returned (.tuple #[.bool (f s t).2.1, .bool (f s t).2.2]) ∧ ∃ own', I (f s t).1 own' w' ∧ Ev own (w.alloc o) own' w') :=
    fun o => see (w.alloc o) own s _ t (st.stays _ _ _ _ hI (bl_alloc (Below.refl _ _) o)) (hE.alloc o) hT
  have hown : Hid (¬ own w.heap.size) := fun h => by have := st.lt _ _ _ _ hI h; omega
  have HE : Hid (Ev o0 w0 own w) := hE
  clear see hT hI hE hk hn
  generalize hq : f s t = q at HS hwalk
  obtain ⟨s1, into, on⟩ := q
  clear hq
  simp only at HS hwalk
  obtain ⟨a1, c1, e1, hx⟩ := TAtL.form hL
  subst e1
  unfold maxLen at hx
  have go : ∀ (b : Bool) (w' : World) (own' : Nat → Prop) (s' : S), Tp.walk f t s = (s', b) → I s' own' w' → Ev own w own' w' → (Ending.returned (.bool b) = .returned (.bool (Tp.walk f t s).2) ∧ ∃ own', I (Tp.walk f t s).1 own' w' ∧ Ev own w own' w') := by
    intro b w' own' s' e h1 h2
    rw [e]
    exact ⟨rfl, _, h1, h2⟩
  have GO : Hid _ := go
  clear go
  cases on with
  | false =>
    simp only [Bool.false_and, cond_false] at hwalk
    go_enter Try.func38, Try.ntmps38
    go_wp2_with (refine (HS.out _).mono ?_; rintro e w2 ⟨rfl, own2, hI2, hE2⟩)
    go_ret
    exact GO.out _ _ _ _ hwalk.out hI2 (((Ev.refl _ _).alloc _).trans hE2)
  | true =>
    cases into with
    | false =>
      simp only [Bool.and_false, cond_false] at hwalk
      go_enter Try.func38, Try.ntmps38
      go_wp2_with (refine (HS.out _).mono ?_; rintro e w2 ⟨rfl, own2, hI2, hE2⟩)
      go_ret
      exact GO.out _ _ _ _ hwalk.out hI2 (((Ev.refl _ _).alloc _).trans hE2)
    | true =>
      simp only [Bool.and_self, cond_true] at hwalk
      go_enter Try.func38, Try.ntmps38
      go_wp2_with (refine (HS.out _).mono ?_; rintro e w2 ⟨rfl, own2, hI2, hE2⟩; have hc2 := (hE2.cell (p := ⟨w.heap.size, 2, none⟩) (show w.heap.size < _ by simp) hown.out).trans (show _ = some (.slice a1 t.ks.length c1) by simp [go_sem]))
      have hE3 : Ev own w own2 w2 := ((Ev.refl _ _).alloc _).trans hE2
      clear hE2 hc2 HS
      go_loopw [25] (fun v wr => ∃ (k : Nat) (s' : S) (own' : Nat → Prop), v = .int .i64 k ∧ k ≤ t.ks.length ∧ Hid (Tp.walk f t s = Tp.walkL f (t.ks.drop k) s') ∧ I s' own' wr ∧ Ev own w own' wr) (fun v _ => t.ks.length - (intOf v).toNat)
      case atStart => exact ⟨0, s1, own2, rfl, Nat.zero_le _, hwalk, hI2, hE3⟩
      case round =>
        obtain ⟨k, s', own', rfl, hkl, hH, hI', hE'⟩ := hrel
        clear hI2 hE3 hwalk
        by_cases hlt : k < t.ks.length
        · obtain ⟨b, o, rfl⟩ : ∃ b o, a1 = some ⟨b, o, none⟩ := by
            rcases hL with ⟨b, o, c, hv, -⟩ | ⟨h0, -⟩
            · injection hv with e1 e2 e3; exact ⟨b, o, e1⟩
            · rw [h0] at hlt; exact absurd hlt (Nat.not_lt_zero _)
          obtain ⟨x, hxk⟩ : ∃ x, t.ks[k]? = some x := ⟨_, List.getElem?_eq_getElem hlt⟩
          obtain ⟨vx, tx, x0, x1, x2, hF, hb⟩ := hL.elem hxk
          have hEE : Ev o0 w0 own' wr := HE.out.trans hE'
          have y0 := hEE.keeps _ _ _ hF x0
          have y1 := hEE.keeps _ _ _ hF x1
          have y2 := hEE.keeps _ _ _ hF x2
          have HQ : Hid (∀ oo, Calls Try.prog 38 #[.agg #[.int .i64 x.k, .int .i64 x.n, vx], .func (.func g) fs #[]] (wr.alloc oo) fun e w' => e = .returned (.bool (Tp.walk f x s').2) ∧ ∃ own'', I (Tp.walk f x s').1 own'' w' ∧ Ev own' (wr.alloc oo) own'' w') :=
            fun oo => ih (wr.alloc oo) own' s' _ x (st.stays _ _ _ _ hI' (bl_alloc (Below.refl _ _) oo)) (hEE.alloc oo) tx
          have HX : Hid (Tp.walk f t s = bif (Tp.walk f x s').2 then Tp.walkL f (t.ks.drop (k + 1)) (Tp.walk f x s').1 else ((Tp.walk f x s').1, false)) := hH.out.trans (Tp.walkL_at hxk s')
          obtain ⟨ax, cx, ex⟩ := tx.form
          simp only [List.cons.injEq, and_true, true_and] at ex
          subst ex
          clear hL ih hH hI' hEE hxk tx x0 x1 x2 hF hb
          generalize Tp.walk f x s' = q at HQ HX
          obtain ⟨s2, on⟩ := q
          simp only at HQ HX
          cases on with
          | true =>
            simp only [cond_true] at HX
            go_wp2_with (go_at_call 38; refine (HQ.out _).mono ?_; rintro e w3 ⟨rfl, own3, hI3, hE3⟩)
            go_roundw
            case rel => exact ⟨k + 1, s2, own3, by go_num, by omega, HX, hI3, (hE'.alloc _).trans hE3⟩
            case measure => simp [intOf]; omega
          | false =>
            simp only [cond_false] at HX
            go_wp2_with (go_at_call 38; refine (HQ.out _).mono ?_; rintro e w3 ⟨rfl, own3, hI3, hE3⟩)
            go_ret
            exact GO.out _ _ _ _ HX.out hI3 ((hE'.alloc _).trans hE3)
        · have HX : Hid (Tp.walk f t s = (s', true)) := by
            show _ = _
            rw [hH.out, List.drop_eq_nil_of_le (by omega)]; exact Tp.walkL_nil f s'
          clear hH ih hL
          go_wp2
          go_ret
          exact GO.out _ _ _ _ HX.out hI' hE'

theorem walk_any {S : Type} (g : FuncId) (fs : Array Value) (f : S → Tp → S × Bool × Bool) (I : S → (Nat → Prop) → World → Prop) (o0 : Nat → Prop) (w0 : World) (st : Steady I) (en : Enters g) (see : ∀ n, SeeOf g fs f I o0 w0 n) : ∀ n, WalkOf g fs f I o0 w0 n
  | 0 => fun w own s vs t _ _ hT => hT.elim
  | n + 1 => walk_step g fs f I o0 w0 n st en (see (n + 1)) (walk_any g fs f I o0 w0 st en see n)
end Go.Proofs.Ytknlpeloaapaiaa
