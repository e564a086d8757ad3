/- walk, where what looks at the nodes grows by one a node at most, and may not grow beyond L. The gatherer: the numbers of the nodes of a kind, each once. -/
import Derived.Maps.OwnSet
import Derived.Deep.RegionHeld
import Derived.Test.YtjodgnkhociaaaaGreatQaa
import Derived.Test.YtjodgnkhociaaaaGreatQad
import Derived.Test.YtjodgnkhociaaaaGreatQab
namespace Go.Proofs.YtjodgnkhociaaaaGreat
open Go.RowKit
set_option linter.unusedVariables false

def SeeOfB {S : Type} (sz : S → Nat) (L : Nat) (g : FuncId) (fs : Array Value) (f : S → Tp → S × Bool × Bool) (I : S → (Nat → Prop) → World → Prop) (o0 : Nat → Prop) (w0 : World) (n : Nat) : Prop :=
  ∀ (w : World) (own : Nat → Prop) (s : S) (vs : List Value) (t : Tp), I s own w → Ev o0 w0 own w → TAt w0 (Free o0 w0) n vs t → sz s < L →
    Calls Tryz.prog g (fs ++ #[.agg vs.toArray]) w fun e w' => e = .returned (.tuple #[.bool (f s t).2.1, .bool (f s t).2.2]) ∧ ∃ own', I (f s t).1 own' w' ∧ Ev own w own' w'
def WalkOfB {S : Type} (sz : S → Nat) (L : Nat) (g : FuncId) (fs : Array Value) (f : S → Tp → S × Bool × Bool) (I : S → (Nat → Prop) → World → Prop) (o0 : Nat → Prop) (w0 : World) (n : Nat) : Prop :=
  ∀ (w : World) (own : Nat → Prop) (s : S) (vs : List Value) (t : Tp), I s own w → Ev o0 w0 own w → TAt w0 (Free o0 w0) n vs t → sz s + t.cnt ≤ L →
    Calls Tryz.prog 172 #[.agg vs.toArray, .func (.func g) fs #[]] w fun e w' => e = .returned (.bool (Tp.walk f t s).2) ∧ ∃ own', I (Tp.walk f t s).1 own' w' ∧ Ev own w own' w'
theorem Tp.cnt_ksB (t : Tp) : t.cnt = Tp.cntL t.ks + 1 := by cases t; rw [Tp.cnt]; rfl
theorem Tp.cntL_dropB {l : List Tp} {k : Nat} {x : Tp} (hx : l[k]? = some x) : Tp.cntL (l.drop k) = x.cnt + Tp.cntL (l.drop (k + 1)) := by
  obtain ⟨h1, e1⟩ := List.getElem?_eq_some_iff.1 hx
  rw [List.drop_eq_getElem_cons h1, e1, Tp.cntL]
mutual
theorem Tp.walk_sz {S : Type} {sz : S → Nat} {f : S → Tp → S × Bool × Bool} (hf : ∀ s t, sz (f s t).1 ≤ sz s + 1) : ∀ (t : Tp) (s : S), sz (Tp.walk f t s).1 ≤ sz s + t.cnt
  | .mk k n ks, s => by
    rw [Tp.walk_mk, Tp.cnt]
    have h1 := hf s (.mk k n ks)
    cases (f s (.mk k n ks)).2.2 && (f s (.mk k n ks)).2.1 with
    | true => have h2 := Tp.walkL_sz hf ks (f s (.mk k n ks)).1; simp only [cond_true]; omega
    | false => simp only [cond_false]; omega
theorem Tp.walkL_sz {S : Type} {sz : S → Nat} {f : S → Tp → S × Bool × Bool} (hf : ∀ s t, sz (f s t).1 ≤ sz s + 1) : ∀ (l : List Tp) (s : S), sz (Tp.walkL f l s).1 ≤ sz s + Tp.cntL l
  | [], s => by rw [Tp.walkL_nil]; exact Nat.le_add_right _ _
  | x :: r, s => by
    rw [Tp.walkL_cons, Tp.cntL]
    have h1 := Tp.walk_sz hf x s
    cases (Tp.walk f x s).2 with
    | true => have h2 := Tp.walkL_sz hf r (Tp.walk f x s).1; simp only [cond_true]; omega
    | false => simp only [cond_false]; omega
end

set_option maxHeartbeats 2000000 in
set_option maxRecDepth 100000 in
theorem walk_stepB {S : Type} (sz : S → Nat) (L : Nat) (g : FuncId) (fs : Array Value) (f : S → Tp → S × Bool × Bool) (I : S → (Nat → Prop) → World → Prop) (o0 : Nat → Prop) (w0 : World) (n : Nat) (hf : ∀ s t, sz (f s t).1 ≤ sz s + 1) (st : Steady I) (en : Enters g) (see : SeeOfB sz L g fs f I o0 w0 (n + 1)) (ih : WalkOfB sz L g fs f I o0 w0 n) : WalkOfB sz L g fs f I o0 w0 (n + 1) := by
  intro w own s vs t hI hE hT hc
  have hz1 : sz (f s t).1 + Tp.cntL t.ks ≤ L := by have := hf s t; rw [Tp.cnt_ksB t] at hc; omega
  have hz0 : sz s < L := by rw [Tp.cnt_ksB t] at hc; omega
  clear hc
  unfold Enters at en
  obtain ⟨v, rfl, hk, hn, hL⟩ := hT.open_
  have hwalk : Hid (Tp.walk f t s = bif (f s t).2.2 && (f s t).2.1 then Tp.walkL f t.ks (f s t).1 else ((f s t).1, (f s t).2.2)) := by
    obtain ⟨k, m, ks⟩ := t
    exact Tp.walk_mk f k m ks s
  have HS : Hid (∀ o, Calls Tryz.prog g (fs ++ #[.agg #[.int .i64 t.k, .int .i64 t.n, v]]) (w.alloc o) fun e w' => e = .returned (.tuple #[.bool (f s t).2.1, .bool (f s t).2.2]) ∧ ∃ own', I (f s t).1 own' w' ∧ Ev own (w.alloc o) own' w') :=
    fun o => see (w.alloc o) own s _ t (st.stays _ _ _ _ hI (bl_alloc (Below.refl _ _) o)) (hE.alloc o) hT hz0
  have hown : Hid (¬ own w.heap.size) := fun h => by have := st.lt _ _ _ _ hI h; omega
  have HE : Hid (Ev o0 w0 own w) := hE
  clear see hT hI hE hk hn hz0
  have HZ1 : Hid (sz (f s t).1 + Tp.cntL t.ks ≤ L) := hz1
  clear hz1
  have HF : Hid (∀ s t, sz (f s t).1 ≤ sz s + 1) := hf
  clear hf
  generalize hq : f s t = q at HS hwalk HZ1
  obtain ⟨s1, into, on⟩ := q
  clear hq
  simp only at HS hwalk HZ1
  obtain ⟨a1, c1, e1, hx⟩ := TAtL.form hL
  subst e1
  unfold maxLen at hx
  have go : ∀ (b : Bool) (w' : World) (own' : Nat → Prop) (s' : S), Tp.walk f t s = (s', b) → I s' own' w' → Ev own w own' w' → (Ending.returned (.bool b) = .returned (.bool (Tp.walk f t s).2) ∧ ∃ own', I (Tp.walk f t s).1 own' w' ∧ Ev own w own' w') := by
    intro b w' own' s' e h1 h2
    rw [e]
    exact ⟨rfl, _, h1, h2⟩
  have GO : Hid _ := go
  clear go
  cases on with
  | false =>
    simp only [Bool.false_and, cond_false] at hwalk
    go_enter Tryz.func172, Tryz.ntmps172
    go_wp2_with (refine (HS.out _).mono ?_; rintro e w2 ⟨rfl, own2, hI2, hE2⟩)
    go_ret
    exact GO.out _ _ _ _ hwalk.out hI2 (((Ev.refl _ _).alloc _).trans hE2)
  | true =>
    cases into with
    | false =>
      simp only [Bool.and_false, cond_false] at hwalk
      go_enter Tryz.func172, Tryz.ntmps172
      go_wp2_with (refine (HS.out _).mono ?_; rintro e w2 ⟨rfl, own2, hI2, hE2⟩)
      go_ret
      exact GO.out _ _ _ _ hwalk.out hI2 (((Ev.refl _ _).alloc _).trans hE2)
    | true =>
      simp only [Bool.and_self, cond_true] at hwalk
      go_enter Tryz.func172, Tryz.ntmps172
      go_wp2_with (refine (HS.out _).mono ?_; rintro e w2 ⟨rfl, own2, hI2, hE2⟩; have hc2 := (hE2.cell (p := ⟨w.heap.size, 2, none⟩) (show w.heap.size < _ by simp) hown.out).trans (show _ = some (.slice a1 t.ks.length c1) by simp [go_sem]))
      have hE3 : Ev own w own2 w2 := ((Ev.refl _ _).alloc _).trans hE2
      clear hE2 hc2 HS
      go_loopw [25] (fun v wr => ∃ (k : Nat) (s' : S) (own' : Nat → Prop), v = .int .i64 k ∧ k ≤ t.ks.length ∧ Hid (Tp.walk f t s = Tp.walkL f (t.ks.drop k) s') ∧ Hid (sz s' + Tp.cntL (t.ks.drop k) ≤ L) ∧ I s' own' wr ∧ Ev own w own' wr) (fun v _ => t.ks.length - (intOf v).toNat)
      case atStart => exact ⟨0, s1, own2, rfl, Nat.zero_le _, hwalk, HZ1, hI2, hE3⟩
      case round =>
        obtain ⟨k, s', own', rfl, hkl, hH, HZ, hI', hE'⟩ := hrel
        clear hI2 hE3 hwalk HZ1
        by_cases hlt : k < t.ks.length
        · obtain ⟨b, o, rfl⟩ : ∃ b o, a1 = some ⟨b, o, none⟩ := by
            rcases hL with ⟨b, o, c, hv, -⟩ | ⟨h0, -⟩
            · injection hv with e1 e2 e3; exact ⟨b, o, e1⟩
            · rw [h0] at hlt; exact absurd hlt (Nat.not_lt_zero _)
          obtain ⟨x, hxk⟩ : ∃ x, t.ks[k]? = some x := ⟨_, List.getElem?_eq_getElem hlt⟩
          obtain ⟨vx, tx, x0, x1, x2, hF, hb⟩ := hL.elem hxk
          have hEE : Ev o0 w0 own' wr := HE.out.trans hE'
          have y0 := hEE.keeps _ _ _ hF x0
          have y1 := hEE.keeps _ _ _ hF x1
          have y2 := hEE.keeps _ _ _ hF x2
          have HQ : Hid (∀ oo, Calls Tryz.prog 172 #[.agg #[.int .i64 x.k, .int .i64 x.n, vx], .func (.func g) fs #[]] (wr.alloc oo) fun e w' => e = .returned (.bool (Tp.walk f x s').2) ∧ ∃ own'', I (Tp.walk f x s').1 own'' w' ∧ Ev own' (wr.alloc oo) own'' w') :=
            fun oo => ih (wr.alloc oo) own' s' _ x (st.stays _ _ _ _ hI' (bl_alloc (Below.refl _ _) oo)) (hEE.alloc oo) tx (by have h := HZ.out; rw [Tp.cntL_dropB hxk] at h; omega)
          have HY : Hid (sz (Tp.walk f x s').1 + Tp.cntL (t.ks.drop (k + 1)) ≤ L) := by show _ ≤ _; have h := HZ.out; rw [Tp.cntL_dropB hxk] at h; have := Tp.walk_sz HF.out x s'; omega
          have HX : Hid (Tp.walk f t s = bif (Tp.walk f x s').2 then Tp.walkL f (t.ks.drop (k + 1)) (Tp.walk f x s').1 else ((Tp.walk f x s').1, false)) := hH.out.trans (Tp.walkL_at hxk s')
          obtain ⟨ax, cx, ex⟩ := tx.form
          simp only [List.cons.injEq, and_true, true_and] at ex
          subst ex
          clear HZ hL ih hH hI' hEE hxk tx x0 x1 x2 hF hb
          generalize Tp.walk f x s' = q at HQ HX HY
          obtain ⟨s2, on⟩ := q
          simp only at HQ HX HY
          cases on with
          | true =>
            simp only [cond_true] at HX
            go_wp2_with (go_at_call 172; refine (HQ.out _).mono ?_; rintro e w3 ⟨rfl, own3, hI3, hE3⟩)
            go_roundw
            case rel => exact ⟨k + 1, s2, own3, by go_num, by omega, HX, HY, hI3, (hE'.alloc _).trans hE3⟩
            case measure => simp [intOf]; omega
          | false =>
            simp only [cond_false] at HX
            go_wp2_with (go_at_call 172; refine (HQ.out _).mono ?_; rintro e w3 ⟨rfl, own3, hI3, hE3⟩)
            go_ret
            exact GO.out _ _ _ _ HX.out hI3 ((hE'.alloc _).trans hE3)
        · have HX : Hid (Tp.walk f t s = (s', true)) := by
            show _ = _
            rw [hH.out, List.drop_eq_nil_of_le (by omega)]; exact Tp.walkL_nil f s'
          clear hH ih hL
          go_wp2
          go_ret
          exact GO.out _ _ _ _ HX.out hI' hE'

theorem walk_anyB {S : Type} (sz : S → Nat) (L : Nat) (g : FuncId) (fs : Array Value) (f : S → Tp → S × Bool × Bool) (I : S → (Nat → Prop) → World → Prop) (o0 : Nat → Prop) (w0 : World) (hf : ∀ s t, sz (f s t).1 ≤ sz s + 1) (st : Steady I) (en : Enters g) (see : ∀ n, SeeOfB sz L g fs f I o0 w0 n) : ∀ n, WalkOfB sz L g fs f I o0 w0 n
  | 0 => fun w own s vs t _ _ hT _ => hT.elim
  | n + 1 => walk_stepB sz L g fs f I o0 w0 n hf st en (see (n + 1)) (walk_anyB sz L g fs f I o0 w0 hf st en see n)
end Go.Proofs.YtjodgnkhociaaaaGreat

namespace Go.Proofs.YtjodgnkhociaaaaGreat
open Go.RowKit
set_option linter.unusedVariables false
set_option linter.unusedSimpArgs false

theorem int_key : Maps.Keyed Tryz.prog 3 := Maps.int_keyed Tryz.underlying3
theorem zero_unit (w : World) : (zeroValue 351).run Tryz.prog w = .ok (.agg #[]) w := by kernel_rfl
def Told (w : World) (C n : Nat) (s : List Int) : Prop := ∃ D : DataW Unit, w.ownsMap Tryz.prog 3 unitElem C n D ∧ Maps.IsMap D ∧ ∀ x : Int, Maps.has D (.int .i64 x) = decide (x ∈ s)
/-- The gatherer in block M, its map in block C. -/
structure Gth (M C : Nat) (kind : Int) (lv : Value) (s : List Int) (w : World) : Prop where
  b : Arr w M 334 [.int .i64 kind, lv, .map (some C)]
  own : w.ownsRow (M + 1) 3 1 lv s.length (s.map (.int .i64))
  told : Told w C s.length s
  lt : C < M
theorem Told.stays {w w' : World} {C n : Nat} {s : List Int} (h : Told w C n s) (hb : Below w.heap.size w w') : Told w' C n s := by
  obtain ⟨D, h1, h2, h3⟩ := h
  exact ⟨D, h1.kept (row := none) ⟨hb.os, hb.tape, hb.output, hb.size, fun b hb2 _ => hb.block b hb2⟩ (by simp), h2, h3⟩
theorem Gth.stays {M C : Nat} {kind : Int} {lv : Value} {s : List Int} {w w' : World} (h : Gth M C kind lv s w) (hb : Below w.heap.size w w') : Gth M C kind lv s w' := ⟨h.b.stays hb, own_stays h.own hb, h.told.stays hb, h.lt⟩
theorem keylit (x : Int) : WideAt.IsKeyLit (.int .i64 x) := by simp [WideAt.IsKeyLit]
/-- Is it there? -/
theorem Told.look {w : World} {C n : Nat} {s : List Int} (h : Told w C n s) (x : Int) (hx : R64 x) : (Instr.lookup 332 (.map (some C)) (.int .i64 x) true).run Tryz.prog w = .ok (.tuple #[.agg #[], .bool (decide (x ∈ s))]) w := by
  obtain ⟨D, h1, h2, h3⟩ := h
  have hw : (Lit.int .i64 x).wf = true := by obtain ⟨a, b⟩ := hx; simp [Lit.wf, IntKind.min, IntKind.max, IntKind.signed, IntKind.bits]; omega
  obtain ⟨v, ps, hr, hv⟩ := h1.look_ok int_key Tryz.underlying332 (zero_unit w) unitElem_mk (Maps.keyOf_int_mk Tryz.underlying3 hw)
  obtain ⟨rfl, -⟩ := unitElem_inv hv
  rw [hr, h3]
theorem Told.put {w : World} {C n : Nat} {s : List Int} (h : Told w C n s) (x : Int) (hx : R64 x) (hn : n < maxLen) : ∃ w', (Instr.mapUpdate 332 (.map (some C)) (.int .i64 x) (.agg #[])).run Tryz.prog w = .ok () w' ∧ Told w' C (n + 1) (s ++ [x]) ∧ w.grownBy w' (some C) := by
  obtain ⟨D, h1, h2, h3⟩ := h
  have hw : (Lit.int .i64 x).wf = true := by obtain ⟨a, b⟩ := hx; simp [Lit.wf, IntKind.min, IntKind.max, IntKind.signed, IntKind.bits]; omega
  obtain ⟨w', hr, h4, h5⟩ := h1.store int_key Tryz.underlying332 hn (Maps.keyOf_int_mk Tryz.underlying3 hw) unitElem_mk
  refine ⟨w', hr, ⟨_, h4, h4.isMap, fun y => ?_⟩, h5.grown⟩
  by_cases e : y = x
  · subst e
    rw [Maps.has_put_same h2 (keylit y)]
    simp
  · rw [Maps.has_put_other (fun h => e (by injection h)), h3]
    simp [e]
theorem told_new (w : World) : Told (w.alloc (.map #[] 0)) w.heap.size 0 [] := ⟨_, World.ownsMap_made w _ _ _, ⟨_, rfl⟩, fun x => by simp [Maps.has]⟩
end Go.Proofs.YtjodgnkhociaaaaGreat
