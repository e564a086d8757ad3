/- Which error a node has. -/
import Derived.Test.YtgiegjghldhppabGreatNdF
namespace Go.Proofs.YtgiegjghldhppabGreat
open Go.RowKit
set_option linter.unusedVariables false

/-- Of two errors the first. -/
def Nd.firstE (a b : Int) : Int := if a = 0 then b else a
theorem Nd.firstE_zero {a b : Int} (h : a = 0) : Nd.firstE a b = b := by unfold Nd.firstE; rw [if_pos h]
theorem Nd.firstE_ne {a b : Int} (h : a ≠ 0) : Nd.firstE a b = a := by unfold Nd.firstE; rw [if_neg h]
theorem Nd.firstE_assoc (a b c : Int) : Nd.firstE (Nd.firstE a b) c = Nd.firstE a (Nd.firstE b c) := by
  by_cases h : a = 0
  · rw [Nd.firstE_zero h, Nd.firstE_zero h]
  · rw [Nd.firstE_ne h, Nd.firstE_ne h, Nd.firstE_ne h]
def Nd.fitE (h g : Sh) : Int := if h = g then 0 else 1
def Nd.errF (f : Nd → Int) : List Nd → Int
  | [] => 0
  | x :: r => Nd.firstE (f x) (Nd.errF f r)
def Nd.namesE (g : ByteArray → Bool) : List ByteArray → Int
  | [] => 0
  | x :: r => Nd.firstE (Nd.nameE x (g x)) (Nd.namesE g r)
def Nd.letE (d : Nd) : Int := match d.sc with
  | .int k :: _ => if k = 1 ∨ k = 2 then 0 else 1
  | _ => 0
theorem outc_cases (x : Int) : (x = 0 ∧ outc x = .returned (.tuple #[])) ∨ (x ≠ 0 ∧ outc x = .panicked [{ v := .iface 36 (.int .i64 x), recovered := false }]) := by
  by_cases h : x = 0
  · exact .inl ⟨h, by rw [h]; rfl⟩
  · exact .inr ⟨h, outc_err h⟩
theorem fit_any (h g : Sh) (w : World) : Calls Tryz.prog 84 #[h.val, g.val] w fun e w' => e = outc (Nd.fitE h g) ∧ Below w.heap.size w w' := by
  by_cases he : h = g
  · subst he
    unfold Nd.fitE
    rw [if_pos rfl]
    exact fit_ok h w
  · unfold Nd.fitE
    rw [if_neg he]
    exact fit_bad h g he w

def Nd.ownTy (k : Int) (s : ByteArray) (p : List ByteArray) (l : List Nd) : Int :=
  if k = 1 then Nd.firstE (Nd.fitE { name := s, path := (p.length : Int), kids := (l.length : Int) } { name := s }) (Nd.nameE s (Nm.tyvar s)) else
  if k = 2 then Nd.firstE (Nd.fitE { name := s, path := (p.length : Int), kids := (l.length : Int) } { path := (p.length : Int) }) (if Nd.given p = true then 0 else Nd.pathE p Nm.lower) else
  if k = 3 ∨ k = 4 then Nd.fitE { name := s, path := (p.length : Int), kids := (l.length : Int) } { kids := 2 } else
  1
def Nd.ownPat (k : Int) (s : ByteArray) (p : List ByteArray) (m : Int) (l : List Nd) : Int :=
  if k = 1 ∨ k = 4 ∨ k = 5 ∨ k = 6 then Nd.fitE { n := m, name := s, path := (p.length : Int), kids := (l.length : Int) } {} else
  if k = 2 then Nd.firstE (Nd.fitE { n := m, name := s, path := (p.length : Int), kids := (l.length : Int) } { name := s }) (Nd.nameE s (Nm.lower s)) else
  if k = 3 then Nd.fitE { n := m, name := s, path := (p.length : Int), kids := (l.length : Int) } { n := max m 0 } else
  if k = 7 then Nd.fitE { n := m, name := s, path := (p.length : Int), kids := (l.length : Int) } { kids := 2 } else
  if k = 8 then Nd.firstE (Nd.fitE { n := m, name := s, path := (p.length : Int), kids := (l.length : Int) } { path := (p.length : Int), kids := min (l.length : Int) 1 }) (Nd.pathE p Nm.upper) else
  1
def Nd.ownExp (k : Int) (op : Int) (m : Int) (p : List ByteArray) (l0 : List Nd) (l1 : List Nd) (l2 : List Nd) (l3 : List Nd) : Int :=
  if k = 1 then Nd.fitE { op := op, n := m, path := (p.length : Int), pats := (l0.length : Int), kids := (l1.length : Int), decs := (l2.length : Int), tys := (l3.length : Int) } { n := max m 0 } else
  if k = 2 ∨ k = 3 ∨ k = 4 then Nd.fitE { op := op, n := m, path := (p.length : Int), pats := (l0.length : Int), kids := (l1.length : Int), decs := (l2.length : Int), tys := (l3.length : Int) } {} else
  if k = 5 then Nd.firstE (Nd.fitE { op := op, n := m, path := (p.length : Int), pats := (l0.length : Int), kids := (l1.length : Int), decs := (l2.length : Int), tys := (l3.length : Int) } { path := (p.length : Int) }) (Nd.pathE p Nm.lower) else
  if k = 6 then Nd.firstE (Nd.fitE { op := op, n := m, path := (p.length : Int), pats := (l0.length : Int), kids := (l1.length : Int), decs := (l2.length : Int), tys := (l3.length : Int) } { path := (p.length : Int) }) (Nd.pathE p Nm.upper) else
  if k = 7 then Nd.fitE { op := op, n := m, path := (p.length : Int), pats := (l0.length : Int), kids := (l1.length : Int), decs := (l2.length : Int), tys := (l3.length : Int) } { pats := 1, kids := 1 } else
  if k = 8 ∨ k = 9 then Nd.fitE { op := op, n := m, path := (p.length : Int), pats := (l0.length : Int), kids := (l1.length : Int), decs := (l2.length : Int), tys := (l3.length : Int) } { kids := 2 } else
  if k = 10 then Nd.firstE (Nd.fitE { op := op, n := m, path := (p.length : Int), pats := (l0.length : Int), kids := (l1.length : Int), decs := (l2.length : Int), tys := (l3.length : Int) } { kids := 1, decs := (l2.length : Int) }) (Nd.errF Nd.letE l2) else
  if k = 11 then Nd.fitE { op := op, n := m, path := (p.length : Int), pats := (l0.length : Int), kids := (l1.length : Int), decs := (l2.length : Int), tys := (l3.length : Int) } { kids := 3 } else
  if k = 12 then Nd.fitE { op := op, n := m, path := (p.length : Int), pats := (l0.length : Int), kids := (l1.length : Int), decs := (l2.length : Int), tys := (l3.length : Int) } { pats := max (l0.length : Int) 1, kids := wrap64 ((l0.length : Int) + 1) } else
  if k = 13 then Nd.fitE { op := op, n := m, path := (p.length : Int), pats := (l0.length : Int), kids := (l1.length : Int), decs := (l2.length : Int), tys := (l3.length : Int) } { op := min (max op 1) 6, kids := 2 } else
  if k = 14 then Nd.fitE { op := op, n := m, path := (p.length : Int), pats := (l0.length : Int), kids := (l1.length : Int), decs := (l2.length : Int), tys := (l3.length : Int) } { kids := 1, tys := 1 } else
  1
def Nd.ownDec (k : Int) (s : ByteArray) (p : List ByteArray) (l0 : List Nd) (l1 : List Nd) (l2 : List Nd) (l3 : List Nd) (l4 : List Nd) : Int :=
  if k = 1 then Nd.firstE (Nd.fitE { params := (p.length : Int), tys := (l0.length : Int), exps := (l1.length : Int), cons := (l2.length : Int), mods := (l3.length : Int), sigs := (l4.length : Int) } { tys := min (l0.length : Int) 1, exps := 1 }) (Nd.firstE (Nd.nameE s (Nm.lower s)) (Nd.namesE Nm.lower p)) else
  if k = 2 then Nd.firstE (Nd.fitE { params := (p.length : Int), tys := (l0.length : Int), exps := (l1.length : Int), cons := (l2.length : Int), mods := (l3.length : Int), sigs := (l4.length : Int) } { params := max (p.length : Int) 1, tys := min (l0.length : Int) 1, exps := 1 }) (Nd.firstE (Nd.nameE s (Nm.lower s)) (Nd.namesE Nm.lower p)) else
  if k = 3 then Nd.firstE (Nd.fitE { params := (p.length : Int), tys := (l0.length : Int), exps := (l1.length : Int), cons := (l2.length : Int), mods := (l3.length : Int), sigs := (l4.length : Int) } { tys := 1 }) (Nd.firstE (Nd.nameE s (Nm.lower s)) (Nd.namesE Nm.lower p)) else
  if k = 4 then Nd.firstE (Nd.fitE { params := (p.length : Int), tys := (l0.length : Int), exps := (l1.length : Int), cons := (l2.length : Int), mods := (l3.length : Int), sigs := (l4.length : Int) } { cons := max (l2.length : Int) 1 }) (Nd.firstE (Nd.nameE s (Nm.lower s)) (Nd.namesE Nm.lower p)) else
  if k = 5 then Nd.firstE (Nd.fitE { params := (p.length : Int), tys := (l0.length : Int), exps := (l1.length : Int), cons := (l2.length : Int), mods := (l3.length : Int), sigs := (l4.length : Int) } { mods := 1 }) (Nd.firstE (Nd.nameE s (Nm.upper s)) (Nd.namesE Nm.upper p)) else
  if k = 6 then Nd.firstE (Nd.fitE { params := (p.length : Int), tys := (l0.length : Int), exps := (l1.length : Int), cons := (l2.length : Int), mods := (l3.length : Int), sigs := (l4.length : Int) } { sigs := 1 }) (Nd.firstE (Nd.nameE s (Nm.upper s)) (Nd.namesE Nm.upper p)) else
  if k = 7 then Nd.firstE (Nd.fitE { params := (p.length : Int), tys := (l0.length : Int), exps := (l1.length : Int), cons := (l2.length : Int), mods := (l3.length : Int), sigs := (l4.length : Int) } { params := 1, mods := 1, sigs := 1 }) (Nd.firstE (Nd.nameE s (Nm.upper s)) (Nd.namesE Nm.upper p)) else
  1
def Nd.ownCon (s : ByteArray) (l : List Nd) : Int :=
  Nd.firstE (Nd.fitE { tys := (l.length : Int) } { tys := min (l.length : Int) 1 }) (Nd.nameE s (Nm.upper s))
def Nd.ownMod (k : Int) (p : List ByteArray) (l0 : List Nd) (l1 : List Nd) (l2 : List Nd) : Int :=
  if k = 1 then Nd.firstE (Nd.fitE { path := (p.length : Int), decs := (l0.length : Int), mods := (l1.length : Int), sigs := (l2.length : Int) } { path := (p.length : Int) }) (Nd.pathE p Nm.upper) else
  if k = 2 then Nd.fitE { path := (p.length : Int), decs := (l0.length : Int), mods := (l1.length : Int), sigs := (l2.length : Int) } { decs := (l0.length : Int) } else
  if k = 3 then Nd.firstE (Nd.fitE { path := (p.length : Int), decs := (l0.length : Int), mods := (l1.length : Int), sigs := (l2.length : Int) } { path := (p.length : Int), mods := 1 }) (Nd.pathE p Nm.upper) else
  if k = 4 ∨ k = 5 then Nd.fitE { path := (p.length : Int), decs := (l0.length : Int), mods := (l1.length : Int), sigs := (l2.length : Int) } { mods := 1, sigs := 1 } else
  if k = 6 then Nd.fitE { path := (p.length : Int), decs := (l0.length : Int), mods := (l1.length : Int), sigs := (l2.length : Int) } { decs := (l0.length : Int), mods := 1 } else
  1
def Nd.ownSig (k : Int) (p : List ByteArray) (l0 : List Nd) (l1 : List Nd) (l2 : List Nd) : Int :=
  if k = 1 then Nd.firstE (Nd.fitE { path := (p.length : Int), tys := (l2.length : Int), sigs := (l1.length : Int), specs := (l0.length : Int) } { path := (p.length : Int) }) (Nd.pathE p Nm.upper) else
  if k = 2 then Nd.fitE { path := (p.length : Int), tys := (l2.length : Int), sigs := (l1.length : Int), specs := (l0.length : Int) } { specs := (l0.length : Int) } else
  if k = 3 then Nd.firstE (Nd.fitE { path := (p.length : Int), tys := (l2.length : Int), sigs := (l1.length : Int), specs := (l0.length : Int) } { path := (p.length : Int), tys := 1, sigs := 1 }) (Nd.pathE p Nm.lower) else
  1
def Nd.ownSpec (k : Int) (s : ByteArray) (l0 : List Nd) (l1 : List Nd) (l2 : List Nd) : Int :=
  if k = 1 then Nd.firstE (Nd.fitE { tys := (l0.length : Int), cons := (l1.length : Int), sigs := (l2.length : Int) } { tys := 1 }) (Nd.nameE s (Nm.lower s)) else
  if k = 2 then Nd.firstE (Nd.fitE { tys := (l0.length : Int), cons := (l1.length : Int), sigs := (l2.length : Int) } { tys := min (l0.length : Int) 1 }) (Nd.nameE s (Nm.lower s)) else
  if k = 3 then Nd.firstE (Nd.fitE { tys := (l0.length : Int), cons := (l1.length : Int), sigs := (l2.length : Int) } { cons := max (l1.length : Int) 1 }) (Nd.nameE s (Nm.lower s)) else
  if k = 4 then Nd.firstE (Nd.fitE { tys := (l0.length : Int), cons := (l1.length : Int), sigs := (l2.length : Int) } { sigs := 1 }) (Nd.nameE s (Nm.upper s)) else
  1
def Nd.own : Nat → List Sc → List (List Nd) → Int
  | 0, [.int k, .str s, .strs p], [l] => Nd.ownTy k s p l
  | 1, [.int k, .str s, .strs p, .int m], [l] => Nd.ownPat k s p m l
  | 2, [.int k, .int op, .int m, .strs p], [l0, l1, l2, l3] => Nd.ownExp k op m p l0 l1 l2 l3
  | 3, [.int k, .int _, .str s, .strs p], [l0, l1, l2, l3, l4] => Nd.ownDec k s p l0 l1 l2 l3 l4
  | 4, [.str s], [l] => Nd.ownCon s l
  | 5, [.int k, .strs p], [l0, l1, l2] => Nd.ownMod k p l0 l1 l2
  | 6, [.int k, .strs p], [l0, l1, l2] => Nd.ownSig k p l0 l1 l2
  | 7, [.int k, .int _, .str s], [l0, l1, l2] => Nd.ownSpec k s l0 l1 l2
  | _, _, _ => 0
mutual
def Nd.err : Nat → Nd → Int
  | s, .mk sc ks => Nd.firstE (Nd.own s sc ks) (Nd.errLL (Nd.subs s) ks)
def Nd.errLL : List Nat → List (List Nd) → Int
  | t :: ts, l :: r => Nd.firstE (Nd.errL t l) (Nd.errLL ts r)
  | _, [] => 0
  | [], _ => 0
def Nd.errL : Nat → List Nd → Int
  | _, [] => 0
  | t, x :: r => Nd.firstE (Nd.err t x) (Nd.errL t r)
end
theorem Nd.errL_eq (t : Nat) : ∀ l, Nd.errL t l = Nd.errF (Nd.err t) l
  | [] => by rw [Nd.errL, Nd.errF]
  | x :: r => by rw [Nd.errL, Nd.errF, Nd.errL_eq t r]
theorem Nd.errF_at {f : Nd → Int} {xs : List Nd} {k : Nat} {x : Nd} (hx : xs[k]? = some x) : Nd.errF f (xs.drop k) = Nd.firstE (f x) (Nd.errF f (xs.drop (k + 1))) := by
  obtain ⟨h1, e1⟩ := List.getElem?_eq_some_iff.1 hx
  rw [List.drop_eq_getElem_cons h1, e1, Nd.errF]
/-- What the contract of a function that gives up at a node that is not right says. -/
def ErrOf (f : FuncId) (err : Nd → Int) (n s : Nat) : Prop := ∀ (w : World) (b o : Nat) (vs : List Value) (nd : Nd), b < w.heap.size → Cells w b o vs → At w Any n s vs nd →
  Calls Tryz.prog f #[.pointer (some ⟨b, o, none⟩)] w fun e w' => e = outc (err nd) ∧ Below w.heap.size w w'
def ErrLOf (f g : FuncId) (err : Nd → Int) (n s : Nat) : Prop := ∀ (w : World) (v : Value) (l : List Nd), AtL w Any n s v l →
  Calls Tryz.prog f #[v, .func (.func g) #[] #[]] w fun e w' => e = outc (Nd.errF err l) ∧ Below w.heap.size w w'

set_option maxHeartbeats 1000000 in
set_option maxRecDepth 100000 in
theorem eachR0 (g : FuncId) (err : Nd → Int) (n : Nat) (en : Enters g) (ih : ErrOf g err n 0) : ErrLOf 52 g err n 0 := by
  intro w v l hv
  unfold Enters at en
  obtain ⟨a1, c1, e1, hx⟩ := hv.form
  unfold maxLen at hx
  by_cases h0 : l = []
  · subst h0
    subst e1
    clear hv ih
    go_enter Tryz.func52, Tryz.ntmps52
    go_wp2
    go_loopw [7] (fun v wr => v = .int .i64 0 ∧ wr = w) (fun _ _ => 0)
    case atStart => exact ⟨rfl, rfl⟩
    case round =>
      obtain ⟨rfl, rfl⟩ := hrel
      go_wp2
      go_end0
      exact ⟨rfl, Below.refl _ _⟩
  · clear e1
    obtain ⟨b, o, c, rfl, -, -, -, hk⟩ := hv.resolve_right (fun h => h0 h.1)
    have hbw : Hid (b < w.heap.size) := by
      obtain ⟨x, hx0⟩ : ∃ x, l[0]? = some x := ⟨_, List.getElem?_eq_getElem (Nat.pos_of_ne_zero (fun e => h0 (List.eq_nil_of_length_eq_zero e)))⟩
      obtain ⟨vs, hlen, hc, -⟩ := hk 0 x hx0
      exact World.block_lt_of_cell? w _ (hc 0 _ (List.getElem?_eq_getElem (by rw [hlen]; exact Nd.size_pos _)))
    clear hv h0
    go_enter Tryz.func52, Tryz.ntmps52
    go_wp2
    go_loopw [7] (fun v wr => ∃ (k : Nat), v = .int .i64 k ∧ k ≤ l.length ∧ Hid (Nd.errF err l = Nd.errF err (l.drop k)) ∧ Below w.heap.size w wr) (fun v _ => l.length - (intOf v).toNat)
    case atStart => exact ⟨0, rfl, Nat.zero_le _, rfl, Below.refl _ _⟩
    case round =>
      obtain ⟨k, rfl, hkl, hH, hB⟩ := hrel
      by_cases hlt : k < l.length
      · obtain ⟨x, hxk⟩ : ∃ x, l[k]? = some x := ⟨_, List.getElem?_eq_getElem hlt⟩
        obtain ⟨vs, -, hc, ha⟩ := hk k x hxk
        have hq := ih wr b (o + k * 4) vs x (Nat.lt_of_lt_of_le hbw.out hB.size) (hc.move trivial (Keeps.of_below (K := Any) hB)) (At.move (Keeps.of_below hB) (fun _ h => h) _ _ _ _ ha)
        have HX : Hid (Nd.errF err l = Nd.firstE (err x) (Nd.errF err (l.drop (k + 1)))) := by
          show _ = _
          rw [hH.out, Nd.errF_at hxk]
        clear hH hk hc ha hxk ih
        rcases outc_cases (err x) with ⟨hz, he⟩ | ⟨hz, he⟩
        · rw [he] at hq
          have HY : Hid (Nd.errF err l = Nd.errF err (l.drop (k + 1))) := by
            show _ = _
            rw [HX.out, Nd.firstE_zero hz]
          clear HX hz he
          go_wp2_with (refine hq.mono ?_; rintro e w2 ⟨rfl, hb2⟩)
          go_roundw
          case rel => exact ⟨k + 1, by go_num, by omega, HY, bl_tr hB hb2⟩
          case measure => simp [intOf]; omega
        · rw [he] at hq
          have HY : Hid (outc (Nd.errF err l) = .panicked [{ v := .iface 36 (.int .i64 (err x)), recovered := false }]) := by
            show _ = _
            rw [HX.out, Nd.firstE_ne hz, he]
          clear HX hz he
          go_wp2_with (refine hq.mono ?_; rintro e w2 ⟨rfl, hb2⟩)
          exact ⟨rfl, HY.out.symm, bl_tr hB hb2⟩
      · have HX : Hid (outc (Nd.errF err l) = .returned (.tuple #[])) := by
          show _ = _
          rw [hH.out, List.drop_eq_nil_of_le (by omega)]; rfl
        clear hH hk ih
        go_wp2
        go_end0
        exact ⟨HX.out.symm, hB⟩

set_option maxHeartbeats 1000000 in
set_option maxRecDepth 100000 in
theorem eachR1 (g : FuncId) (err : Nd → Int) (n : Nat) (en : Enters g) (ih : ErrOf g err n 1) : ErrLOf 77 g err n 1 := by
  intro w v l hv
  unfold Enters at en
  obtain ⟨a1, c1, e1, hx⟩ := hv.form
  unfold maxLen at hx
  by_cases h0 : l = []
  · subst h0
    subst e1
    clear hv ih
    go_enter Tryz.func77, Tryz.ntmps77
    go_wp2
    go_loopw [7] (fun v wr => v = .int .i64 0 ∧ wr = w) (fun _ _ => 0)
    case atStart => exact ⟨rfl, rfl⟩
    case round =>
      obtain ⟨rfl, rfl⟩ := hrel
      go_wp2
      go_end0
      exact ⟨rfl, Below.refl _ _⟩
  · clear e1
    obtain ⟨b, o, c, rfl, -, -, -, hk⟩ := hv.resolve_right (fun h => h0 h.1)
    have hbw : Hid (b < w.heap.size) := by
      obtain ⟨x, hx0⟩ : ∃ x, l[0]? = some x := ⟨_, List.getElem?_eq_getElem (Nat.pos_of_ne_zero (fun e => h0 (List.eq_nil_of_length_eq_zero e)))⟩
      obtain ⟨vs, hlen, hc, -⟩ := hk 0 x hx0
      exact World.block_lt_of_cell? w _ (hc 0 _ (List.getElem?_eq_getElem (by rw [hlen]; exact Nd.size_pos _)))
    clear hv h0
    go_enter Tryz.func77, Tryz.ntmps77
    go_wp2
    go_loopw [7] (fun v wr => ∃ (k : Nat), v = .int .i64 k ∧ k ≤ l.length ∧ Hid (Nd.errF err l = Nd.errF err (l.drop k)) ∧ Below w.heap.size w wr) (fun v _ => l.length - (intOf v).toNat)
    case atStart => exact ⟨0, rfl, Nat.zero_le _, rfl, Below.refl _ _⟩
    case round =>
      obtain ⟨k, rfl, hkl, hH, hB⟩ := hrel
      by_cases hlt : k < l.length
      · obtain ⟨x, hxk⟩ : ∃ x, l[k]? = some x := ⟨_, List.getElem?_eq_getElem hlt⟩
        obtain ⟨vs, -, hc, ha⟩ := hk k x hxk
        have hq := ih wr b (o + k * 5) vs x (Nat.lt_of_lt_of_le hbw.out hB.size) (hc.move trivial (Keeps.of_below (K := Any) hB)) (At.move (Keeps.of_below hB) (fun _ h => h) _ _ _ _ ha)
        have HX : Hid (Nd.errF err l = Nd.firstE (err x) (Nd.errF err (l.drop (k + 1)))) := by
          show _ = _
          rw [hH.out, Nd.errF_at hxk]
        clear hH hk hc ha hxk ih
        rcases outc_cases (err x) with ⟨hz, he⟩ | ⟨hz, he⟩
        · rw [he] at hq
          have HY : Hid (Nd.errF err l = Nd.errF err (l.drop (k + 1))) := by
            show _ = _
            rw [HX.out, Nd.firstE_zero hz]
          clear HX hz he
          go_wp2_with (refine hq.mono ?_; rintro e w2 ⟨rfl, hb2⟩)
          go_roundw
          case rel => exact ⟨k + 1, by go_num, by omega, HY, bl_tr hB hb2⟩
          case measure => simp [intOf]; omega
        · rw [he] at hq
          have HY : Hid (outc (Nd.errF err l) = .panicked [{ v := .iface 36 (.int .i64 (err x)), recovered := false }]) := by
            show _ = _
            rw [HX.out, Nd.firstE_ne hz, he]
          clear HX hz he
          go_wp2_with (refine hq.mono ?_; rintro e w2 ⟨rfl, hb2⟩)
          exact ⟨rfl, HY.out.symm, bl_tr hB hb2⟩
      · have HX : Hid (outc (Nd.errF err l) = .returned (.tuple #[])) := by
          show _ = _
          rw [hH.out, List.drop_eq_nil_of_le (by omega)]; rfl
        clear hH hk ih
        go_wp2
        go_end0
        exact ⟨HX.out.symm, hB⟩

set_option maxHeartbeats 1000000 in
set_option maxRecDepth 100000 in
theorem eachR2 (g : FuncId) (err : Nd → Int) (n : Nat) (en : Enters g) (ih : ErrOf g err n 2) : ErrLOf 54 g err n 2 := by
  intro w v l hv
  unfold Enters at en
  obtain ⟨a1, c1, e1, hx⟩ := hv.form
  unfold maxLen at hx
  by_cases h0 : l = []
  · subst h0
    subst e1
    clear hv ih
    go_enter Tryz.func54, Tryz.ntmps54
    go_wp2
    go_loopw [7] (fun v wr => v = .int .i64 0 ∧ wr = w) (fun _ _ => 0)
    case atStart => exact ⟨rfl, rfl⟩
    case round =>
      obtain ⟨rfl, rfl⟩ := hrel
      go_wp2
      go_end0
      exact ⟨rfl, Below.refl _ _⟩
  · clear e1
    obtain ⟨b, o, c, rfl, -, -, -, hk⟩ := hv.resolve_right (fun h => h0 h.1)
    have hbw : Hid (b < w.heap.size) := by
      obtain ⟨x, hx0⟩ : ∃ x, l[0]? = some x := ⟨_, List.getElem?_eq_getElem (Nat.pos_of_ne_zero (fun e => h0 (List.eq_nil_of_length_eq_zero e)))⟩
      obtain ⟨vs, hlen, hc, -⟩ := hk 0 x hx0
      exact World.block_lt_of_cell? w _ (hc 0 _ (List.getElem?_eq_getElem (by rw [hlen]; exact Nd.size_pos _)))
    clear hv h0
    go_enter Tryz.func54, Tryz.ntmps54
    go_wp2
    go_loopw [7] (fun v wr => ∃ (k : Nat), v = .int .i64 k ∧ k ≤ l.length ∧ Hid (Nd.errF err l = Nd.errF err (l.drop k)) ∧ Below w.heap.size w wr) (fun v _ => l.length - (intOf v).toNat)
    case atStart => exact ⟨0, rfl, Nat.zero_le _, rfl, Below.refl _ _⟩
    case round =>
      obtain ⟨k, rfl, hkl, hH, hB⟩ := hrel
      by_cases hlt : k < l.length
      · obtain ⟨x, hxk⟩ : ∃ x, l[k]? = some x := ⟨_, List.getElem?_eq_getElem hlt⟩
        obtain ⟨vs, -, hc, ha⟩ := hk k x hxk
        have hq := ih wr b (o + k * 8) vs x (Nat.lt_of_lt_of_le hbw.out hB.size) (hc.move trivial (Keeps.of_below (K := Any) hB)) (At.move (Keeps.of_below hB) (fun _ h => h) _ _ _ _ ha)
        have HX : Hid (Nd.errF err l = Nd.firstE (err x) (Nd.errF err (l.drop (k + 1)))) := by
          show _ = _
          rw [hH.out, Nd.errF_at hxk]
        clear hH hk hc ha hxk ih
        rcases outc_cases (err x) with ⟨hz, he⟩ | ⟨hz, he⟩
        · rw [he] at hq
          have HY : Hid (Nd.errF err l = Nd.errF err (l.drop (k + 1))) := by
            show _ = _
            rw [HX.out, Nd.firstE_zero hz]
          clear HX hz he
          go_wp2_with (refine hq.mono ?_; rintro e w2 ⟨rfl, hb2⟩)
          go_roundw
          case rel => exact ⟨k + 1, by go_num, by omega, HY, bl_tr hB hb2⟩
          case measure => simp [intOf]; omega
        · rw [he] at hq
          have HY : Hid (outc (Nd.errF err l) = .panicked [{ v := .iface 36 (.int .i64 (err x)), recovered := false }]) := by
            show _ = _
            rw [HX.out, Nd.firstE_ne hz, he]
          clear HX hz he
          go_wp2_with (refine hq.mono ?_; rintro e w2 ⟨rfl, hb2⟩)
          exact ⟨rfl, HY.out.symm, bl_tr hB hb2⟩
      · have HX : Hid (outc (Nd.errF err l) = .returned (.tuple #[])) := by
          show _ = _
          rw [hH.out, List.drop_eq_nil_of_le (by omega)]; rfl
        clear hH hk ih
        go_wp2
        go_end0
        exact ⟨HX.out.symm, hB⟩

set_option maxHeartbeats 1000000 in
set_option maxRecDepth 100000 in
theorem eachR3 (g : FuncId) (err : Nd → Int) (n : Nat) (en : Enters g) (ih : ErrOf g err n 3) : ErrLOf 24 g err n 3 := by
  intro w v l hv
  unfold Enters at en
  obtain ⟨a1, c1, e1, hx⟩ := hv.form
  unfold maxLen at hx
  by_cases h0 : l = []
  · subst h0
    subst e1
    clear hv ih
    go_enter Tryz.func24, Tryz.ntmps24
    go_wp2
    go_loopw [7] (fun v wr => v = .int .i64 0 ∧ wr = w) (fun _ _ => 0)
    case atStart => exact ⟨rfl, rfl⟩
    case round =>
      obtain ⟨rfl, rfl⟩ := hrel
      go_wp2
      go_end0
      exact ⟨rfl, Below.refl _ _⟩
  · clear e1
    obtain ⟨b, o, c, rfl, -, -, -, hk⟩ := hv.resolve_right (fun h => h0 h.1)
    have hbw : Hid (b < w.heap.size) := by
      obtain ⟨x, hx0⟩ : ∃ x, l[0]? = some x := ⟨_, List.getElem?_eq_getElem (Nat.pos_of_ne_zero (fun e => h0 (List.eq_nil_of_length_eq_zero e)))⟩
      obtain ⟨vs, hlen, hc, -⟩ := hk 0 x hx0
      exact World.block_lt_of_cell? w _ (hc 0 _ (List.getElem?_eq_getElem (by rw [hlen]; exact Nd.size_pos _)))
    clear hv h0
    go_enter Tryz.func24, Tryz.ntmps24
    go_wp2
    go_loopw [7] (fun v wr => ∃ (k : Nat), v = .int .i64 k ∧ k ≤ l.length ∧ Hid (Nd.errF err l = Nd.errF err (l.drop k)) ∧ Below w.heap.size w wr) (fun v _ => l.length - (intOf v).toNat)
    case atStart => exact ⟨0, rfl, Nat.zero_le _, rfl, Below.refl _ _⟩
    case round =>
      obtain ⟨k, rfl, hkl, hH, hB⟩ := hrel
      by_cases hlt : k < l.length
      · obtain ⟨x, hxk⟩ : ∃ x, l[k]? = some x := ⟨_, List.getElem?_eq_getElem hlt⟩
        obtain ⟨vs, -, hc, ha⟩ := hk k x hxk
        have hq := ih wr b (o + k * 9) vs x (Nat.lt_of_lt_of_le hbw.out hB.size) (hc.move trivial (Keeps.of_below (K := Any) hB)) (At.move (Keeps.of_below hB) (fun _ h => h) _ _ _ _ ha)
        have HX : Hid (Nd.errF err l = Nd.firstE (err x) (Nd.errF err (l.drop (k + 1)))) := by
          show _ = _
          rw [hH.out, Nd.errF_at hxk]
        clear hH hk hc ha hxk ih
        rcases outc_cases (err x) with ⟨hz, he⟩ | ⟨hz, he⟩
        · rw [he] at hq
          have HY : Hid (Nd.errF err l = Nd.errF err (l.drop (k + 1))) := by
            show _ = _
            rw [HX.out, Nd.firstE_zero hz]
          clear HX hz he
          go_wp2_with (refine hq.mono ?_; rintro e w2 ⟨rfl, hb2⟩)
          go_roundw
          case rel => exact ⟨k + 1, by go_num, by omega, HY, bl_tr hB hb2⟩
          case measure => simp [intOf]; omega
        · rw [he] at hq
          have HY : Hid (outc (Nd.errF err l) = .panicked [{ v := .iface 36 (.int .i64 (err x)), recovered := false }]) := by
            show _ = _
            rw [HX.out, Nd.firstE_ne hz, he]
          clear HX hz he
          go_wp2_with (refine hq.mono ?_; rintro e w2 ⟨rfl, hb2⟩)
          exact ⟨rfl, HY.out.symm, bl_tr hB hb2⟩
      · have HX : Hid (outc (Nd.errF err l) = .returned (.tuple #[])) := by
          show _ = _
          rw [hH.out, List.drop_eq_nil_of_le (by omega)]; rfl
        clear hH hk ih
        go_wp2
        go_end0
        exact ⟨HX.out.symm, hB⟩

set_option maxHeartbeats 1000000 in
set_option maxRecDepth 100000 in
theorem eachR4 (g : FuncId) (err : Nd → Int) (n : Nat) (en : Enters g) (ih : ErrOf g err n 4) : ErrLOf 55 g err n 4 := by
  intro w v l hv
  unfold Enters at en
  obtain ⟨a1, c1, e1, hx⟩ := hv.form
  unfold maxLen at hx
  by_cases h0 : l = []
  · subst h0
    subst e1
    clear hv ih
    go_enter Tryz.func55, Tryz.ntmps55
    go_wp2
    go_loopw [7] (fun v wr => v = .int .i64 0 ∧ wr = w) (fun _ _ => 0)
    case atStart => exact ⟨rfl, rfl⟩
    case round =>
      obtain ⟨rfl, rfl⟩ := hrel
      go_wp2
      go_end0
      exact ⟨rfl, Below.refl _ _⟩
  · clear e1
    obtain ⟨b, o, c, rfl, -, -, -, hk⟩ := hv.resolve_right (fun h => h0 h.1)
    have hbw : Hid (b < w.heap.size) := by
      obtain ⟨x, hx0⟩ : ∃ x, l[0]? = some x := ⟨_, List.getElem?_eq_getElem (Nat.pos_of_ne_zero (fun e => h0 (List.eq_nil_of_length_eq_zero e)))⟩
      obtain ⟨vs, hlen, hc, -⟩ := hk 0 x hx0
      exact World.block_lt_of_cell? w _ (hc 0 _ (List.getElem?_eq_getElem (by rw [hlen]; exact Nd.size_pos _)))
    clear hv h0
    go_enter Tryz.func55, Tryz.ntmps55
    go_wp2
    go_loopw [7] (fun v wr => ∃ (k : Nat), v = .int .i64 k ∧ k ≤ l.length ∧ Hid (Nd.errF err l = Nd.errF err (l.drop k)) ∧ Below w.heap.size w wr) (fun v _ => l.length - (intOf v).toNat)
    case atStart => exact ⟨0, rfl, Nat.zero_le _, rfl, Below.refl _ _⟩
    case round =>
      obtain ⟨k, rfl, hkl, hH, hB⟩ := hrel
      by_cases hlt : k < l.length
      · obtain ⟨x, hxk⟩ : ∃ x, l[k]? = some x := ⟨_, List.getElem?_eq_getElem hlt⟩
        obtain ⟨vs, -, hc, ha⟩ := hk k x hxk
        have hq := ih wr b (o + k * 2) vs x (Nat.lt_of_lt_of_le hbw.out hB.size) (hc.move trivial (Keeps.of_below (K := Any) hB)) (At.move (Keeps.of_below hB) (fun _ h => h) _ _ _ _ ha)
        have HX : Hid (Nd.errF err l = Nd.firstE (err x) (Nd.errF err (l.drop (k + 1)))) := by
          show _ = _
          rw [hH.out, Nd.errF_at hxk]
        clear hH hk hc ha hxk ih
        rcases outc_cases (err x) with ⟨hz, he⟩ | ⟨hz, he⟩
        · rw [he] at hq
          have HY : Hid (Nd.errF err l = Nd.errF err (l.drop (k + 1))) := by
            show _ = _
            rw [HX.out, Nd.firstE_zero hz]
          clear HX hz he
          go_wp2_with (refine hq.mono ?_; rintro e w2 ⟨rfl, hb2⟩)
          go_roundw
          case rel => exact ⟨k + 1, by go_num, by omega, HY, bl_tr hB hb2⟩
          case measure => simp [intOf]; omega
        · rw [he] at hq
          have HY : Hid (outc (Nd.errF err l) = .panicked [{ v := .iface 36 (.int .i64 (err x)), recovered := false }]) := by
            show _ = _
            rw [HX.out, Nd.firstE_ne hz, he]
          clear HX hz he
          go_wp2_with (refine hq.mono ?_; rintro e w2 ⟨rfl, hb2⟩)
          exact ⟨rfl, HY.out.symm, bl_tr hB hb2⟩
      · have HX : Hid (outc (Nd.errF err l) = .returned (.tuple #[])) := by
          show _ = _
          rw [hH.out, List.drop_eq_nil_of_le (by omega)]; rfl
        clear hH hk ih
        go_wp2
        go_end0
        exact ⟨HX.out.symm, hB⟩

set_option maxHeartbeats 1000000 in
set_option maxRecDepth 100000 in
theorem eachR5 (g : FuncId) (err : Nd → Int) (n : Nat) (en : Enters g) (ih : ErrOf g err n 5) : ErrLOf 57 g err n 5 := by
  intro w v l hv
  unfold Enters at en
  obtain ⟨a1, c1, e1, hx⟩ := hv.form
  unfold maxLen at hx
  by_cases h0 : l = []
  · subst h0
    subst e1
    clear hv ih
    go_enter Tryz.func57, Tryz.ntmps57
    go_wp2
    go_loopw [7] (fun v wr => v = .int .i64 0 ∧ wr = w) (fun _ _ => 0)
    case atStart => exact ⟨rfl, rfl⟩
    case round =>
      obtain ⟨rfl, rfl⟩ := hrel
      go_wp2
      go_end0
      exact ⟨rfl, Below.refl _ _⟩
  · clear e1
    obtain ⟨b, o, c, rfl, -, -, -, hk⟩ := hv.resolve_right (fun h => h0 h.1)
    have hbw : Hid (b < w.heap.size) := by
      obtain ⟨x, hx0⟩ : ∃ x, l[0]? = some x := ⟨_, List.getElem?_eq_getElem (Nat.pos_of_ne_zero (fun e => h0 (List.eq_nil_of_length_eq_zero e)))⟩
      obtain ⟨vs, hlen, hc, -⟩ := hk 0 x hx0
      exact World.block_lt_of_cell? w _ (hc 0 _ (List.getElem?_eq_getElem (by rw [hlen]; exact Nd.size_pos _)))
    clear hv h0
    go_enter Tryz.func57, Tryz.ntmps57
    go_wp2
    go_loopw [7] (fun v wr => ∃ (k : Nat), v = .int .i64 k ∧ k ≤ l.length ∧ Hid (Nd.errF err l = Nd.errF err (l.drop k)) ∧ Below w.heap.size w wr) (fun v _ => l.length - (intOf v).toNat)
    case atStart => exact ⟨0, rfl, Nat.zero_le _, rfl, Below.refl _ _⟩
    case round =>
      obtain ⟨k, rfl, hkl, hH, hB⟩ := hrel
      by_cases hlt : k < l.length
      · obtain ⟨x, hxk⟩ : ∃ x, l[k]? = some x := ⟨_, List.getElem?_eq_getElem hlt⟩
        obtain ⟨vs, -, hc, ha⟩ := hk k x hxk
        have hq := ih wr b (o + k * 5) vs x (Nat.lt_of_lt_of_le hbw.out hB.size) (hc.move trivial (Keeps.of_below (K := Any) hB)) (At.move (Keeps.of_below hB) (fun _ h => h) _ _ _ _ ha)
        have HX : Hid (Nd.errF err l = Nd.firstE (err x) (Nd.errF err (l.drop (k + 1)))) := by
          show _ = _
          rw [hH.out, Nd.errF_at hxk]
        clear hH hk hc ha hxk ih
        rcases outc_cases (err x) with ⟨hz, he⟩ | ⟨hz, he⟩
        · rw [he] at hq
          have HY : Hid (Nd.errF err l = Nd.errF err (l.drop (k + 1))) := by
            show _ = _
            rw [HX.out, Nd.firstE_zero hz]
          clear HX hz he
          go_wp2_with (refine hq.mono ?_; rintro e w2 ⟨rfl, hb2⟩)
          go_roundw
          case rel => exact ⟨k + 1, by go_num, by omega, HY, bl_tr hB hb2⟩
          case measure => simp [intOf]; omega
        · rw [he] at hq
          have HY : Hid (outc (Nd.errF err l) = .panicked [{ v := .iface 36 (.int .i64 (err x)), recovered := false }]) := by
            show _ = _
            rw [HX.out, Nd.firstE_ne hz, he]
          clear HX hz he
          go_wp2_with (refine hq.mono ?_; rintro e w2 ⟨rfl, hb2⟩)
          exact ⟨rfl, HY.out.symm, bl_tr hB hb2⟩
      · have HX : Hid (outc (Nd.errF err l) = .returned (.tuple #[])) := by
          show _ = _
          rw [hH.out, List.drop_eq_nil_of_le (by omega)]; rfl
        clear hH hk ih
        go_wp2
        go_end0
        exact ⟨HX.out.symm, hB⟩

set_option maxHeartbeats 1000000 in
set_option maxRecDepth 100000 in
theorem eachR6 (g : FuncId) (err : Nd → Int) (n : Nat) (en : Enters g) (ih : ErrOf g err n 6) : ErrLOf 59 g err n 6 := by
  intro w v l hv
  unfold Enters at en
  obtain ⟨a1, c1, e1, hx⟩ := hv.form
  unfold maxLen at hx
  by_cases h0 : l = []
  · subst h0
    subst e1
    clear hv ih
    go_enter Tryz.func59, Tryz.ntmps59
    go_wp2
    go_loopw [7] (fun v wr => v = .int .i64 0 ∧ wr = w) (fun _ _ => 0)
    case atStart => exact ⟨rfl, rfl⟩
    case round =>
      obtain ⟨rfl, rfl⟩ := hrel
      go_wp2
      go_end0
      exact ⟨rfl, Below.refl _ _⟩
  · clear e1
    obtain ⟨b, o, c, rfl, -, -, -, hk⟩ := hv.resolve_right (fun h => h0 h.1)
    have hbw : Hid (b < w.heap.size) := by
      obtain ⟨x, hx0⟩ : ∃ x, l[0]? = some x := ⟨_, List.getElem?_eq_getElem (Nat.pos_of_ne_zero (fun e => h0 (List.eq_nil_of_length_eq_zero e)))⟩
      obtain ⟨vs, hlen, hc, -⟩ := hk 0 x hx0
      exact World.block_lt_of_cell? w _ (hc 0 _ (List.getElem?_eq_getElem (by rw [hlen]; exact Nd.size_pos _)))
    clear hv h0
    go_enter Tryz.func59, Tryz.ntmps59
    go_wp2
    go_loopw [7] (fun v wr => ∃ (k : Nat), v = .int .i64 k ∧ k ≤ l.length ∧ Hid (Nd.errF err l = Nd.errF err (l.drop k)) ∧ Below w.heap.size w wr) (fun v _ => l.length - (intOf v).toNat)
    case atStart => exact ⟨0, rfl, Nat.zero_le _, rfl, Below.refl _ _⟩
    case round =>
      obtain ⟨k, rfl, hkl, hH, hB⟩ := hrel
      by_cases hlt : k < l.length
      · obtain ⟨x, hxk⟩ : ∃ x, l[k]? = some x := ⟨_, List.getElem?_eq_getElem hlt⟩
        obtain ⟨vs, -, hc, ha⟩ := hk k x hxk
        have hq := ih wr b (o + k * 5) vs x (Nat.lt_of_lt_of_le hbw.out hB.size) (hc.move trivial (Keeps.of_below (K := Any) hB)) (At.move (Keeps.of_below hB) (fun _ h => h) _ _ _ _ ha)
        have HX : Hid (Nd.errF err l = Nd.firstE (err x) (Nd.errF err (l.drop (k + 1)))) := by
          show _ = _
          rw [hH.out, Nd.errF_at hxk]
        clear hH hk hc ha hxk ih
        rcases outc_cases (err x) with ⟨hz, he⟩ | ⟨hz, he⟩
        · rw [he] at hq
          have HY : Hid (Nd.errF err l = Nd.errF err (l.drop (k + 1))) := by
            show _ = _
            rw [HX.out, Nd.firstE_zero hz]
          clear HX hz he
          go_wp2_with (refine hq.mono ?_; rintro e w2 ⟨rfl, hb2⟩)
          go_roundw
          case rel => exact ⟨k + 1, by go_num, by omega, HY, bl_tr hB hb2⟩
          case measure => simp [intOf]; omega
        · rw [he] at hq
          have HY : Hid (outc (Nd.errF err l) = .panicked [{ v := .iface 36 (.int .i64 (err x)), recovered := false }]) := by
            show _ = _
            rw [HX.out, Nd.firstE_ne hz, he]
          clear HX hz he
          go_wp2_with (refine hq.mono ?_; rintro e w2 ⟨rfl, hb2⟩)
          exact ⟨rfl, HY.out.symm, bl_tr hB hb2⟩
      · have HX : Hid (outc (Nd.errF err l) = .returned (.tuple #[])) := by
          show _ = _
          rw [hH.out, List.drop_eq_nil_of_le (by omega)]; rfl
        clear hH hk ih
        go_wp2
        go_end0
        exact ⟨HX.out.symm, hB⟩

set_option maxHeartbeats 1000000 in
set_option maxRecDepth 100000 in
theorem eachR7 (g : FuncId) (err : Nd → Int) (n : Nat) (en : Enters g) (ih : ErrOf g err n 7) : ErrLOf 90 g err n 7 := by
  intro w v l hv
  unfold Enters at en
  obtain ⟨a1, c1, e1, hx⟩ := hv.form
  unfold maxLen at hx
  by_cases h0 : l = []
  · subst h0
    subst e1
    clear hv ih
    go_enter Tryz.func90, Tryz.ntmps90
    go_wp2
    go_loopw [7] (fun v wr => v = .int .i64 0 ∧ wr = w) (fun _ _ => 0)
    case atStart => exact ⟨rfl, rfl⟩
    case round =>
      obtain ⟨rfl, rfl⟩ := hrel
      go_wp2
      go_end0
      exact ⟨rfl, Below.refl _ _⟩
  · clear e1
    obtain ⟨b, o, c, rfl, -, -, -, hk⟩ := hv.resolve_right (fun h => h0 h.1)
    have hbw : Hid (b < w.heap.size) := by
      obtain ⟨x, hx0⟩ : ∃ x, l[0]? = some x := ⟨_, List.getElem?_eq_getElem (Nat.pos_of_ne_zero (fun e => h0 (List.eq_nil_of_length_eq_zero e)))⟩
      obtain ⟨vs, hlen, hc, -⟩ := hk 0 x hx0
      exact World.block_lt_of_cell? w _ (hc 0 _ (List.getElem?_eq_getElem (by rw [hlen]; exact Nd.size_pos _)))
    clear hv h0
    go_enter Tryz.func90, Tryz.ntmps90
    go_wp2
    go_loopw [7] (fun v wr => ∃ (k : Nat), v = .int .i64 k ∧ k ≤ l.length ∧ Hid (Nd.errF err l = Nd.errF err (l.drop k)) ∧ Below w.heap.size w wr) (fun v _ => l.length - (intOf v).toNat)
    case atStart => exact ⟨0, rfl, Nat.zero_le _, rfl, Below.refl _ _⟩
    case round =>
      obtain ⟨k, rfl, hkl, hH, hB⟩ := hrel
      by_cases hlt : k < l.length
      · obtain ⟨x, hxk⟩ : ∃ x, l[k]? = some x := ⟨_, List.getElem?_eq_getElem hlt⟩
        obtain ⟨vs, -, hc, ha⟩ := hk k x hxk
        have hq := ih wr b (o + k * 6) vs x (Nat.lt_of_lt_of_le hbw.out hB.size) (hc.move trivial (Keeps.of_below (K := Any) hB)) (At.move (Keeps.of_below hB) (fun _ h => h) _ _ _ _ ha)
        have HX : Hid (Nd.errF err l = Nd.firstE (err x) (Nd.errF err (l.drop (k + 1)))) := by
          show _ = _
          rw [hH.out, Nd.errF_at hxk]
        clear hH hk hc ha hxk ih
        rcases outc_cases (err x) with ⟨hz, he⟩ | ⟨hz, he⟩
        · rw [he] at hq
          have HY : Hid (Nd.errF err l = Nd.errF err (l.drop (k + 1))) := by
            show _ = _
            rw [HX.out, Nd.firstE_zero hz]
          clear HX hz he
          go_wp2_with (refine hq.mono ?_; rintro e w2 ⟨rfl, hb2⟩)
          go_roundw
          case rel => exact ⟨k + 1, by go_num, by omega, HY, bl_tr hB hb2⟩
          case measure => simp [intOf]; omega
        · rw [he] at hq
          have HY : Hid (outc (Nd.errF err l) = .panicked [{ v := .iface 36 (.int .i64 (err x)), recovered := false }]) := by
            show _ = _
            rw [HX.out, Nd.firstE_ne hz, he]
          clear HX hz he
          go_wp2_with (refine hq.mono ?_; rintro e w2 ⟨rfl, hb2⟩)
          exact ⟨rfl, HY.out.symm, bl_tr hB hb2⟩
      · have HX : Hid (outc (Nd.errF err l) = .returned (.tuple #[])) := by
          show _ = _
          rw [hH.out, List.drop_eq_nil_of_le (by omega)]; rfl
        clear hH hk ih
        go_wp2
        go_end0
        exact ⟨HX.out.symm, hB⟩

end Go.Proofs.YtgiegjghldhppabGreat
