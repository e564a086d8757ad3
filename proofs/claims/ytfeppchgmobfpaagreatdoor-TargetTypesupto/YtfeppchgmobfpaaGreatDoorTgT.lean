/- Two side by side: texts; a number; the mathematics of being one. -/
import Derived.Test.YtfeppchgmobfpaaGreatDoorTgH
import Derived.Test.YtfeppchgmobfpaaGreatDoorTgS
namespace Go.Proofs.YtfeppchgmobfpaaGreatDoor
open Go.RowKit
set_option linter.unusedVariables false
set_option linter.unusedSimpArgs false

def Tt.eqS (a b : ByteArray) : Bool := a.toList == b.toList
def Tt.eqLs : List ByteArray → List ByteArray → Bool
  | [], [] => true
  | a :: r, b :: r' => Tt.eqS a b && Tt.eqLs r r'
  | _, _ => false
theorem Tt.eqLs_len : ∀ {l l' : List ByteArray}, l.length ≠ l'.length → Tt.eqLs l l' = false
  | [], [], h => absurd rfl h
  | [], _ :: _, _ => rfl
  | _ :: _, [], _ => rfl
  | a :: r, b :: r', h => by rw [Tt.eqLs, Tt.eqLs_len (l := r) (l' := r') (by simpa using h), Bool.and_false]
theorem Tt.eqLs_at {l l' : List ByteArray} {k : Nat} {x y : ByteArray} (hx : l[k]? = some x) (hy : l'[k]? = some y) : Tt.eqLs (l.drop k) (l'.drop k) = (Tt.eqS x y && Tt.eqLs (l.drop (k + 1)) (l'.drop (k + 1))) := by
  obtain ⟨h1, rfl⟩ := List.getElem?_eq_some_iff.1 hx
  obtain ⟨h2, rfl⟩ := List.getElem?_eq_some_iff.1 hy
  rw [List.drop_eq_getElem_cons h1, List.drop_eq_getElem_cons h2, Tt.eqLs]
theorem neq_str (a b : ByteArray) : binOp .neq 9 (.string a) (.string b) = pure (.bool !(Tt.eqS a b)) := by
  simp [binOp, Op.stringOp, Tt.eqS, beq_toListBytes]

set_option maxHeartbeats 1000000 in
set_option maxRecDepth 100000 in
theorem equal_any (w : World) (v v' : Value) (l l' : List ByteArray) (h : Sl w Any v l) (h' : Sl w Any v' l') : Calls Tryz.prog 73 #[v, v'] w fun e w' => e = .returned (.bool (Tt.eqLs l l')) ∧ ∃ m, w' = w.drewN m := by
  obtain ⟨a, c, rfl, hm⟩ := h.form
  obtain ⟨a', c', rfl, hm'⟩ := h'.form
  unfold maxLen at hm hm'
  have HL : Hid (Sl w Any (.slice a l.length c) l) := h
  have HL' : Hid (Sl w Any (.slice a' l'.length c') l') := h'
  clear h h'
  by_cases hlen : l.length = l'.length
  · have hle : ((l.length : Int) != (l'.length : Int)) = false := by simp [hlen]
    have HLE := hid hlen
    have hne := neq_str
    clear hlen
    go_enter Tryz.func73, Tryz.ntmps73
    go_wp2
    go_loopw [13] (fun v wr => ∃ k : Nat, v = .int .i64 k ∧ k ≤ l.length ∧ Hid (Tt.eqLs l l' = Tt.eqLs (l.drop k) (l'.drop k)) ∧ Hid (∃ m, wr = w.drewN m)) (fun v _ => l.length - (intOf v).toNat)
    case atStart => exact ⟨0, rfl, Nat.zero_le _, rfl, ⟨0, rfl⟩⟩
    case round =>
      obtain ⟨k, rfl, hkl, hH, hD⟩ := hrel
      have hB : Below w.heap.size w wr := by obtain ⟨m, rfl⟩ := hD.out; exact bl_drewN _ _
      by_cases hlt : k < l.length
      · obtain ⟨x, hx⟩ : ∃ x, l[k]? = some x := ⟨_, List.getElem?_eq_getElem hlt⟩
        obtain ⟨y, hy⟩ : ∃ y, l'[k]? = some y := ⟨_, List.getElem?_eq_getElem (by rw [← HLE.out]; exact hlt)⟩
        obtain ⟨b, o, rfl, cx⟩ : ∃ b o, a = some ⟨b, o, none⟩ ∧ wr.cell? ⟨b, o + k, none⟩ = some (.string x) := by
          rcases HL.out with ⟨b, o, c', hv, -, -, -, hc⟩ | ⟨rfl, -⟩
          · injection hv with e1 e2 e3
            exact ⟨b, o, e1, Keeps.of_below (K := Any) hB b _ _ trivial (hc k x hx)⟩
          · simp at hx
        obtain ⟨b', o', rfl, cy⟩ : ∃ b o, a' = some ⟨b, o, none⟩ ∧ wr.cell? ⟨b, o + k, none⟩ = some (.string y) := by
          rcases HL'.out with ⟨b, o, c', hv, -, -, -, hc⟩ | ⟨rfl, -⟩
          · injection hv with e1 e2 e3
            exact ⟨b, o, e1, Keeps.of_below (K := Any) hB b _ _ trivial (hc k y hy)⟩
          · simp at hy
        have HX : Hid (Tt.eqLs l l' = (Tt.eqS x y && Tt.eqLs (l.drop (k + 1)) (l'.drop (k + 1)))) := hH.out.trans (Tt.eqLs_at hx hy)
        have hlt2 : (k : Int) < l.length := by omega
        have hlt3 : (k : Int) < l'.length := by have := HLE.out; omega
        clear hH HL HL' hx hy hB
        cases hxy : Tt.eqS x y with
        | true =>
          rw [hxy, Bool.true_and] at HX
          go_wp2
          go_quiet (fail)
          go_wp2
          go_roundw
          case rel => exact ⟨k + 1, by go_num, by omega, HX, by obtain ⟨m, rfl⟩ := hD.out; exact ⟨_, by rw [World.drewN_drewN]⟩⟩
          case measure => simp [intOf]; omega
        | false =>
          rw [hxy, Bool.false_and] at HX
          go_wp2
          go_quiet (fail)
          go_wp2
          go_ret
          exact ⟨ret_bool HX.out.symm, by obtain ⟨m, rfl⟩ := hD.out; exact ⟨_, by rw [World.drewN_drewN]⟩⟩
      · have HX : Hid (Tt.eqLs l l' = true) := by
          show _ = _
          rw [hH.out, List.drop_eq_nil_of_le (by omega), List.drop_eq_nil_of_le (by have := HLE.out; omega)]; rfl
        clear hH HL HL'
        go_wp2
        go_ret
        exact ⟨ret_bool HX.out.symm, hD.out⟩
  · have hle : ((l.length : Int) != (l'.length : Int)) = true := by simp; omega
    have HX : Hid (Tt.eqLs l l' = false) := Tt.eqLs_len hlen
    clear hlen HL HL'
    go_enter Tryz.func73, Tryz.ntmps73
    go_wp2
    go_ret
    exact ⟨ret_bool HX.out.symm, 0, rfl⟩
/-- Two keys: bound by binders at one place, or both free and the same. -/
def Tt.one (e1 e2 : List (Int × Int)) (x y : Int) : Bool := match lk e1 x, lk e2 y with
  | none, none => x == y
  | some a, some b => a == b
  | _, _ => false
def Tt.num (e1 e2 : List (Int × Int)) (a b : Tt) : Bool := if a.binds then true else if a.k = 6 then Tt.one e1 e2 a.n b.n else a.n == b.n
/-- Are the nodes alike, but for their parts? -/
def Tt.alike (e1 e2 : List (Int × Int)) (a b : Tt) : Bool := a.k == b.k && ((a.ks.length : Int) == b.ks.length && (Tt.eqLs a.ls b.ls && Tt.num e1 e2 a b))
mutual
/-- One up to what is bound. -/
def Tt.same : Tt → Tt → List (Int × Int) → List (Int × Int) → Bool
  | .mk k n ls ks, .mk k' n' ls' ks' => fun e1 e2 => Tt.alike e1 e2 (.mk k n ls ks) (.mk k' n' ls' ks') && Tt.sameL ks ks' ((Tt.mk k n ls ks).env e1) ((Tt.mk k' n' ls' ks').env e2)
def Tt.sameL : List Tt → List Tt → List (Int × Int) → List (Int × Int) → Bool
  | [], [] => fun _ _ => true
  | x :: r, y :: r' => fun e1 e2 => Tt.same x y e1 e2 && Tt.sameL r r' e1 e2
  | _, _ => fun _ _ => false
end
theorem Tt.same_mk (a b : Tt) (e1 e2 : List (Int × Int)) : Tt.same a b e1 e2 = (Tt.alike e1 e2 a b && Tt.sameL a.ks b.ks (a.env e1) (b.env e2)) := by cases a; cases b; rw [Tt.same]; rfl
theorem Tt.sameL_at {l l' : List Tt} {k : Nat} {x y : Tt} (hx : l[k]? = some x) (hy : l'[k]? = some y) (e1 e2 : List (Int × Int)) : Tt.sameL (l.drop k) (l'.drop k) e1 e2 = (Tt.same x y e1 e2 && Tt.sameL (l.drop (k + 1)) (l'.drop (k + 1)) e1 e2) := by
  rw [Tt.drop_at hx, Tt.drop_at hy, Tt.sameL]
theorem Tt.sameL_len (e1 e2 : List (Int × Int)) : ∀ {l l' : List Tt}, l.length ≠ l'.length → Tt.sameL l l' e1 e2 = false
  | [], [], h => absurd rfl h
  | [], _ :: _, _ => by rw [Tt.sameL]; all_goals simp
  | _ :: _, [], _ => by rw [Tt.sameL]; all_goals simp
  | a :: r, b :: r', h => by rw [Tt.sameL]; show (_ && Tt.sameL r r' e1 e2) = false; rw [Tt.sameL_len e1 e2 (l := r) (l' := r') (by simpa using h), Bool.and_false]

abbrev TW : TypeId := 88
set_option maxHeartbeats 1000000 in
set_option maxRecDepth 100000 in
theorem one_any (w : World) (M B B' : Nat) (T : TypeId) (vs : List Value) (q q' : Nat) (mv lv mv' lv' : Value) (e e' : List (Int × Int)) (n n' : Nat) (x y : Int) (hx : R64 x) (hy : R64 y) (h : Wk w M T vs q B mv lv e n) (h' : Wk w M T vs q' B' mv' lv' e' n') : Calls Tryz.prog 109 #[.pointer (some ⟨M, q + 2, none⟩), .pointer (some ⟨M, q' + 2, none⟩), .int .i64 x, .int .i64 y] w fun r w' => r = .returned (.bool (Tt.one e e' x y)) ∧ w' = w := by
  have F1 := hid (find_any w M (q + 2) B T vs mv lv e n x hx h.arr h.m h.scp)
  have F2 := hid (find_any w M (q' + 2) B' T vs mv' lv' e' n' y hy h'.arr h'.m h'.scp)
  have HO : Hid (Tt.one e e' x y = match lk e x, lk e' y with | none, none => x == y | some a, some b => a == b | _, _ => false) := rfl
  clear h h' hx hy
  have m1 := True.intro
  generalize Tt.one e e' x y = res at HO ⊢
  cases h1 : lk e x with
  | none =>
    rw [h1] at F1 HO
    cases h2 : lk e' y with
    | none =>
      rw [h2] at F2 HO
      clear h1 h2
      go_enter Tryz.func109, Tryz.ntmps109
      go_wp2_with (first
        | (go_at_call 102; have _ := m1; refine (F1.out).mono ?_; rintro r w3 ⟨rfl, hw⟩; rw [hw]; clear hw w3 m1)
        | (go_at_call 102; refine (F2.out).mono ?_; rintro r w3 ⟨rfl, hw⟩; rw [hw]; clear hw w3))
      go_ret
      exact ⟨ret_bool HO.out.symm, rfl⟩
    | some b =>
      rw [h2] at F2 HO
      clear h1 h2
      go_enter Tryz.func109, Tryz.ntmps109
      go_wp2_with (first
        | (go_at_call 102; have _ := m1; refine (F1.out).mono ?_; rintro r w3 ⟨rfl, hw⟩; rw [hw]; clear hw w3 m1)
        | (go_at_call 102; refine (F2.out).mono ?_; rintro r w3 ⟨rfl, hw⟩; rw [hw]; clear hw w3))
      go_ret
      exact ⟨ret_bool HO.out.symm, rfl⟩
  | some a =>
    rw [h1] at F1 HO
    cases h2 : lk e' y with
    | none =>
      rw [h2] at F2 HO
      clear h1 h2
      go_enter Tryz.func109, Tryz.ntmps109
      go_wp2_with (first
        | (go_at_call 102; have _ := m1; refine (F1.out).mono ?_; rintro r w3 ⟨rfl, hw⟩; rw [hw]; clear hw w3 m1)
        | (go_at_call 102; refine (F2.out).mono ?_; rintro r w3 ⟨rfl, hw⟩; rw [hw]; clear hw w3))
      go_ret
      exact ⟨ret_bool HO.out.symm, rfl⟩
    | some b =>
      rw [h2] at F2 HO
      clear h1 h2
      go_enter Tryz.func109, Tryz.ntmps109
      go_wp2_with (first
        | (go_at_call 102; have _ := m1; refine (F1.out).mono ?_; rintro r w3 ⟨rfl, hw⟩; rw [hw]; clear hw w3 m1)
        | (go_at_call 102; refine (F2.out).mono ?_; rintro r w3 ⟨rfl, hw⟩; rw [hw]; clear hw w3))
      go_ret
      exact ⟨ret_bool HO.out.symm, rfl⟩

set_option maxHeartbeats 1000000 in
set_option maxRecDepth 100000 in
theorem sameNumber_any (w : World) (M B B' : Nat) (T : TypeId) (vs : List Value) (mv lv mv' lv' : Value) (e e' : List (Int × Int)) (n n' : Nat) (h : Wk w M T vs 0 B mv lv e n) (h' : Wk w M T vs 6 B' mv' lv' e' n') (k b o b' o' : Nat) (t t' : Tt) (hP : PAt w Any k b o t) (hP' : PAt w Any k b' o' t') :
    Calls Tryz.prog 74 #[.pointer (some ⟨M, 0, none⟩), .pointer (some ⟨b, o, none⟩), .pointer (some ⟨b', o', none⟩)] w fun r w' => r = .returned (.bool (Tt.num e e' t t')) ∧ ∃ m, w' = w.drewN m := by
  obtain ⟨kk, rfl⟩ := hP.pos
  obtain ⟨-, -, -, -, e0, e1, -, -, hk, hN, -, -⟩ := hP.cells
  obtain ⟨-, -, -, -, -, e1', -, -, -, hN', -, -⟩ := hP'.cells
  have BQ := hid (binds_any w _ _ b o t hP)
  have OQ : Hid (∀ m, Calls Tryz.prog 109 #[.pointer (some ⟨M, 2, none⟩), .pointer (some ⟨M, 8, none⟩), .int .i64 t.n, .int .i64 t'.n] (w.drewN m) fun r w' => r = .returned (.bool (Tt.one e e' t.n t'.n)) ∧ w' = w.drewN m) := fun m => one_any (w.drewN m) M B B' T vs 0 6 mv lv mv' lv' e e' n n' t.n t'.n hN hN' (h.stays (bl_drewN _ _)) (h'.stays (bl_drewN _ _))
  have HN : Hid (Tt.num e e' t t' = if t.binds then true else if t.k = 6 then Tt.one e e' t.n t'.n else t.n == t'.n) := rfl
  generalize Tt.num e e' t t' = res at HN ⊢
  clear h h' hN hN' hk hP hP'
  cases hb : t.binds with
  | true =>
    rw [hb] at BQ HN
    simp only [if_true] at HN
    clear hb e0 e1 e1' OQ
    go_enter Tryz.func74, Tryz.ntmps74
    go_wp2_with (go_at_call 103; refine (BQ.out).mono ?_; rintro r w3 ⟨rfl, hw⟩; rw [hw]; clear hw w3)
    go_ret
    exact ⟨ret_bool HN.out.symm, 0, rfl⟩
  | false =>
    rw [hb] at BQ HN
    simp only [Bool.false_eq_true, if_false] at HN
    by_cases h6 : t.k = 6
    · rw [if_pos h6] at HN
      have g6 : (t.k == 6) = true := by simpa using h6
      clear hb h6
      go_enter Tryz.func74, Tryz.ntmps74
      go_wp2_with (go_at_call 103; refine (BQ.out).mono ?_; rintro r w3 ⟨rfl, hw⟩; rw [hw]; clear hw w3)
      go_quiet (first | (go_at_call 109; refine Calls.quiet_of_same (OQ.out _)))
      go_wp2
      go_ret
      exact ⟨ret_bool HN.out.symm, _, rfl⟩
    · rw [if_neg h6] at HN
      have g6 : (t.k == 6) = false := by simpa using h6
      clear hb h6 OQ
      go_enter Tryz.func74, Tryz.ntmps74
      go_wp2_with (go_at_call 103; refine (BQ.out).mono ?_; rintro r w3 ⟨rfl, hw⟩; rw [hw]; clear hw w3)
      go_quiet (fail)
      go_wp2
      go_ret
      exact ⟨ret_bool HN.out.symm, _, rfl⟩
end Go.Proofs.YtfeppchgmobfpaaGreatDoor
