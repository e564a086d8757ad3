/- Two side by side: texts; a number; the mathematics of being one. The twin's state. -/
import Derived.Test.YtigliglmejkakaaGreatRat
import Derived.Test.YtigliglmejkakaaGreatRap
namespace Go.Proofs.YtigliglmejkakaaGreat.Tgt
open Go.RowKit
set_option linter.unusedVariables false
set_option linter.unusedSimpArgs false

def Tt.eqS (a b : ByteArray) : Bool := a.toList == b.toList
def Tt.eqLs : List ByteArray → List ByteArray → Bool
  | [], [] => true
  | a :: r, b :: r' => Tt.eqS a b && Tt.eqLs r r'
  | _, _ => false
theorem Tt.eqLs_len : ∀ {l l' : List ByteArray}, l.length ≠ l'.length → Tt.eqLs l l' = false
  | [], [], h => absurd rfl h
  | [], _ :: _, _ => rfl
  | _ :: _, [], _ => rfl
  | a :: r, b :: r', h => by rw [Tt.eqLs, Tt.eqLs_len (l := r) (l' := r') (by simpa using h), Bool.and_false]
theorem Tt.eqLs_at {l l' : List ByteArray} {k : Nat} {x y : ByteArray} (hx : l[k]? = some x) (hy : l'[k]? = some y) : Tt.eqLs (l.drop k) (l'.drop k) = (Tt.eqS x y && Tt.eqLs (l.drop (k + 1)) (l'.drop (k + 1))) := by
  obtain ⟨h1, rfl⟩ := List.getElem?_eq_some_iff.1 hx
  obtain ⟨h2, rfl⟩ := List.getElem?_eq_some_iff.1 hy
  rw [List.drop_eq_getElem_cons h1, List.drop_eq_getElem_cons h2, Tt.eqLs]
theorem neq_str (a b : ByteArray) : binOp .neq 9 (.string a) (.string b) = pure (.bool !(Tt.eqS a b)) := by
  simp [binOp, Op.stringOp, Tt.eqS, beq_toListBytes]

set_option maxHeartbeats 1000000 in
set_option maxRecDepth 100000 in
theorem equal_any (w : World) (v v' : Value) (l l' : List ByteArray) (h : Sl w Any v l) (h' : Sl w Any v' l') : Calls Tryz.prog 52 #[v, v'] w fun e w' => e = .returned (.bool (Tt.eqLs l l')) ∧ ∃ m, w' = w.drewN m := by
  obtain ⟨a, c, rfl, hm⟩ := h.form
  obtain ⟨a', c', rfl, hm'⟩ := h'.form
  unfold maxLen at hm hm'
  have HL : Hid (Sl w Any (.slice a l.length c) l) := h
  have HL' : Hid (Sl w Any (.slice a' l'.length c') l') := h'
  clear h h'
  by_cases hlen : l.length = l'.length
  · have hle : ((l.length : Int) != (l'.length : Int)) = false := by simp [hlen]
    have HLE := hid hlen
    have hne := neq_str
    clear hlen
    go_enter Tryz.func52, Tryz.ntmps52
    go_wp2
    go_loopw [13] (fun v wr => ∃ k : Nat, v = .int .i64 k ∧ k ≤ l.length ∧ Hid (Tt.eqLs l l' = Tt.eqLs (l.drop k) (l'.drop k)) ∧ Hid (∃ m, wr = w.drewN m)) (fun v _ => l.length - (intOf v).toNat)
    case atStart => exact ⟨0, rfl, Nat.zero_le _, rfl, ⟨0, rfl⟩⟩
    case round =>
      obtain ⟨k, rfl, hkl, hH, hD⟩ := hrel
      have hB : Below w.heap.size w wr := by obtain ⟨m, rfl⟩ := hD.out; exact bl_drewN _ _
      by_cases hlt : k < l.length
      · obtain ⟨x, hx⟩ : ∃ x, l[k]? = some x := ⟨_, List.getElem?_eq_getElem hlt⟩
        obtain ⟨y, hy⟩ : ∃ y, l'[k]? = some y := ⟨_, List.getElem?_eq_getElem (by rw [← HLE.out]; exact hlt)⟩
        obtain ⟨b, o, rfl, cx⟩ : ∃ b o, a = some ⟨b, o, none⟩ ∧ wr.cell? ⟨b, o + k, none⟩ = some (.string x) := by
          rcases HL.out with ⟨b, o, c', hv, -, -, -, hc⟩ | ⟨rfl, -⟩
          · injection hv with e1 e2 e3
            exact ⟨b, o, e1, Keeps.of_below (K := Any) hB b _ _ trivial (hc k x hx)⟩
          · simp at hx
        obtain ⟨b', o', rfl, cy⟩ : ∃ b o, a' = some ⟨b, o, none⟩ ∧ wr.cell? ⟨b, o + k, none⟩ = some (.string y) := by
          rcases HL'.out with ⟨b, o, c', hv, -, -, -, hc⟩ | ⟨rfl, -⟩
          · injection hv with e1 e2 e3
            exact ⟨b, o, e1, Keeps.of_below (K := Any) hB b _ _ trivial (hc k y hy)⟩
          · simp at hy
        have HX : Hid (Tt.eqLs l l' = (Tt.eqS x y && Tt.eqLs (l.drop (k + 1)) (l'.drop (k + 1)))) := hH.out.trans (Tt.eqLs_at hx hy)
        have hlt2 : (k : Int) < l.length := by omega
        have hlt3 : (k : Int) < l'.length := by have := HLE.out; omega
        clear hH HL HL' hx hy hB
        cases hxy : Tt.eqS x y with
        | true =>
          rw [hxy, Bool.true_and] at HX
          go_wp2
          go_quiet (fail)
          go_wp2
          go_roundw
          case rel => exact ⟨k + 1, by go_num, by omega, HX, by obtain ⟨m, rfl⟩ := hD.out; exact ⟨_, by rw [World.drewN_drewN]⟩⟩
          case measure => simp [intOf]; omega
        | false =>
          rw [hxy, Bool.false_and] at HX
          go_wp2
          go_quiet (fail)
          go_wp2
          go_ret
          exact ⟨ret_bool HX.out.symm, by obtain ⟨m, rfl⟩ := hD.out; exact ⟨_, by rw [World.drewN_drewN]⟩⟩
      · have HX : Hid (Tt.eqLs l l' = true) := by
          show _ = _
          rw [hH.out, List.drop_eq_nil_of_le (by omega), List.drop_eq_nil_of_le (by have := HLE.out; omega)]; rfl
        clear hH HL HL'
        go_wp2
        go_ret
        exact ⟨ret_bool HX.out.symm, hD.out⟩
  · have hle : ((l.length : Int) != (l'.length : Int)) = true := by simp; omega
    have HX : Hid (Tt.eqLs l l' = false) := Tt.eqLs_len hlen
    clear hlen HL HL'
    go_enter Tryz.func52, Tryz.ntmps52
    go_wp2
    go_ret
    exact ⟨ret_bool HX.out.symm, 0, rfl⟩
/-- Two keys: bound by binders at one place, or both free and the same. -/
def Tt.one (e1 e2 : List (Int × Int)) (x y : Int) : Bool := match lk e1 x, lk e2 y with
  | none, none => x == y
  | some a, some b => a == b
  | _, _ => false
def Tt.num (e1 e2 : List (Int × Int)) (a b : Tt) : Bool := if a.binds then true else if a.k = 6 then Tt.one e1 e2 a.n b.n else a.n == b.n
/-- Are the nodes alike, but for their parts? -/
def Tt.alike (e1 e2 : List (Int × Int)) (a b : Tt) : Bool := a.k == b.k && ((a.ks.length : Int) == b.ks.length && (Tt.eqLs a.ls b.ls && Tt.num e1 e2 a b))
mutual
/-- One up to what is bound. -/
def Tt.same : Tt → Tt → List (Int × Int) → List (Int × Int) → Bool
  | .mk k n ls ks, .mk k' n' ls' ks' => fun e1 e2 => Tt.alike e1 e2 (.mk k n ls ks) (.mk k' n' ls' ks') && Tt.sameL ks ks' ((Tt.mk k n ls ks).env e1) ((Tt.mk k' n' ls' ks').env e2)
def Tt.sameL : List Tt → List Tt → List (Int × Int) → List (Int × Int) → Bool
  | [], [] => fun _ _ => true
  | x :: r, y :: r' => fun e1 e2 => Tt.same x y e1 e2 && Tt.sameL r r' e1 e2
  | _, _ => fun _ _ => false
end
theorem Tt.same_mk (a b : Tt) (e1 e2 : List (Int × Int)) : Tt.same a b e1 e2 = (Tt.alike e1 e2 a b && Tt.sameL a.ks b.ks (a.env e1) (b.env e2)) := by cases a; cases b; rw [Tt.same]; rfl
theorem Tt.sameL_at {l l' : List Tt} {k : Nat} {x y : Tt} (hx : l[k]? = some x) (hy : l'[k]? = some y) (e1 e2 : List (Int × Int)) : Tt.sameL (l.drop k) (l'.drop k) e1 e2 = (Tt.same x y e1 e2 && Tt.sameL (l.drop (k + 1)) (l'.drop (k + 1)) e1 e2) := by
  rw [Tt.drop_at hx, Tt.drop_at hy, Tt.sameL]
theorem Tt.sameL_len (e1 e2 : List (Int × Int)) : ∀ {l l' : List Tt}, l.length ≠ l'.length → Tt.sameL l l' e1 e2 = false
  | [], [], h => absurd rfl h
  | [], _ :: _, _ => by rw [Tt.sameL]; all_goals simp
  | _ :: _, [], _ => by rw [Tt.sameL]; all_goals simp
  | a :: r, b :: r', h => by rw [Tt.sameL]; show (_ && Tt.sameL r r' e1 e2) = false; rw [Tt.sameL_len e1 e2 (l := r) (l' := r') (by simpa using h), Bool.and_false]

abbrev TW : TypeId := 83
set_option maxHeartbeats 1000000 in
set_option maxRecDepth 100000 in
theorem one_any (w : World) (M B B' : Nat) (T : TypeId) (vs : List Value) (q q' : Nat) (mv lv mv' lv' : Value) (e e' : List (Int × Int)) (n n' : Nat) (x y : Int) (hx : R64 x) (hy : R64 y) (h : Wk w M T vs q B mv lv e n) (h' : Wk w M T vs q' B' mv' lv' e' n') : Calls Tryz.prog 91 #[.pointer (some ⟨M, q + 2, none⟩), .pointer (some ⟨M, q' + 2, none⟩), .int .i64 x, .int .i64 y] w fun r w' => r = .returned (.bool (Tt.one e e' x y)) ∧ w' = w := by
  have F1 := hid (find_any w M (q + 2) B T vs mv lv e n x hx h.arr h.m h.scp)
  have F2 := hid (find_any w M (q' + 2) B' T vs mv' lv' e' n' y hy h'.arr h'.m h'.scp)
  have HO : Hid (Tt.one e e' x y = match lk e x, lk e' y with | none, none => x == y | some a, some b => a == b | _, _ => false) := rfl
  clear h h' hx hy
  have m1 := True.intro
  generalize Tt.one e e' x y = res at HO ⊢
  cases h1 : lk e x with
  | none =>
    rw [h1] at F1 HO
    cases h2 : lk e' y with
    | none =>
      rw [h2] at F2 HO
      clear h1 h2
      go_enter Tryz.func91, Tryz.ntmps91
      go_wp2_with (first
        | (go_at_call 98; have _ := m1; refine (F1.out).mono ?_; rintro r w3 ⟨rfl, hw⟩; rw [hw]; clear hw w3 m1)
        | (go_at_call 98; refine (F2.out).mono ?_; rintro r w3 ⟨rfl, hw⟩; rw [hw]; clear hw w3))
      go_ret
      exact ⟨ret_bool HO.out.symm, rfl⟩
    | some b =>
      rw [h2] at F2 HO
      clear h1 h2
      go_enter Tryz.func91, Tryz.ntmps91
      go_wp2_with (first
        | (go_at_call 98; have _ := m1; refine (F1.out).mono ?_; rintro r w3 ⟨rfl, hw⟩; rw [hw]; clear hw w3 m1)
        | (go_at_call 98; refine (F2.out).mono ?_; rintro r w3 ⟨rfl, hw⟩; rw [hw]; clear hw w3))
      go_ret
      exact ⟨ret_bool HO.out.symm, rfl⟩
  | some a =>
    rw [h1] at F1 HO
    cases h2 : lk e' y with
    | none =>
      rw [h2] at F2 HO
      clear h1 h2
      go_enter Tryz.func91, Tryz.ntmps91
      go_wp2_with (first
        | (go_at_call 98; have _ := m1; refine (F1.out).mono ?_; rintro r w3 ⟨rfl, hw⟩; rw [hw]; clear hw w3 m1)
        | (go_at_call 98; refine (F2.out).mono ?_; rintro r w3 ⟨rfl, hw⟩; rw [hw]; clear hw w3))
      go_ret
      exact ⟨ret_bool HO.out.symm, rfl⟩
    | some b =>
      rw [h2] at F2 HO
      clear h1 h2
      go_enter Tryz.func91, Tryz.ntmps91
      go_wp2_with (first
        | (go_at_call 98; have _ := m1; refine (F1.out).mono ?_; rintro r w3 ⟨rfl, hw⟩; rw [hw]; clear hw w3 m1)
        | (go_at_call 98; refine (F2.out).mono ?_; rintro r w3 ⟨rfl, hw⟩; rw [hw]; clear hw w3))
      go_ret
      exact ⟨ret_bool HO.out.symm, rfl⟩

set_option maxHeartbeats 1000000 in
set_option maxRecDepth 100000 in
theorem sameNumber_any (w : World) (M B B' : Nat) (T : TypeId) (vs : List Value) (mv lv mv' lv' : Value) (e e' : List (Int × Int)) (n n' : Nat) (h : Wk w M T vs 0 B mv lv e n) (h' : Wk w M T vs 6 B' mv' lv' e' n') (k b o b' o' : Nat) (t t' : Tt) (hP : PAt w Any k b o t) (hP' : PAt w Any k b' o' t') :
    Calls Tryz.prog 53 #[.pointer (some ⟨M, 0, none⟩), .pointer (some ⟨b, o, none⟩), .pointer (some ⟨b', o', none⟩)] w fun r w' => r = .returned (.bool (Tt.num e e' t t')) ∧ ∃ m, w' = w.drewN m := by
  obtain ⟨kk, rfl⟩ := hP.pos
  obtain ⟨-, -, -, -, e0, e1, -, -, hk, hN, -, -⟩ := hP.cells
  obtain ⟨-, -, -, -, -, e1', -, -, -, hN', -, -⟩ := hP'.cells
  have BQ := hid (binds_any w _ _ b o t hP)
  have OQ : Hid (∀ m, Calls Tryz.prog 91 #[.pointer (some ⟨M, 2, none⟩), .pointer (some ⟨M, 8, none⟩), .int .i64 t.n, .int .i64 t'.n] (w.drewN m) fun r w' => r = .returned (.bool (Tt.one e e' t.n t'.n)) ∧ w' = w.drewN m) := fun m => one_any (w.drewN m) M B B' T vs 0 6 mv lv mv' lv' e e' n n' t.n t'.n hN hN' (h.stays (bl_drewN _ _)) (h'.stays (bl_drewN _ _))
  have HN : Hid (Tt.num e e' t t' = if t.binds then true else if t.k = 6 then Tt.one e e' t.n t'.n else t.n == t'.n) := rfl
  generalize Tt.num e e' t t' = res at HN ⊢
  clear h h' hN hN' hk hP hP'
  cases hb : t.binds with
  | true =>
    rw [hb] at BQ HN
    simp only [if_true] at HN
    clear hb e0 e1 e1' OQ
    go_enter Tryz.func53, Tryz.ntmps53
    go_wp2_with (go_at_call 90; refine (BQ.out).mono ?_; rintro r w3 ⟨rfl, hw⟩; rw [hw]; clear hw w3)
    go_ret
    exact ⟨ret_bool HN.out.symm, 0, rfl⟩
  | false =>
    rw [hb] at BQ HN
    simp only [Bool.false_eq_true, if_false] at HN
    by_cases h6 : t.k = 6
    · rw [if_pos h6] at HN
      have g6 : (t.k == 6) = true := by simpa using h6
      clear hb h6
      go_enter Tryz.func53, Tryz.ntmps53
      go_wp2_with (go_at_call 90; refine (BQ.out).mono ?_; rintro r w3 ⟨rfl, hw⟩; rw [hw]; clear hw w3)
      go_quiet (first | (go_at_call 91; refine Calls.quiet_of_same (OQ.out _)))
      go_wp2
      go_ret
      exact ⟨ret_bool HN.out.symm, _, rfl⟩
    · rw [if_neg h6] at HN
      have g6 : (t.k == 6) = false := by simpa using h6
      clear hb h6 OQ
      go_enter Tryz.func53, Tryz.ntmps53
      go_wp2_with (go_at_call 90; refine (BQ.out).mono ?_; rintro r w3 ⟨rfl, hw⟩; rw [hw]; clear hw w3)
      go_quiet (fail)
      go_wp2
      go_ret
      exact ⟨ret_bool HN.out.symm, _, rfl⟩
end Go.Proofs.YtigliglmejkakaaGreat.Tgt

namespace Go.Proofs.YtigliglmejkakaaGreat.Tgt
open Go.RowKit
set_option linter.unusedVariables false
set_option linter.unusedSimpArgs false

theorem Wk.up {w : World} {M : Nat} {T : TypeId} {vs : List Value} {q B : Nat} {mv lv : Value} {e : List (Int × Int)} {n n' : Nat} (h : Wk w M T vs q B mv lv e n) (hn : n ≤ n') : Wk w M T vs q B mv lv e n' := ⟨h.arr, h.m, h.l, h.nm, h.nl, h.scp.le hn, h.lt, h.le⟩
/-- What one walker does leaves the other as it was. -/
theorem Wk.beside {w w' : World} {M : Nat} {T : TypeId} {vs vs' : List Value} {q q' B : Nat} {mv lv mv' lv' mo lo : Value} {e e' eo : List (Int × Int)} {n n' m : Nat} (h : Wk w M T vs q B mv lv e n) (ho : Wk w M T vs q' B mo lo eo m) (hd : ∀ b, Os mv lv b → ¬ Os mo lo b) (hq : q + 6 ≤ q' ∨ q' + 6 ≤ q) (hvs : vs' = (vs.set (q + 2) mv').set (q + 2 + 1) lv') (h' : Wk w' M T vs' q B mv' lv' e' n') (hev : Ev (Om M mv lv) w (Om M mv' lv') w') :
    Wk w' M T vs' q' B mo lo eo m ∧ ∀ b, Os mv' lv' b → ¬ Os mo lo b := by
  obtain ⟨-, -, h3⟩ := set_two (mv' := mv') (lv' := lv') h.m h.l
  have hv : ∀ j, j ≠ q + 2 → j ≠ q + 2 + 1 → vs'[j]? = vs[j]? := fun j a b => by rw [hvs]; exact h3 j a b
  refine ⟨⟨h'.arr, (hv _ (by omega) (by omega)).trans ho.m, (hv _ (by omega) (by omega)).trans ho.l, (hv _ (by omega) (by omega)).trans ho.nm, (hv _ (by omega) (by omega)).trans ho.nl, ho.scp.blocks (fun b hb => hev.block b (ho.scp.ge hb).2 (fun hq => ?_)), ho.lt, h'.le⟩, fun b hb hb2 => ?_⟩
  · rcases hq with rfl | hq
    · have := (ho.scp.ge hb).1; have := ho.lt; omega
    · exact hd b hq hb
  · have hg := ho.scp.ge hb2
    rcases hev.mine b (.inr hb) with (rfl | h1) | h1
    · have := ho.lt; omega
    · exact hd b h1 hb2
    · omega
/-- The twin in block M: what is bound on either side; what it owns. -/
def Tw (M : Nat) (w : World) (own : Nat → Prop) (e1 e2 : List (Int × Int)) (n : Nat) : Prop :=
  ∃ vs mv lv mv' lv', Wk w M TW vs 0 (M + 1) mv lv e1 n ∧ Wk w M TW vs 6 (M + 1) mv' lv' e2 n ∧ (∀ b, Os mv lv b → ¬ Os mv' lv' b) ∧ own = fun b => b = M ∨ Os mv lv b ∨ Os mv' lv' b
theorem Tw.own {M : Nat} {w : World} {own : Nat → Prop} {e1 e2 : List (Int × Int)} {n : Nat} (h : Tw M w own e1 e2 n) : ∀ b, own b → M ≤ b ∧ b < w.heap.size := by
  obtain ⟨vs, mv, lv, mv', lv', h1, h2, h3, rfl⟩ := h
  intro b hb
  rcases hb with rfl | hb | hb
  · exact ⟨Nat.le_refl _, h1.arr.lt⟩
  · have := h1.scp.ge hb; omega
  · have := h2.scp.ge hb; omega
theorem Tw.stays {M : Nat} {w w' : World} {own : Nat → Prop} {e1 e2 : List (Int × Int)} {n : Nat} (h : Tw M w own e1 e2 n) (hb : Below w.heap.size w w') : Tw M w' own e1 e2 n := by
  obtain ⟨vs, mv, lv, mv', lv', h1, h2, h3, h4⟩ := h
  exact ⟨vs, mv, lv, mv', lv', h1.stays hb, h2.stays hb, h3, h4⟩
theorem Tw.up {M : Nat} {w : World} {own : Nat → Prop} {e1 e2 : List (Int × Int)} {n m : Nat} (h : Tw M w own e1 e2 n) (hn : n ≤ m) : Tw M w own e1 e2 m := by
  obtain ⟨vs, mv, lv, mv', lv', h1, h2, h3, h4⟩ := h
  exact ⟨vs, mv, lv, mv', lv', h1.up hn, h2.up hn, h3, h4⟩
theorem Tw.other {M : Nat} {w : World} {own : Nat → Prop} {e1 e2 : List (Int × Int)} {n : Nat} (h : Tw M w own e1 e2 n) {p : Addr} (hp : ¬ own p.block) (v : Value) : Tw M (w.setCell p v) own e1 e2 n := by
  obtain ⟨vs, mv, lv, mv', lv', h1, h2, h3, h4⟩ := h
  rw [h4] at hp
  exact ⟨vs, mv, lv, mv', lv', h1.other (fun h => hp (h.elim .inl (fun h => .inr (.inl h)))) v, h2.other (fun h => hp (h.elim .inl (fun h => .inr (.inr h)))) v, h3, h4⟩
theorem Tw.left {M : Nat} {w : World} {own : Nat → Prop} {e1 e2 : List (Int × Int)} {n : Nat} (h : Tw M w own e1 e2 n) : ∃ vs mv lv, Wk w M TW vs 0 (M + 1) mv lv e1 n ∧ ∀ w' vs' mv' lv' e' n', n ≤ n' → vs' = (vs.set (0 + 2) mv').set (0 + 2 + 1) lv' → Wk w' M TW vs' 0 (M + 1) mv' lv' e' n' → Ev (Om M mv lv) w (Om M mv' lv') w' → ∃ own', Tw M w' own' e' e2 n' ∧ Ev own w own' w' := by
  obtain ⟨vs, mv, lv, mo, lo, h1, h2, h3, rfl⟩ := h
  refine ⟨vs, mv, lv, h1, fun w' vs' mv' lv' e' n' hn hvs h' hev => ?_⟩
  obtain ⟨g1, g2⟩ := h1.beside h2 h3 (.inl (by omega)) hvs h' hev
  refine ⟨_, ⟨vs', mv', lv', mo, lo, h', g1.up hn, g2, rfl⟩, ⟨hev.os, hev.tape, hev.output, hev.size, fun b hb => ?_, fun b hb hq => hev.block b hb (fun h => hq (h.elim .inl (fun h => .inr (.inl h))))⟩⟩
  rcases hb with rfl | hb | hb
  · exact .inl (.inl rfl)
  · exact (hev.mine b (.inr hb)).imp (fun h => h.elim .inl (fun h => .inr (.inl h))) id
  · exact .inl (.inr (.inr hb))
theorem Tw.right {M : Nat} {w : World} {own : Nat → Prop} {e1 e2 : List (Int × Int)} {n : Nat} (h : Tw M w own e1 e2 n) : ∃ vs mv lv, Wk w M TW vs 6 (M + 1) mv lv e2 n ∧ ∀ w' vs' mv' lv' e' n', n ≤ n' → vs' = (vs.set (6 + 2) mv').set (6 + 2 + 1) lv' → Wk w' M TW vs' 6 (M + 1) mv' lv' e' n' → Ev (Om M mv lv) w (Om M mv' lv') w' → ∃ own', Tw M w' own' e1 e' n' ∧ Ev own w own' w' := by
  obtain ⟨vs, mo, lo, mv, lv, h1, h2, h3, rfl⟩ := h
  refine ⟨vs, mv, lv, h2, fun w' vs' mv' lv' e' n' hn hvs h' hev => ?_⟩
  obtain ⟨g1, g2⟩ := h2.beside h1 (fun b a c => h3 b c a) (.inr (by omega)) hvs h' hev
  refine ⟨_, ⟨vs', mo, lo, mv', lv', g1.up hn, h', fun b a c => g2 b c a, rfl⟩, ⟨hev.os, hev.tape, hev.output, hev.size, fun b hb => ?_, fun b hb hq => hev.block b hb (fun h => hq (h.elim .inl (fun h => .inr (.inr h))))⟩⟩
  rcases hb with rfl | hb | hb
  · exact .inl (.inl rfl)
  · exact .inl (.inr (.inl hb))
  · exact (hev.mine b (.inr hb)).imp (fun h => h.elim .inl (fun h => .inr (.inr h))) id
theorem Ev.lt {own own' : Nat → Prop} {w w' : World} {M : Nat} (h : Ev own w own' w') (ho : ∀ b, own b → M ≤ b) : Keeps (fun b => b < M) w w' := fun b o v hb hv => (h.cell (p := ⟨b, o, none⟩) (World.block_lt_of_cell? w _ hv) (fun hq => by have := ho b hq; omega)).trans hv
theorem Tw.keeps {M : Nat} {w w' : World} {own own' : Nat → Prop} {e1 e2 : List (Int × Int)} {n : Nat} (h : Tw M w own e1 e2 n) (hev : Ev own w own' w') : Keeps (fun b => b < M) w w' := hev.lt (fun b hb => (h.own b hb).1)
theorem intoL (M : Nat) (w : World) (own : Nat → Prop) (e1 e2 : List (Int × Int)) (n k b o : Nat) (t : Tt) (h : Tw M w own e1 e2 n) (hP : PAt w (fun b => b < M) k b o t) (hn : n < 4611686018427387904) (he : e1.length < 1099511627776) : Calls Tryz.prog 54 #[.pointer (some ⟨M, 0, none⟩), .pointer (some ⟨b, o, none⟩)] w fun r w' => r = .returned (.agg #[.int .i64 e1.length, .int .i64 0]) ∧ ∃ own', Tw M w' own' (t.env e1) e2 (n + 1) ∧ Ev own w own' w' := by
  obtain ⟨vs, mv, lv, h1, h2⟩ := h.left
  refine (into_any w M TW vs 0 (M + 1) mv lv e1 n k b o t hP h1 hn he).mono ?_
  rintro r w' ⟨rfl, vs', mv', lv', hvs, hw, hev⟩
  exact ⟨rfl, h2 w' vs' mv' lv' _ _ (by omega) hvs hw hev⟩
theorem intoR (M : Nat) (w : World) (own : Nat → Prop) (e1 e2 : List (Int × Int)) (n k b o : Nat) (t : Tt) (h : Tw M w own e1 e2 n) (hP : PAt w (fun b => b < M) k b o t) (hn : n < 4611686018427387904) (he : e2.length < 1099511627776) : Calls Tryz.prog 54 #[.pointer (some ⟨M, 6, none⟩), .pointer (some ⟨b, o, none⟩)] w fun r w' => r = .returned (.agg #[.int .i64 e2.length, .int .i64 0]) ∧ ∃ own', Tw M w' own' e1 (t.env e2) (n + 1) ∧ Ev own w own' w' := by
  obtain ⟨vs, mv, lv, h1, h2⟩ := h.right
  refine (into_any w M TW vs 6 (M + 1) mv lv e2 n k b o t hP h1 hn he).mono ?_
  rintro r w' ⟨rfl, vs', mv', lv', hvs, hw, hev⟩
  exact ⟨rfl, h2 w' vs' mv' lv' _ _ (by omega) hvs hw hev⟩
theorem env_len (t : Tt) (e : List (Int × Int)) : e.length ≤ (t.env e).length ∧ (t.env e).length ≤ e.length + 1 ∧ (t.env e).drop ((t.env e).length - e.length) = e := by
  unfold Tt.env
  split
  · refine ⟨by simp, by simp, ?_⟩
    rw [List.length_cons, show e.length + 1 - e.length = 1 by omega]; rfl
  · simp
theorem backL (M : Nat) (w : World) (own : Nat → Prop) (e1 e2 : List (Int × Int)) (n : Nat) (t : Tt) (h : Tw M w own (t.env e1) e2 n) (hn : n + e1.length + 1 < 4611686018427387904) : Calls Tryz.prog 56 #[.pointer (some ⟨M, 0, none⟩), .agg #[.int .i64 e1.length, .int .i64 0]] w fun r w' => r = .returned (.tuple #[]) ∧ ∃ own', Tw M w' own' e1 e2 (n + e1.length + 1) ∧ Ev own w own' w' := by
  obtain ⟨vs, mv, lv, h1, h2⟩ := h.left
  obtain ⟨l1, l2, l3⟩ := env_len t e1
  refine (wback_any w M TW vs 0 (M + 1) mv lv (t.env e1) n e1.length h1 (by omega) l1).mono ?_
  rintro r w' ⟨rfl, vs', lv', hvs, hw, hev⟩
  rw [l3] at hw
  exact ⟨rfl, h2 w' vs' mv lv' _ _ (by omega) hvs (hw.up (by omega)) hev⟩
theorem backR (M : Nat) (w : World) (own : Nat → Prop) (e1 e2 : List (Int × Int)) (n : Nat) (t : Tt) (h : Tw M w own e1 (t.env e2) n) (hn : n + e2.length + 1 < 4611686018427387904) : Calls Tryz.prog 56 #[.pointer (some ⟨M, 6, none⟩), .agg #[.int .i64 e2.length, .int .i64 0]] w fun r w' => r = .returned (.tuple #[]) ∧ ∃ own', Tw M w' own' e1 e2 (n + e2.length + 1) ∧ Ev own w own' w' := by
  obtain ⟨vs, mv, lv, h1, h2⟩ := h.right
  obtain ⟨l1, l2, l3⟩ := env_len t e2
  refine (wback_any w M TW vs 6 (M + 1) mv lv (t.env e2) n e2.length h1 (by omega) l1).mono ?_
  rintro r w' ⟨rfl, vs', lv', hvs, hw, hev⟩
  rw [l3] at hw
  exact ⟨rfl, h2 w' vs' mv lv' _ _ (by omega) hvs (hw.up (by omega)) hev⟩
/-- A box that a walk has made, beside what it owns. -/
structure Bx (n0 : Nat) (w : World) (own : Nat → Prop) (p : Nat) (T : TypeId) (vs : List Value) : Prop where
  arr : Arr w p T vs
  no : ¬ own p
  ge : n0 ≤ p
theorem Bx.stays {n0 : Nat} {w w' : World} {own : Nat → Prop} {p : Nat} {T : TypeId} {vs : List Value} (h : Bx n0 w own p T vs) (hb : Below w.heap.size w w') : Bx n0 w' own p T vs := ⟨h.arr.stays hb, h.no, h.ge⟩
theorem Bx.ev {n0 : Nat} {w w' : World} {own own' : Nat → Prop} {p : Nat} {T : TypeId} {vs : List Value} (h : Bx n0 w own p T vs) (hev : Ev own w own' w') : Bx n0 w' own' p T vs := ⟨⟨(hev.block p h.arr.lt h.no).trans h.arr.b⟩, fun hq => (hev.mine p hq).elim h.no (fun hl => by have := h.arr.lt; omega), h.ge⟩
theorem Bx.new {n0 : Nat} {w : World} {own : Nat → Prop} (T : TypeId) (vs : List Value) (ho : ∀ b, own b → b < w.heap.size) (hn : n0 ≤ w.heap.size) : Bx n0 (w.alloc (.cells vs.toArray T)) own w.heap.size T vs := ⟨⟨heap_alloc_at _ _⟩, fun h => by have := ho _ h; omega, hn⟩
theorem Bx.set {n0 : Nat} {w : World} {own : Nat → Prop} {p : Nat} {T : TypeId} {vs : List Value} (h : Bx n0 w own p T vs) (j : Nat) (v : Value) : Bx n0 (w.setCell ⟨p, j, none⟩ v) own p T (vs.set j v) := ⟨h.arr.set j v, h.no, h.ge⟩
theorem Bx.other {n0 : Nat} {w : World} {own : Nat → Prop} {p : Nat} {T : TypeId} {vs : List Value} (h : Bx n0 w own p T vs) {a : Addr} (ha : p ≠ a.block) (v : Value) : Bx n0 (w.setCell a v) own p T vs := ⟨h.arr.other ha v, h.no, h.ge⟩
theorem Tw.init (w : World) : Tw w.heap.size (w.alloc (.cells #[.pointer none, .slice none 0 0, .map none, .slice none 0 0, .map none, .slice none 0 0, .pointer none, .slice none 0 0, .map none, .slice none 0 0, .map none, .slice none 0 0] TW)) (fun b => b = w.heap.size) [] [] 0 := by
  refine ⟨_, .map none, .slice none 0 0, .map none, .slice none 0 0, ⟨⟨heap_alloc_at _ _⟩, rfl, rfl, rfl, rfl, Scp.init _ _, by omega, by simp⟩, ⟨⟨heap_alloc_at _ _⟩, rfl, rfl, rfl, rfl, Scp.init _ _, by omega, by simp⟩, fun b hb => ?_, ?_⟩
  · rcases hb with hb | hb <;> cases hb
  · funext b
    apply propext
    constructor
    · exact .inl
    · rintro (h | (h | h) | (h | h))
      · exact h
      all_goals cases h
end Go.Proofs.YtigliglmejkakaaGreat.Tgt
