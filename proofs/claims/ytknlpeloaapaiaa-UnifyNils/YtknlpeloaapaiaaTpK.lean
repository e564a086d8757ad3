/- The order of types: Compare, Or, CompareFunc, Cmp, Same. -/
import Derived.Deep.RegionHeld
import Derived.Test.YtknlpeloaapaiaaTpN
namespace Go.Proofs.Ytknlpeloaapaiaa
open Go.RowKit
set_option linter.unusedVariables false
set_option linter.unusedSimpArgs false

theorem isNaN_any (a : Int) (w : World) : Calls Try.prog 102 #[.int .i64 a] w fun e w' => e = .returned (.bool false) ∧ w' = w := by
  have h : (a != a) = false := by simp
  go_enter Try.func102, Try.ntmps102
  go_wp2
  go_ret
  exact ⟨rfl, rfl⟩

theorem Compare_any (a b : Int) (w : World) : Calls Try.prog 74 #[.int .i64 a, .int .i64 b] w fun e w' => e = .returned (.int .i64 (Tp.num a b)) ∧ w' = w := by
  have q1 : Hid _ := isNaN_any a w
  have q2 : Hid _ := isNaN_any b w
  by_cases h1 : a < b
  · have H : Hid (Tp.num a b = -1) := if_pos h1
    go_enter Try.func74, Try.ntmps74
    go_wp2_with (first | (go_at_call 102; refine (isNaN_any _ _).mono ?_; rintro e w2 ⟨rfl, hw⟩; rw [hw]; clear hw w2))
    go_ret
    exact ⟨ret_int H.out.symm, rfl⟩
  · by_cases h2 : b < a
    · have H : Hid (Tp.num a b = 1) := by show _ = _; unfold Tp.num; rw [if_neg h1, if_pos h2]
      go_enter Try.func74, Try.ntmps74
      go_wp2_with (first | (go_at_call 102; refine (isNaN_any _ _).mono ?_; rintro e w2 ⟨rfl, hw⟩; rw [hw]; clear hw w2))
      go_ret
      exact ⟨ret_int H.out.symm, rfl⟩
    · have H : Hid (Tp.num a b = 0) := by show _ = _; unfold Tp.num; rw [if_neg h1, if_neg h2]
      go_enter Try.func74, Try.ntmps74
      go_wp2_with (first | (go_at_call 102; refine (isNaN_any _ _).mono ?_; rintro e w2 ⟨rfl, hw⟩; rw [hw]; clear hw w2))
      go_ret
      exact ⟨ret_int H.out.symm, rfl⟩
def Tp.orL : List Int → Int
  | [] => 0
  | x :: r => Tp.or x (Tp.orL r)
theorem Tp.orL_at {l : List Int} {k : Nat} {x : Int} (hx : l[k]? = some x) : Tp.orL (l.drop k) = Tp.or x (Tp.orL (l.drop (k + 1))) := by
  obtain ⟨h1, e1⟩ := List.getElem?_eq_some_iff.1 hx
  rw [List.drop_eq_getElem_cons h1, e1, Tp.orL]

set_option maxHeartbeats 1000000 in
set_option maxRecDepth 100000 in
theorem Or_any (w : World) (v : Value) (l : List Int) (h : Ls w Any v l) : Calls Try.prog 73 #[v] w fun e w' => e = .returned (.int .i64 (Tp.orL l)) ∧ w' = w := by
  obtain ⟨a, c, rfl, hm⟩ := h.form
  unfold maxLen at hm
  go_enter Try.func73, Try.ntmps73
  go_wp2
  go_loopw [8] (fun v wr => ∃ k : Nat, v = .int .i64 k ∧ k ≤ l.length ∧ Hid (Tp.orL l = Tp.orL (l.drop k)) ∧ wr = w) (fun v _ => l.length - (intOf v).toNat)
  case atStart => exact ⟨0, rfl, Nat.zero_le _, rfl, rfl⟩
  case round =>
    obtain ⟨k, rfl, hk, hH, rfl⟩ := hrel
    by_cases hlt : k < l.length
    · obtain ⟨b, o, c', hv, -, -, -, hl⟩ := h.resolve_right (fun h => by rw [h.1] at hlt; exact absurd hlt (Nat.not_lt_zero _))
      injection hv with e1 e2 e3
      subst e1
      obtain ⟨x, hx⟩ : ∃ x, l[k]? = some x := ⟨_, List.getElem?_eq_getElem hlt⟩
      have hc := hl k x hx
      have HX := hH.out
      rw [Tp.orL_at hx] at HX
      clear hl hx hH h e2 e3
      by_cases he : x = 0
      · have HY : Hid (Tp.orL l = Tp.orL (l.drop (k + 1))) := by show _ = _; rw [HX]; unfold Tp.or; rw [if_pos he]
        have he2 : (x != 0) = false := by simp [he]
        clear HX he
        go_wp2
        go_roundw
        case rel => exact ⟨k + 1, by go_num, by omega, HY, by first | trivial | rfl⟩
        case measure => simp [intOf]; omega
      · have HY : Hid (Tp.orL l = x) := by show _ = _; rw [HX]; unfold Tp.or; rw [if_neg he]
        have he2 : (x != 0) = true := by simp [he]
        clear HX he
        go_wp2
        go_ret
        exact ⟨ret_int HY.out.symm, rfl⟩
    · have HX : Hid (Tp.orL l = 0) := by
        show _ = _
        rw [hH.out, List.drop_eq_nil_of_le (by omega)]; rfl
      clear hH h
      go_wp2
      go_ret
      exact ⟨ret_int HX.out.symm, rfl⟩

theorem Tp.cmp_mk (a b : Tp) : Tp.cmp a b = Tp.or (Tp.num a.k b.k) (Tp.or (Tp.num a.n b.n) (Tp.or (Tp.num a.ks.length b.ks.length) (Tp.cmpL a.ks b.ks))) := by
  cases a; cases b; rw [Tp.cmp]; rfl
theorem Tp.cmpL_at {xs ys : List Tp} {k : Nat} {x y : Tp} (hx : xs[k]? = some x) (hy : ys[k]? = some y) : Tp.cmpL (xs.drop k) (ys.drop k) = Tp.or (Tp.cmp x y) (Tp.cmpL (xs.drop (k + 1)) (ys.drop (k + 1))) := by
  obtain ⟨h1, e1⟩ := List.getElem?_eq_some_iff.1 hx
  obtain ⟨h2, e2⟩ := List.getElem?_eq_some_iff.1 hy
  rw [List.drop_eq_getElem_cons h1, e1, List.drop_eq_getElem_cons h2, e2, Tp.cmpL]
theorem Tp.cmpL_nil : Tp.cmpL [] [] = 0 := by rw [Tp.cmpL]
def CmpOf (f : FuncId) (n : Nat) : Prop := ∀ (w : World) (m : Nat) (va vb : List Value) (a b : Tp), TAt w Any n va a → TAt w Any m vb b → Calls Try.prog f #[.agg va.toArray, .agg vb.toArray] w fun e w' => e = .returned (.int .i64 (Tp.cmp a b)) ∧ Below w.heap.size w w'

set_option maxHeartbeats 1000000 in
set_option maxRecDepth 100000 in
theorem CompareFunc_any (n : Nat) (ih : CmpOf 46 n) (w : World) (m : Nat) (v1 v2 : Value) (xs ys : List Tp) (h1 : TAtL w Any n v1 xs) (h2 : TAtL w Any m v2 ys) (hl : xs.length = ys.length) :
    Calls Try.prog 75 #[v1, v2, .func (.func 46) #[] #[]] w fun e w' => e = .returned (.int .i64 (Tp.cmpL xs ys)) ∧ Below w.heap.size w w' := by
  obtain ⟨a1, c1, e1, hx⟩ := h1.form
  obtain ⟨a2, c2, e2, hy⟩ := h2.form
  unfold maxLen at hx hy
  have HL : Hid (xs.length = ys.length) := hl
  rw [← hl] at e2
  subst e1; subst e2
  have H1 : Hid (TAtL w Any n (.slice a1 xs.length c1) xs) := h1
  have H2 : Hid (TAtL w Any m (.slice a2 xs.length c2) ys) := h2
  clear h1 h2 hl hy
  go_enter Try.func75, Try.ntmps75
  go_wp2
  go_loopw [13] (fun v wr => ∃ k : Nat, v = .int .i64 k ∧ k ≤ xs.length ∧ Hid (Tp.cmpL xs ys = Tp.cmpL (xs.drop k) (ys.drop k)) ∧ Below w.heap.size w wr) (fun v _ => xs.length - (intOf v).toNat)
  case atStart => exact ⟨0, rfl, Nat.zero_le _, rfl, Below.refl _ _⟩
  case round =>
    obtain ⟨k, rfl, hk, hH, hB⟩ := hrel
    by_cases hlt : k < xs.length
    · obtain ⟨g1, o1, rfl⟩ : ∃ b o, a1 = some ⟨b, o, none⟩ := by
        rcases H1.out with ⟨b, o, c, hv, -⟩ | ⟨h0, -⟩
        · injection hv with e1 e2 e3; exact ⟨b, o, e1⟩
        · rw [h0] at hlt; exact absurd hlt (Nat.not_lt_zero _)
      obtain ⟨g2, o2, rfl⟩ : ∃ b o, a2 = some ⟨b, o, none⟩ := by
        rcases H2.out with ⟨b, o, c, hv, -⟩ | ⟨h0, -⟩
        · injection hv with e1 e2 e3; exact ⟨b, o, e1⟩
        · rw [HL.out, h0] at hlt; exact absurd hlt (Nat.not_lt_zero _)
      obtain ⟨x, hxk⟩ : ∃ x, xs[k]? = some x := ⟨_, List.getElem?_eq_getElem hlt⟩
      obtain ⟨y, hyk⟩ : ∃ y, ys[k]? = some y := ⟨_, List.getElem?_eq_getElem (by rw [← HL.out]; exact hlt)⟩
      obtain ⟨vx, tx, x0, x1, x2, -, -⟩ := (H1.out.below hB).elem hxk
      obtain ⟨vy, ty, -, -, -, -, -⟩ := (H2.out.below hB).elem hyk
      have hz : ∀ o, ∃ vy, TAt (wr.alloc o) Any m [.int .i64 y.k, .int .i64 y.n, vy] y ∧ (wr.alloc o).cell? ⟨g2, o2 + k * 3, none⟩ = some (.int .i64 y.k) ∧ (wr.alloc o).cell? ⟨g2, o2 + k * 3 + 1, none⟩ = some (.int .i64 y.n) ∧ (wr.alloc o).cell? ⟨g2, o2 + k * 3 + 2, none⟩ = some vy := fun o => by
        obtain ⟨vy, t1, y0, y1, y2, -, -⟩ := (H2.out.below (bl_alloc hB o)).elem hyk
        exact ⟨vy, t1, y0, y1, y2⟩
      obtain ⟨ax, cx, ex⟩ := tx.form
      simp only [List.cons.injEq, and_true, true_and] at ex
      subst ex
      obtain ⟨vy, ty, z0, z1, z2⟩ := hz (.cells #[.int .i64 x.k, .int .i64 x.n, .slice ax x.ks.length cx] 24)
      obtain ⟨ay, cy, ey⟩ := ty.form
      simp only [List.cons.injEq, and_true, true_and] at ey
      subst ey
      have HQ : Hid (∀ o, Calls Try.prog 46 #[.agg #[.int .i64 x.k, .int .i64 x.n, .slice ax x.ks.length cx], .agg #[.int .i64 y.k, .int .i64 y.n, .slice ay y.ks.length cy]] ((wr.alloc (.cells #[.int .i64 x.k, .int .i64 x.n, .slice ax x.ks.length cx] 24)).alloc o) fun e w'' => e = .returned (.int .i64 (Tp.cmp x y)) ∧ Below wr.heap.size wr w'') := fun o => (ih _ m _ _ x y ((tx.below (bl_alloc (Below.refl _ _) _)).below (bl_alloc (Below.refl _ _) o)) (ty.below (bl_alloc (Below.refl _ _) o))).mono fun e w'' ⟨h1, h2⟩ => ⟨h1, bl_tr (bl_alloc (bl_alloc (Below.refl _ _) _) _) h2⟩
      have HX := hH.out
      rw [Tp.cmpL_at hxk hyk] at HX
      have hlt2 : Hid (k < ys.length) := by show _ < _; rw [← HL.out]; exact hlt
      clear hH hxk hyk H1 H2 tx ty hz ih
      generalize Tp.cmp x y = q at HQ HX
      by_cases he : q = 0
      · have HY : Hid (Tp.cmpL xs ys = Tp.cmpL (xs.drop (k + 1)) (ys.drop (k + 1))) := by show _ = _; rw [HX]; unfold Tp.or; rw [if_pos he]
        have he2 : (q != 0) = false := by simp [he]
        clear HX he
        go_wp2_with (go_at_call 46; refine (HQ.out _).mono ?_; rintro e w2 ⟨rfl, hb2⟩)
        go_roundw
        case rel => exact ⟨k + 1, by go_num, by omega, HY, bl_tr hB hb2⟩
        case measure => simp [intOf]; omega
      · have HY : Hid (Tp.cmpL xs ys = q) := by show _ = _; rw [HX]; unfold Tp.or; rw [if_neg he]
        have he2 : (q != 0) = true := by simp [he]
        clear HX he
        go_wp2_with (go_at_call 46; refine (HQ.out _).mono ?_; rintro e w2 ⟨rfl, hb2⟩)
        go_ret
        exact ⟨ret_int HY.out.symm, bl_tr hB hb2⟩
    · have HX : Hid (Tp.cmpL xs ys = 0) := by
        show _ = _
        rw [hH.out, List.drop_eq_nil_of_le (by omega), List.drop_eq_nil_of_le (by have := HL.out; omega)]; exact Tp.cmpL_nil
      clear hH H1 H2 ih
      go_wp2
      go_ret
      exact ⟨ret_int HX.out.symm, hB⟩
end Go.Proofs.Ytknlpeloaapaiaa
