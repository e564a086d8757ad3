/- The order of types: Compare, Or, CompareFunc, Cmp, Same. Cmp, Same. RightScheme. -/
import Derived.Deep.RegionHeld
import Derived.Test.YtigliglmejkakaaGreatRab
import Derived.Test.YtigliglmejkakaaGreatRai
import Derived.Test.YtigliglmejkakaaGreatRag
namespace Go.Proofs.YtigliglmejkakaaGreat
open Go.RowKit
set_option linter.unusedVariables false
set_option linter.unusedSimpArgs false

theorem isNaN_any (a : Int) (w : World) : Calls Tryz.prog 95 #[.int .i64 a] w fun e w' => e = .returned (.bool false) ∧ w' = w := by
  have h : (a != a) = false := by simp
  go_enter Tryz.func95, Tryz.ntmps95
  go_wp2
  go_ret
  exact ⟨rfl, rfl⟩

theorem Compare_any (a b : Int) (w : World) : Calls Tryz.prog 58 #[.int .i64 a, .int .i64 b] w fun e w' => e = .returned (.int .i64 (Tp.num a b)) ∧ w' = w := by
  have q1 : Hid _ := isNaN_any a w
  have q2 : Hid _ := isNaN_any b w
  by_cases h1 : a < b
  · have H : Hid (Tp.num a b = -1) := if_pos h1
    go_enter Tryz.func58, Tryz.ntmps58
    go_wp2_with (first | (go_at_call 95; refine (isNaN_any _ _).mono ?_; rintro e w2 ⟨rfl, hw⟩; rw [hw]; clear hw w2))
    go_ret
    exact ⟨ret_int H.out.symm, rfl⟩
  · by_cases h2 : b < a
    · have H : Hid (Tp.num a b = 1) := by show _ = _; unfold Tp.num; rw [if_neg h1, if_pos h2]
      go_enter Tryz.func58, Tryz.ntmps58
      go_wp2_with (first | (go_at_call 95; refine (isNaN_any _ _).mono ?_; rintro e w2 ⟨rfl, hw⟩; rw [hw]; clear hw w2))
      go_ret
      exact ⟨ret_int H.out.symm, rfl⟩
    · have H : Hid (Tp.num a b = 0) := by show _ = _; unfold Tp.num; rw [if_neg h1, if_neg h2]
      go_enter Tryz.func58, Tryz.ntmps58
      go_wp2_with (first | (go_at_call 95; refine (isNaN_any _ _).mono ?_; rintro e w2 ⟨rfl, hw⟩; rw [hw]; clear hw w2))
      go_ret
      exact ⟨ret_int H.out.symm, rfl⟩
def Tp.orL : List Int → Int
  | [] => 0
  | x :: r => Tp.or x (Tp.orL r)
theorem Tp.orL_at {l : List Int} {k : Nat} {x : Int} (hx : l[k]? = some x) : Tp.orL (l.drop k) = Tp.or x (Tp.orL (l.drop (k + 1))) := by
  obtain ⟨h1, e1⟩ := List.getElem?_eq_some_iff.1 hx
  rw [List.drop_eq_getElem_cons h1, e1, Tp.orL]

set_option maxHeartbeats 1000000 in
set_option maxRecDepth 100000 in
theorem Or_any (w : World) (v : Value) (l : List Int) (h : Ls w Any v l) : Calls Tryz.prog 57 #[v] w fun e w' => e = .returned (.int .i64 (Tp.orL l)) ∧ w' = w := by
  obtain ⟨a, c, rfl, hm⟩ := h.form
  unfold maxLen at hm
  go_enter Tryz.func57, Tryz.ntmps57
  go_wp2
  go_loopw [8] (fun v wr => ∃ k : Nat, v = .int .i64 k ∧ k ≤ l.length ∧ Hid (Tp.orL l = Tp.orL (l.drop k)) ∧ wr = w) (fun v _ => l.length - (intOf v).toNat)
  case atStart => exact ⟨0, rfl, Nat.zero_le _, rfl, rfl⟩
  case round =>
    obtain ⟨k, rfl, hk, hH, rfl⟩ := hrel
    by_cases hlt : k < l.length
    · obtain ⟨b, o, c', hv, -, -, -, hl⟩ := h.resolve_right (fun h => by rw [h.1] at hlt; exact absurd hlt (Nat.not_lt_zero _))
      injection hv with e1 e2 e3
      subst e1
      obtain ⟨x, hx⟩ : ∃ x, l[k]? = some x := ⟨_, List.getElem?_eq_getElem hlt⟩
      have hc := hl k x hx
      have HX := hH.out
      rw [Tp.orL_at hx] at HX
      clear hl hx hH h e2 e3
      by_cases he : x = 0
      · have HY : Hid (Tp.orL l = Tp.orL (l.drop (k + 1))) := by show _ = _; rw [HX]; unfold Tp.or; rw [if_pos he]
        have he2 : (x != 0) = false := by simp [he]
        clear HX he
        go_wp2
        go_roundw
        case rel => exact ⟨k + 1, by go_num, by omega, HY, by first | trivial | rfl⟩
        case measure => simp [intOf]; omega
      · have HY : Hid (Tp.orL l = x) := by show _ = _; rw [HX]; unfold Tp.or; rw [if_neg he]
        have he2 : (x != 0) = true := by simp [he]
        clear HX he
        go_wp2
        go_ret
        exact ⟨ret_int HY.out.symm, rfl⟩
    · have HX : Hid (Tp.orL l = 0) := by
        show _ = _
        rw [hH.out, List.drop_eq_nil_of_le (by omega)]; rfl
      clear hH h
      go_wp2
      go_ret
      exact ⟨ret_int HX.out.symm, rfl⟩

theorem Tp.cmp_mk (a b : Tp) : Tp.cmp a b = Tp.or (Tp.num a.k b.k) (Tp.or (Tp.num a.n b.n) (Tp.or (Tp.num a.ks.length b.ks.length) (Tp.cmpL a.ks b.ks))) := by
  cases a; cases b; rw [Tp.cmp]; rfl
theorem Tp.cmpL_at {xs ys : List Tp} {k : Nat} {x y : Tp} (hx : xs[k]? = some x) (hy : ys[k]? = some y) : Tp.cmpL (xs.drop k) (ys.drop k) = Tp.or (Tp.cmp x y) (Tp.cmpL (xs.drop (k + 1)) (ys.drop (k + 1))) := by
  obtain ⟨h1, e1⟩ := List.getElem?_eq_some_iff.1 hx
  obtain ⟨h2, e2⟩ := List.getElem?_eq_some_iff.1 hy
  rw [List.drop_eq_getElem_cons h1, e1, List.drop_eq_getElem_cons h2, e2, Tp.cmpL]
theorem Tp.cmpL_nil : Tp.cmpL [] [] = 0 := by rw [Tp.cmpL]
def CmpOf (f : FuncId) (n : Nat) : Prop := ∀ (w : World) (m : Nat) (va vb : List Value) (a b : Tp), TAt w Any n va a → TAt w Any m vb b → Calls Tryz.prog f #[.agg va.toArray, .agg vb.toArray] w fun e w' => e = .returned (.int .i64 (Tp.cmp a b)) ∧ Below w.heap.size w w'

set_option maxHeartbeats 1000000 in
set_option maxRecDepth 100000 in
theorem CompareFunc_any (n : Nat) (ih : CmpOf 27 n) (w : World) (m : Nat) (v1 v2 : Value) (xs ys : List Tp) (h1 : TAtL w Any n v1 xs) (h2 : TAtL w Any m v2 ys) (hl : xs.length = ys.length) :
    Calls Tryz.prog 59 #[v1, v2, .func (.func 27) #[] #[]] w fun e w' => e = .returned (.int .i64 (Tp.cmpL xs ys)) ∧ Below w.heap.size w w' := by
  obtain ⟨a1, c1, e1, hx⟩ := h1.form
  obtain ⟨a2, c2, e2, hy⟩ := h2.form
  unfold maxLen at hx hy
  have HL : Hid (xs.length = ys.length) := hl
  rw [← hl] at e2
  subst e1; subst e2
  have H1 : Hid (TAtL w Any n (.slice a1 xs.length c1) xs) := h1
  have H2 : Hid (TAtL w Any m (.slice a2 xs.length c2) ys) := h2
  clear h1 h2 hl hy
  go_enter Tryz.func59, Tryz.ntmps59
  go_wp2
  go_loopw [13] (fun v wr => ∃ k : Nat, v = .int .i64 k ∧ k ≤ xs.length ∧ Hid (Tp.cmpL xs ys = Tp.cmpL (xs.drop k) (ys.drop k)) ∧ Below w.heap.size w wr) (fun v _ => xs.length - (intOf v).toNat)
  case atStart => exact ⟨0, rfl, Nat.zero_le _, rfl, Below.refl _ _⟩
  case round =>
    obtain ⟨k, rfl, hk, hH, hB⟩ := hrel
    by_cases hlt : k < xs.length
    · obtain ⟨g1, o1, rfl⟩ : ∃ b o, a1 = some ⟨b, o, none⟩ := by
        rcases H1.out with ⟨b, o, c, hv, -⟩ | ⟨h0, -⟩
        · injection hv with e1 e2 e3; exact ⟨b, o, e1⟩
        · rw [h0] at hlt; exact absurd hlt (Nat.not_lt_zero _)
      obtain ⟨g2, o2, rfl⟩ : ∃ b o, a2 = some ⟨b, o, none⟩ := by
        rcases H2.out with ⟨b, o, c, hv, -⟩ | ⟨h0, -⟩
        · injection hv with e1 e2 e3; exact ⟨b, o, e1⟩
        · rw [HL.out, h0] at hlt; exact absurd hlt (Nat.not_lt_zero _)
      obtain ⟨x, hxk⟩ : ∃ x, xs[k]? = some x := ⟨_, List.getElem?_eq_getElem hlt⟩
      obtain ⟨y, hyk⟩ : ∃ y, ys[k]? = some y := ⟨_, List.getElem?_eq_getElem (by rw [← HL.out]; exact hlt)⟩
      obtain ⟨vx, tx, x0, x1, x2, -, -⟩ := (H1.out.below hB).elem hxk
      obtain ⟨vy, ty, -, -, -, -, -⟩ := (H2.out.below hB).elem hyk
      have hz : ∀ o, ∃ vy, TAt (wr.alloc o) Any m [.int .i64 y.k, .int .i64 y.n, vy] y ∧ (wr.alloc o).cell? ⟨g2, o2 + k * 3, none⟩ = some (.int .i64 y.k) ∧ (wr.alloc o).cell? ⟨g2, o2 + k * 3 + 1, none⟩ = some (.int .i64 y.n) ∧ (wr.alloc o).cell? ⟨g2, o2 + k * 3 + 2, none⟩ = some vy := fun o => by
        obtain ⟨vy, t1, y0, y1, y2, -, -⟩ := (H2.out.below (bl_alloc hB o)).elem hyk
        exact ⟨vy, t1, y0, y1, y2⟩
      obtain ⟨ax, cx, ex⟩ := tx.form
      simp only [List.cons.injEq, and_true, true_and] at ex
      subst ex
      obtain ⟨vy, ty, z0, z1, z2⟩ := hz (.cells #[.int .i64 x.k, .int .i64 x.n, .slice ax x.ks.length cx] 24)
      obtain ⟨ay, cy, ey⟩ := ty.form
      simp only [List.cons.injEq, and_true, true_and] at ey
      subst ey
      have HQ : Hid (∀ o, Calls Tryz.prog 27 #[.agg #[.int .i64 x.k, .int .i64 x.n, .slice ax x.ks.length cx], .agg #[.int .i64 y.k, .int .i64 y.n, .slice ay y.ks.length cy]] ((wr.alloc (.cells #[.int .i64 x.k, .int .i64 x.n, .slice ax x.ks.length cx] 24)).alloc o) fun e w'' => e = .returned (.int .i64 (Tp.cmp x y)) ∧ Below wr.heap.size wr w'') := fun o => (ih _ m _ _ x y ((tx.below (bl_alloc (Below.refl _ _) _)).below (bl_alloc (Below.refl _ _) o)) (ty.below (bl_alloc (Below.refl _ _) o))).mono fun e w'' ⟨h1, h2⟩ => ⟨h1, bl_tr (bl_alloc (bl_alloc (Below.refl _ _) _) _) h2⟩
      have HX := hH.out
      rw [Tp.cmpL_at hxk hyk] at HX
      have hlt2 : Hid (k < ys.length) := by show _ < _; rw [← HL.out]; exact hlt
      clear hH hxk hyk H1 H2 tx ty hz ih
      generalize Tp.cmp x y = q at HQ HX
      by_cases he : q = 0
      · have HY : Hid (Tp.cmpL xs ys = Tp.cmpL (xs.drop (k + 1)) (ys.drop (k + 1))) := by show _ = _; rw [HX]; unfold Tp.or; rw [if_pos he]
        have he2 : (q != 0) = false := by simp [he]
        clear HX he
        go_wp2_with (go_at_call 27; refine (HQ.out _).mono ?_; rintro e w2 ⟨rfl, hb2⟩)
        go_roundw
        case rel => exact ⟨k + 1, by go_num, by omega, HY, bl_tr hB hb2⟩
        case measure => simp [intOf]; omega
      · have HY : Hid (Tp.cmpL xs ys = q) := by show _ = _; rw [HX]; unfold Tp.or; rw [if_neg he]
        have he2 : (q != 0) = true := by simp [he]
        clear HX he
        go_wp2_with (go_at_call 27; refine (HQ.out _).mono ?_; rintro e w2 ⟨rfl, hb2⟩)
        go_ret
        exact ⟨ret_int HY.out.symm, bl_tr hB hb2⟩
    · have HX : Hid (Tp.cmpL xs ys = 0) := by
        show _ = _
        rw [hH.out, List.drop_eq_nil_of_le (by omega), List.drop_eq_nil_of_le (by have := HL.out; omega)]; exact Tp.cmpL_nil
      clear hH H1 H2 ih
      go_wp2
      go_ret
      exact ⟨ret_int HX.out.symm, hB⟩
end Go.Proofs.YtigliglmejkakaaGreat

namespace Go.Proofs.YtigliglmejkakaaGreat
open Go.RowKit
set_option linter.unusedVariables false
set_option linter.unusedSimpArgs false

theorem Tp.or_or (a b c : Int) : Tp.or a (Tp.or b c) = Tp.or (Tp.or a b) c := by
  unfold Tp.or
  by_cases ha : a = 0
  · simp [ha]
  · simp [ha]
theorem Tp.or_zero (a : Int) : Tp.or a 0 = a := by unfold Tp.or; split <;> simp_all
theorem ls3 (w : World) (a b c : Int) (T : TypeId) : Ls (w.alloc (.cells #[.int .i64 a, .int .i64 b, .int .i64 c] T)) Any (.slice (some ⟨w.heap.size, 0, none⟩) 3 3) [a, b, c] := by
  refine .inl ⟨w.heap.size, 0, 3, rfl, trivial, (show 3 ≤ 3 by decide), (show 3 ≤ maxLen by decide), fun j x hx => ?_⟩
  have hh := heap_alloc_at w (.cells #[.int .i64 a, .int .i64 b, .int .i64 c] T)
  match j, hx with
  | 0, hx => simp at hx; subst hx; rw [cell_at hh]; rfl
  | 1, hx => simp at hx; subst hx; rw [cell_at hh]; rfl
  | 2, hx => simp at hx; subst hx; rw [cell_at hh]; rfl
  | j + 3, hx => simp at hx

set_option maxHeartbeats 4000000 in
set_option maxRecDepth 100000 in
theorem Cmp_step (n : Nat) (ih : CmpOf 27 n) : CmpOf 27 (n + 1) := by
  intro w m va vb a b ha hb
  obtain ⟨v1, rfl, -, -, hL1⟩ := ha.open_
  obtain ⟨a1, c1, rfl, hm1⟩ := hL1.form
  cases m with
  | zero => exact hb.elim
  | succ m =>
  obtain ⟨v2, rfl, -, -, hL2⟩ := hb.open_
  obtain ⟨a2, c2, rfl, hm2⟩ := hL2.form
  unfold maxLen at hm1 hm2
  have hq : Hid (a.ks.length = b.ks.length → ∀ wz, Below w.heap.size w wz → Calls Tryz.prog 59 #[.slice a1 a.ks.length c1, .slice a2 b.ks.length c2, .func (.func 27) #[] #[]] wz fun e w' => e = .returned (.int .i64 (Tp.cmpL a.ks b.ks)) ∧ Below wz.heap.size wz w') := fun hl wz hz => CompareFunc_any n ih wz m _ _ a.ks b.ks (hL1.below hz) (hL2.below hz) hl
  have hc := Tp.cmp_mk a b
  clear ha hb hL1 hL2 ih
  have x0 : Arr ((w.alloc (.cells #[.int .i64 a.k, .int .i64 a.n, .slice a1 a.ks.length c1] 24)).alloc (.cells #[.int .i64 b.k, .int .i64 b.n, .slice a2 b.ks.length c2] 24)) w.heap.size 24 [.int .i64 a.k, .int .i64 a.n, .slice a1 a.ks.length c1] := Arr.stays ⟨heap_alloc_at _ _⟩ (bl_alloc (Below.refl _ _) _)
  have x1 : Arr ((w.alloc (.cells #[.int .i64 a.k, .int .i64 a.n, .slice a1 a.ks.length c1] 24)).alloc (.cells #[.int .i64 b.k, .int .i64 b.n, .slice a2 b.ks.length c2] 24)) (w.heap.size + 1) 24 [.int .i64 b.k, .int .i64 b.n, .slice a2 b.ks.length c2] := ⟨by have := heap_alloc_at (w.alloc (.cells #[.int .i64 a.k, .int .i64 a.n, .slice a1 a.ks.length c1] 24)) (.cells #[.int .i64 b.k, .int .i64 b.n, .slice a2 b.ks.length c2] 24); rw [size_alloc] at this; exact this⟩
  have xb : Below w.heap.size w ((w.alloc (.cells #[.int .i64 a.k, .int .i64 a.n, .slice a1 a.ks.length c1] 24)).alloc (.cells #[.int .i64 b.k, .int .i64 b.n, .slice a2 b.ks.length c2] 24)) := bl_alloc (bl_alloc (Below.refl _ _) _) _
  go_enter Tryz.func27, Tryz.ntmps27
  go_wp2
  generalize ((w.alloc (.cells #[.int .i64 a.k, .int .i64 a.n, .slice a1 a.ks.length c1] 24)).alloc (.cells #[.int .i64 b.k, .int .i64 b.n, .slice a2 b.ks.length c2] 24)) = W1 at x0 x1 xb ⊢
  have HX : Hid (Arr W1 w.heap.size 24 [.int .i64 a.k, .int .i64 a.n, .slice a1 a.ks.length c1] ∧ Arr W1 (w.heap.size + 1) 24 [.int .i64 b.k, .int .i64 b.n, .slice a2 b.ks.length c2] ∧ Below w.heap.size w W1) := ⟨x0, x1, xb⟩
  have y00 := x0.cell 0
  have y01 := x0.cell 1
  have y02 := x0.cell 2
  have y10 := x1.cell 0
  have y11 := x1.cell 1
  have y12 := x1.cell 2
  simp only [List.getElem?_cons_zero, List.getElem?_cons_succ] at y00 y01 y02 y10 y11 y12
  have hlt0 := x0.lt
  have hlt1 := x1.lt
  clear x0 x1 xb
  go_region_held (fun w' => w'.cell? ⟨w.heap.size, 0, none⟩ = some (.int .i64 a.k) ∧ w'.cell? ⟨w.heap.size, 1, none⟩ = some (.int .i64 a.n) ∧ w'.cell? ⟨w.heap.size, 2, none⟩ = some (.slice a1 a.ks.length c1) ∧ w'.cell? ⟨w.heap.size + 1, 0, none⟩ = some (.int .i64 b.k) ∧ w'.cell? ⟨w.heap.size + 1, 1, none⟩ = some (.int .i64 b.n) ∧ w'.cell? ⟨w.heap.size + 1, 2, none⟩ = some (.slice a2 b.ks.length c2)) (go_keep) (first | (go_at_call 58; refine (Compare_any _ _ _).mono ?_; rintro e w2 ⟨rfl, hw⟩; rw [hw]; clear hw w2) | (go_at_call 57; refine (Or_any _ _ _ ((ls3 _ _ _ _ _).below (Below.refl _ _).drew)).mono ?_; rintro e w2 ⟨rfl, hw⟩; rw [hw]; clear hw w2))
  have hq2 : Tp.cmp a b = Tp.or (Tp.orL [Tp.num a.k b.k, Tp.num a.n b.n, Tp.num a.ks.length b.ks.length]) (Tp.cmpL a.ks b.ks) := by
    rw [hc]; simp only [Tp.orL]; rw [Tp.or_or, Tp.or_or, Tp.or_or, Tp.or_or]
    rw [Tp.or_zero]
  have hz : Tp.orL [Tp.num a.k b.k, Tp.num a.n b.n, Tp.num a.ks.length b.ks.length] = 0 → a.ks.length = b.ks.length := by
    intro h
    simp only [Tp.orL] at h
    have h3 : Tp.num a.ks.length b.ks.length = 0 := by
      unfold Tp.or at h
      split at h
      · split at h
        · split at h <;> simp_all
        · simp_all
      · simp_all
    unfold Tp.num at h3
    split at h3
    · cases h3
    · split at h3
      · cases h3
      · omega
  have HZ : Hid (Tp.orL [Tp.num a.k b.k, Tp.num a.n b.n, Tp.num a.ks.length b.ks.length] = 0 → a.ks.length = b.ks.length) := hz
  have HQ2 : Hid (Tp.cmp a b = Tp.or (Tp.orL [Tp.num a.k b.k, Tp.num a.n b.n, Tp.num a.ks.length b.ks.length]) (Tp.cmpL a.ks b.ks)) := hq2
  clear hz hq2 hc
  generalize Tp.orL [Tp.num a.k b.k, Tp.num a.n b.n, Tp.num a.ks.length b.ks.length] = q at HZ HQ2 ⊢
  by_cases he : q = 0
  · have hl := HZ.out he
    have hw : ∀ o, Below w.heap.size w (W1.alloc o).drew := fun o => bl_dr (bl_alloc HX.out.2.2 _)
    have hq3 := hq.out hl
    have HQ3 : Hid _ := hq3
    have HC : Hid (Tp.cmp a b = Tp.cmpL a.ks b.ks) := by show _ = _; rw [HQ2.out]; unfold Tp.or; rw [if_pos he]
    have he2 : (q != 0) = false := by simp [he]
    have HL : Hid (a.ks.length = b.ks.length) := hl
    clear hq3 hq HQ2 HZ he hl
    have u0 : ∀ o, (W1.alloc o).cell? ⟨w.heap.size, 2, none⟩ = some (.slice a1 a.ks.length c1) := fun o => (HX.out.1.stays (bl_alloc (Below.refl _ _) o)).cell 2
    have u1 : ∀ o, (W1.alloc o).cell? ⟨w.heap.size + 1, 2, none⟩ = some (.slice a2 b.ks.length c2) := fun o => (HX.out.2.1.stays (bl_alloc (Below.refl _ _) o)).cell 2
    go_wp2_with (go_at_call 59; refine (HQ3.out _ (hw _)).mono ?_; rintro e w2 ⟨rfl, hb2⟩)
    go_ret
    exact ⟨ret_int HC.out.symm, bl_tr (hw _) hb2⟩
  · have HC : Hid (Tp.cmp a b = q) := by show _ = _; rw [HQ2.out]; unfold Tp.or; rw [if_neg he]
    have he2 : (q != 0) = true := by simp [he]
    clear hq HQ2 HZ he
    go_wp2
    go_ret
    exact ⟨ret_int HC.out.symm, bl_dr (bl_alloc HX.out.2.2 _)⟩
theorem Cmp_any : ∀ n, CmpOf 27 n
  | 0 => fun w m va vb a b h _ => h.elim
  | n + 1 => Cmp_step n (Cmp_any n)

set_option maxRecDepth 100000 in
theorem Same_any (w : World) (n m : Nat) (va vb : List Value) (a b : Tp) (ha : TAt w Any n va a) (hb : TAt w Any m vb b) : Calls Tryz.prog 9 #[.agg va.toArray, .agg vb.toArray] w fun e w' => e = .returned (.bool (Tp.cmp a b == 0)) ∧ Below w.heap.size w w' := by
  have hq : Hid (∀ o o', Calls Tryz.prog 27 #[.agg va.toArray, .agg vb.toArray] ((w.alloc o).alloc o') fun e w' => e = .returned (.int .i64 (Tp.cmp a b)) ∧ Below w.heap.size w w') := fun o o' => (Cmp_any n _ m va vb a b (ha.below (bl_alloc (bl_alloc (Below.refl _ _) _) _)) (hb.below (bl_alloc (bl_alloc (Below.refl _ _) _) _))).mono fun e w' ⟨h1, h2⟩ => ⟨h1, bl_tr (bl_alloc (bl_alloc (Below.refl _ _) _) _) h2⟩
  obtain ⟨a1, c1, rfl⟩ := ha.form
  obtain ⟨a2, c2, rfl⟩ := hb.form
  clear ha hb
  go_enter Tryz.func9, Tryz.ntmps9
  go_wp2_with (go_at_call 27; refine (hq.out _ _).mono ?_; rintro e w2 ⟨rfl, hb2⟩)
  go_ret
  exact ⟨rfl, hb2⟩
end Go.Proofs.YtigliglmejkakaaGreat

namespace Go.Proofs.YtigliglmejkakaaGreat
open Go.RowKit
set_option linter.unusedVariables false
set_option linter.unusedSimpArgs false

set_option maxHeartbeats 1000000 in
set_option maxRecDepth 100000 in
theorem RightScheme_any (w : World) (n : Nat) (g : Int) (vs : List Value) (t : Tp) (hT : TAt w Any n vs t) (hc : t.cnt ≤ 1048576) : Calls Tryz.prog 39 #[.agg (.int .i64 g :: vs).toArray] w fun e w' => e = .returned (.bool (Tp.rightS g t)) ∧ Below w.heap.size w w' := by
  have hR : Hid (∀ o, Calls Tryz.prog 19 #[.agg vs.toArray] (w.alloc o) fun e w' => e = .returned (.bool t.right) ∧ Below (w.alloc o).heap.size (w.alloc o) w') := fun o => Right_any _ n vs t (hT.below (bl_alloc (Below.refl _ _) _))
  have hG : Hid (∀ wz, Below w.heap.size w wz → Calls Tryz.prog 80 #[.agg vs.toArray] wz fun e w' => ∃ v, e = .returned v ∧ Ls w' Any v (Tp.found 8 t []) ∧ Below wz.heap.size wz w') := fun wz hz => Gens_any _ n vs t (hT.below hz) hc
  have hD : Hid (Tp.rightS g t = (t.right && (Tp.ups (Tp.found 8 t []) 0 && decide (((Tp.found 8 t []).length : Int) = g)))) := rfl
  obtain ⟨a, c, rfl⟩ := hT.form
  have HB : Hid (∀ o, Below w.heap.size w (w.alloc o)) := fun o => bl_alloc (Below.refl _ _) o
  generalize Tp.rightS g t = r at hD
  clear hT hc
  cases hr : t.right with
  | false =>
    rw [hr] at hR hD
    have hD' := hD.out
    rw [Bool.false_and] at hD'
    subst hD'
    go_enter Tryz.func39, Tryz.ntmps39
    go_wp2_with (go_at_call 19; refine (hR.out _).mono ?_; rintro e w2 ⟨rfl, hb2⟩)
    go_ret
    exact ⟨rfl, bl_tr (HB.out _) hb2⟩
  | true =>
    rw [hr] at hR hD
    have HD : Hid (r = (Tp.ups (Tp.found 8 t []) 0 && decide (((Tp.found 8 t []).length : Int) = g))) := by show r = _; rw [hD.out, Bool.true_and]
    clear hD hr
    generalize Tp.found 8 t [] = l at hG HD
    go_enter Tryz.func39, Tryz.ntmps39
    go_wp2_with (first | (go_at_call 19; refine (hR.out _).mono ?_; rintro e w2 ⟨rfl, hb2⟩; have x0 := hb2.cell (p := ⟨w.heap.size, 0, none⟩) (by simp); have x1 := hb2.cell (p := ⟨w.heap.size, 1, none⟩) (by simp); have x2 := hb2.cell (p := ⟨w.heap.size, 2, none⟩) (by simp); have x3 := hb2.cell (p := ⟨w.heap.size, 3, none⟩) (by simp); simp [go_sem] at x0 x1 x2 x3) | (go_at_call 80; refine (hG.out _ (bl_tr (HB.out _) hb2)).mono ?_; rintro e w3 ⟨v3, rfl, hl3, hb3⟩; obtain ⟨p3, c3, rfl, hm3⟩ := hl3.form; have y0 := hb3.cell (p := ⟨w.heap.size, 0, none⟩) (World.block_lt_of_cell? _ _ x0); rw [x0] at y0; have HL : Hid (Ls w3 Any _ l) := hl3; clear hl3))
    unfold maxLen at hm3
    have HBB : Hid (Below w.heap.size w w3) := bl_tr (bl_tr (HB.out _) hb2) hb3
    clear hR hG HB hb2 hb3 x0 x1 x2 x3
    go_loopw [15] (fun v wr => ∃ k : Nat, v = .int .i64 k ∧ k ≤ l.length ∧ Hid (r = (Tp.ups (l.drop k) k && decide ((l.length : Int) = g))) ∧ wr = w3) (fun v _ => l.length - (intOf v).toNat)
    case atStart => exact ⟨0, rfl, Nat.zero_le _, HD, rfl⟩
    case round =>
      obtain ⟨k, rfl, hk, hH, rfl⟩ := hrel
      by_cases hlt : k < l.length
      · obtain ⟨b, o, c', hv, -, -, -, hl⟩ := HL.out.resolve_right (fun h => by rw [h.1] at hlt; exact absurd hlt (Nat.not_lt_zero _))
        injection hv with e1 e2 e3
        subst e1
        obtain ⟨x, hx⟩ : ∃ x, l[k]? = some x := ⟨_, List.getElem?_eq_getElem hlt⟩
        have hc := hl k x hx
        have HX := hH.out
        rw [Tp.ups_at hx] at HX
        clear hl hx hH e2 e3
        by_cases he : x = k
        · rw [decide_eq_true he, Bool.true_and] at HX
          have HY := hid HX
          clear HX
          have ht : (x == (k : Int)) = true := by rw [he]; simp
          clear he
          go_wp2
          go_roundw
          case rel => exact ⟨k + 1, by go_num, by omega, HY, by trivial⟩
          case measure => simp [intOf]; omega
        · rw [decide_eq_false he, Bool.false_and, Bool.false_and] at HX
          subst HX
          have ht : (x == (k : Int)) = false := by simpa using he
          clear he
          go_wp2
          go_ret
          exact ⟨rfl, HBB.out⟩
      · have HX := hH.out
        rw [List.drop_eq_nil_of_le (by omega), Tp.ups, Bool.true_and] at HX
        have HY := hid HX
        clear HX hH
        go_wp2
        go_ret
        rw [HY.out]
        exact ⟨rfl, HBB.out⟩
end Go.Proofs.YtigliglmejkakaaGreat
