/- The document's own: number, Cmp, Same. -/
import Derived.Test.YtknlpeloaapaiaaTpK
namespace Go.Proofs.Ytknlpeloaapaiaa
open Go.RowKit
set_option linter.unusedVariables false
set_option linter.unusedSimpArgs false

theorem number_any (a b : Int) (w : World) : Calls Try.prog 57 #[.int .i64 a, .int .i64 b] w fun e w' => e = .returned (.int .i64 (Tp.num a b)) ∧ w' = w := by
  by_cases h1 : a < b
  · have H : Hid (Tp.num a b = -1) := if_pos h1
    go_enter Try.func57, Try.ntmps57
    go_wp2
    go_ret
    exact ⟨ret_int H.out.symm, rfl⟩
  · by_cases h2 : b < a
    · have H : Hid (Tp.num a b = 1) := by show _ = _; unfold Tp.num; rw [if_neg h1, if_pos h2]
      go_enter Try.func57, Try.ntmps57
      go_wp2
      go_ret
      exact ⟨ret_int H.out.symm, rfl⟩
    · have H : Hid (Tp.num a b = 0) := by show _ = _; unfold Tp.num; rw [if_neg h1, if_neg h2]
      go_enter Try.func57, Try.ntmps57
      go_wp2
      go_ret
      exact ⟨ret_int H.out.symm, rfl⟩
theorem ne0_true {x : Int} (h : x ≠ 0) : (x != 0) = true := by simp [h]
theorem ne0_false {x : Int} (h : x = 0) : (x != 0) = false := by simp [h]

set_option maxHeartbeats 4000000 in
set_option maxRecDepth 100000 in
theorem refCmp_step (n : Nat) (ih : CmpOf 26 n) : CmpOf 26 (n + 1) := by
  intro w m va vb a b ha hb
  obtain ⟨v1, rfl, -, -, hL1⟩ := ha.open_
  obtain ⟨a1, c1, rfl, hm1⟩ := hL1.form
  cases m with
  | zero => exact hb.elim
  | succ m =>
  obtain ⟨v2, rfl, -, -, hL2⟩ := hb.open_
  obtain ⟨a2, c2, rfl, hm2⟩ := hL2.form
  unfold maxLen at hm1 hm2
  have hc := Tp.cmp_mk a b
  have HL1 : Hid (TAtL w Any n (.slice a1 a.ks.length c1) a.ks) := hL1
  have HL2 : Hid (TAtL w Any m (.slice a2 b.ks.length c2) b.ks) := hL2
  have x0 : Hid (Arr ((w.alloc (.cells #[.int .i64 a.k, .int .i64 a.n, .slice a1 a.ks.length c1] 24)).alloc (.cells #[.int .i64 b.k, .int .i64 b.n, .slice a2 b.ks.length c2] 24)) w.heap.size 24 [.int .i64 a.k, .int .i64 a.n, .slice a1 a.ks.length c1]) := Arr.stays ⟨heap_alloc_at _ _⟩ (bl_alloc (Below.refl _ _) _)
  have x1 : Hid (Arr ((w.alloc (.cells #[.int .i64 a.k, .int .i64 a.n, .slice a1 a.ks.length c1] 24)).alloc (.cells #[.int .i64 b.k, .int .i64 b.n, .slice a2 b.ks.length c2] 24)) (w.heap.size + 1) 24 [.int .i64 b.k, .int .i64 b.n, .slice a2 b.ks.length c2]) := ⟨by have := heap_alloc_at (w.alloc (.cells #[.int .i64 a.k, .int .i64 a.n, .slice a1 a.ks.length c1] 24)) (.cells #[.int .i64 b.k, .int .i64 b.n, .slice a2 b.ks.length c2] 24); rw [size_alloc] at this; exact this⟩
  have xb : Hid (Below w.heap.size w ((w.alloc (.cells #[.int .i64 a.k, .int .i64 a.n, .slice a1 a.ks.length c1] 24)).alloc (.cells #[.int .i64 b.k, .int .i64 b.n, .slice a2 b.ks.length c2] 24))) := bl_alloc (bl_alloc (Below.refl _ _) _) _
  clear ha hb hL1 hL2
  have m0 := True.intro
  by_cases h1 : Tp.num a.k b.k = 0
  · by_cases h2 : Tp.num a.n b.n = 0
    · by_cases h3 : Tp.num a.ks.length b.ks.length = 0
      · have HC : Hid (Tp.cmp a b = Tp.cmpL a.ks b.ks) := by show _ = _; rw [hc]; unfold Tp.or; rw [if_pos h1, if_pos h2, if_pos h3]
        have hl : a.ks.length = b.ks.length := by
          unfold Tp.num at h3
          split at h3
          · cases h3
          · split at h3
            · cases h3
            · omega
        have HL : Hid (a.ks.length = b.ks.length) := hl
        have g1 := ne0_false h1
        have g2 := ne0_false h2
        have g3 := ne0_false h3
        clear hc h1 h2 h3 hl
        go_enter Try.func26, Try.ntmps26
        go_wp2_with (first | (go_at_call 57; refine (number_any _ _ _).mono ?_; rintro e w2 ⟨rfl, hw⟩; rw [hw]; clear hw w2))
        have S0 : Hid _ := And.intro x0.out (And.intro x1.out xb.out)
        clear x0 x1 xb
        generalize ((w.alloc (.cells #[.int .i64 a.k, .int .i64 a.n, .slice a1 a.ks.length c1] 24)).alloc (.cells #[.int .i64 b.k, .int .i64 b.n, .slice a2 b.ks.length c2] 24)) = W1 at S0 ⊢
        go_loopw [8] (fun v wr => ∃ k : Nat, v = .int .i64 k ∧ k ≤ a.ks.length ∧ Hid (Tp.cmpL a.ks b.ks = Tp.cmpL (a.ks.drop k) (b.ks.drop k)) ∧ Arr wr w.heap.size 24 [.int .i64 a.k, .int .i64 a.n, .slice a1 a.ks.length c1] ∧ Arr wr (w.heap.size + 1) 24 [.int .i64 b.k, .int .i64 b.n, .slice a2 b.ks.length c2] ∧ Below w.heap.size w wr) (fun v _ => a.ks.length - (intOf v).toNat)
        case atStart => exact ⟨0, rfl, Nat.zero_le _, rfl, S0.out⟩
        case round =>
          obtain ⟨k, rfl, hk, hH, hA, hBx, hB⟩ := hrel
          have p0 := hA.cell
          have p1 := hBx.cell
          by_cases hlt : k < a.ks.length
          · obtain ⟨g1', o1, rfl⟩ : ∃ b o, a1 = some ⟨b, o, none⟩ := by
              rcases HL1.out with ⟨b, o, c, hv, -⟩ | ⟨h0, -⟩
              · injection hv with e1 e2 e3; exact ⟨b, o, e1⟩
              · rw [h0] at hlt; exact absurd hlt (Nat.not_lt_zero _)
            obtain ⟨g2', o2, rfl⟩ : ∃ b o, a2 = some ⟨b, o, none⟩ := by
              rcases HL2.out with ⟨b, o, c, hv, -⟩ | ⟨h0, -⟩
              · injection hv with e1 e2 e3; exact ⟨b, o, e1⟩
              · rw [HL.out, h0] at hlt; exact absurd hlt (Nat.not_lt_zero _)
            obtain ⟨x, hxk⟩ : ∃ x, a.ks[k]? = some x := ⟨_, List.getElem?_eq_getElem hlt⟩
            obtain ⟨y, hyk⟩ : ∃ y, b.ks[k]? = some y := ⟨_, List.getElem?_eq_getElem (by rw [← HL.out]; exact hlt)⟩
            obtain ⟨vx, tx, u0, u1, u2, -, -⟩ := (HL1.out.below hB).elem hxk
            obtain ⟨vy, ty, t0, t1, t2, -, -⟩ := (HL2.out.below hB).elem hyk
            obtain ⟨ax, cx, ex⟩ := tx.form
            simp only [List.cons.injEq, and_true, true_and] at ex
            subst ex
            obtain ⟨ay, cy, ey⟩ := ty.form
            simp only [List.cons.injEq, and_true, true_and] at ey
            subst ey
            have hlt2 : k < b.ks.length := by rw [← HL.out]; exact hlt
            have HQ : Hid (∀ wz, Below wr.heap.size wr wz → Calls Try.prog 26 #[.agg #[.int .i64 x.k, .int .i64 x.n, .slice ax x.ks.length cx], .agg #[.int .i64 y.k, .int .i64 y.n, .slice ay y.ks.length cy]] wz fun e w'' => e = .returned (.int .i64 (Tp.cmp x y)) ∧ Below wr.heap.size wr w'') := fun wz hz => (ih _ m _ _ x y (tx.below hz) (ty.below hz)).mono fun e w'' ⟨h1, h2⟩ => ⟨h1, bl_tr hz h2⟩
            have HX := hH.out
            rw [Tp.cmpL_at hxk hyk] at HX
            have HAx : Hid (Arr wr w.heap.size 24 _) := hA
            have HBx : Hid (Arr wr (w.heap.size + 1) 24 _) := hBx
            clear hH hxk hyk HL1 HL2 tx ty ih hA hBx
            generalize Tp.cmp x y = q at HQ HX
            by_cases he : q = 0
            · have HY : Hid (Tp.cmpL a.ks b.ks = Tp.cmpL (a.ks.drop (k + 1)) (b.ks.drop (k + 1))) := by show _ = _; rw [HX]; unfold Tp.or; rw [if_pos he]
              have he2 := ne0_false he
              clear HX he
              go_wp2
              go_region_with (go_at_call 26; refine (HQ.out _ (bl_dr (Below.refl _ _))).mono ?_; rintro e w2 ⟨rfl, hb2⟩)
              all_goals go_wp2
              all_goals go_roundw
              all_goals (try case measure => simp [intOf]; omega)
              all_goals exact ⟨k + 1, by go_num, by omega, HY, HAx.out.stays hb2, HBx.out.stays hb2, bl_tr hB hb2⟩
            · have HY : Hid (Tp.cmpL a.ks b.ks = q) := by show _ = _; rw [HX]; unfold Tp.or; rw [if_neg he]
              have he2 := ne0_true he
              clear HX he
              go_wp2
              go_region_with (go_at_call 26; refine (HQ.out _ (bl_dr (Below.refl _ _))).mono ?_; rintro e w2 ⟨rfl, hb2⟩)
              all_goals go_wp2
              all_goals go_ret
              all_goals exact ⟨ret_int (HC.out.trans HY.out).symm, bl_tr hB hb2⟩
          · have HX : Hid (Tp.cmpL a.ks b.ks = 0) := by
              show _ = _
              rw [hH.out, List.drop_eq_nil_of_le (by omega), List.drop_eq_nil_of_le (by have := HL.out; omega)]; exact Tp.cmpL_nil
            clear hH HL1 HL2 ih hA hBx
            go_wp2
            go_ret
            exact ⟨ret_int (HC.out.trans HX.out).symm, hB⟩
      · have HC : Hid (Tp.cmp a b = Tp.num a.ks.length b.ks.length) := by show _ = _; rw [hc]; unfold Tp.or; rw [if_pos h1, if_pos h2, if_neg h3]
        have g1 := ne0_false h1
        have g2 := ne0_false h2
        have g3 := ne0_true h3
        clear hc h1 h2 h3 ih HL1 HL2
        go_enter Try.func26, Try.ntmps26
        go_wp2_with (first | (go_at_call 57; refine (number_any _ _ _).mono ?_; rintro e w2 ⟨rfl, hw⟩; rw [hw]; clear hw w2))
        go_ret
        exact ⟨ret_int HC.out.symm, xb.out⟩
    · have HC : Hid (Tp.cmp a b = Tp.num a.n b.n) := by show _ = _; rw [hc]; unfold Tp.or; rw [if_pos h1, if_neg h2]
      have g1 := ne0_false h1
      have g2 := ne0_true h2
      clear hc h1 h2 ih HL1 HL2
      go_enter Try.func26, Try.ntmps26
      go_wp2_with (first | (go_at_call 57; refine (number_any _ _ _).mono ?_; rintro e w2 ⟨rfl, hw⟩; rw [hw]; clear hw w2))
      go_ret
      exact ⟨ret_int HC.out.symm, xb.out⟩
  · have HC : Hid (Tp.cmp a b = Tp.num a.k b.k) := by show _ = _; rw [hc]; unfold Tp.or; rw [if_neg h1]
    have g1 := ne0_true h1
    clear hc h1 ih HL1 HL2
    go_enter Try.func26, Try.ntmps26
    go_wp2_with (first | (go_at_call 57; refine (number_any _ _ _).mono ?_; rintro e w2 ⟨rfl, hw⟩; rw [hw]; clear hw w2))
    go_ret
    exact ⟨ret_int HC.out.symm, xb.out⟩
theorem refCmp_any : ∀ n, CmpOf 26 n
  | 0 => fun w m va vb a b h _ => h.elim
  | n + 1 => refCmp_step n (refCmp_any n)

set_option maxRecDepth 100000 in
theorem refSame_any (w : World) (n m : Nat) (va vb : List Value) (a b : Tp) (ha : TAt w Any n va a) (hb : TAt w Any m vb b) : Calls Try.prog 6 #[.agg va.toArray, .agg vb.toArray] w fun e w' => e = .returned (.bool (Tp.cmp a b == 0)) ∧ Below w.heap.size w w' := by
  have hq : Hid (∀ o o', Calls Try.prog 26 #[.agg va.toArray, .agg vb.toArray] ((w.alloc o).alloc o') fun e w' => e = .returned (.int .i64 (Tp.cmp a b)) ∧ Below w.heap.size w w') := fun o o' => (refCmp_any n _ m va vb a b (ha.below (bl_alloc (bl_alloc (Below.refl _ _) _) _)) (hb.below (bl_alloc (bl_alloc (Below.refl _ _) _) _))).mono fun e w' ⟨h1, h2⟩ => ⟨h1, bl_tr (bl_alloc (bl_alloc (Below.refl _ _) _) _) h2⟩
  obtain ⟨a1, c1, rfl⟩ := ha.form
  obtain ⟨a2, c2, rfl⟩ := hb.form
  clear ha hb
  go_enter Try.func6, Try.ntmps6
  go_wp2_with (go_at_call 26; refine (hq.out _ _).mono ?_; rintro e w2 ⟨rfl, hb2⟩)
  go_ret
  exact ⟨rfl, hb2⟩
end Go.Proofs.Ytknlpeloaapaiaa
