/- The document's Right. -/
import Derived.Test.YtigliglmejkakaaQad
import Derived.Test.YtigliglmejkakaaQac
namespace Go.Proofs.Ytigliglmejkakaa
open Go.RowKit
set_option linter.unusedVariables false
set_option linter.unusedSimpArgs false

def RRightOf (n : Nat) : Prop := ∀ (w : World) (vs : List Value) (t : Tp), TAt w Any n vs t → Calls Try.prog 21 #[.agg vs.toArray] w fun e w' => e = .returned (.bool t.right) ∧ Below w.heap.size w w'

set_option maxHeartbeats 4000000 in
set_option maxRecDepth 100000 in
theorem refRight_step (i : Nat) (ih : RRightOf i) : RRightOf (i + 1) := by
  intro w vs t hT
  obtain ⟨v, rfl, -, -, hL⟩ := hT.open_
  obtain ⟨a, c, rfl, hl⟩ := hL.form
  obtain ⟨k, n, ks⟩ := t
  simp only [Tp.k, Tp.n, Tp.ks] at hL hl ⊢
  unfold maxLen at hl
  have HL : Hid (TAtL w Any i (.slice a ks.length c) ks) := hL
  clear hT hL
  by_cases h1 : k = 1
  · subst h1
    by_cases hn : n = 0
    · subst hn
      by_cases hz : ks.length = 0
      · have hks : ks = [] := List.eq_nil_of_length_eq_zero hz
        subst hks
        clear hz ih HL
        have HR : Hid (Tp.right (.mk 1 0 []) = true) := by show _ = _; rw [Tp.right]; simp [Tp.own, Tp.rightL]
        go_enter Try.func21, Try.ntmps21
        go_wp2
        go_ret
        exact ⟨ret_bool HR.out.symm, bl_alloc (Below.refl _ _) _⟩
      · have hz2 : ((ks.length : Int) == 0) = false := by rw [beq_eq_false_iff_ne]; omega
        have HR : Hid (Tp.right (.mk 1 0 ks) = false) := by show _ = _; rw [Tp.right]; simp [Tp.own, hz]
        clear hz ih HL
        go_enter Try.func21, Try.ntmps21
        go_wp2
        go_ret
        exact ⟨ret_bool HR.out.symm, bl_alloc (Below.refl _ _) _⟩
    · have hn2 : (n == 0) = false := by rw [beq_eq_false_iff_ne]; exact hn
      have HR : Hid (Tp.right (.mk 1 n ks) = false) := by show _ = _; rw [Tp.right]; simp [Tp.own, hn]
      clear ih HL
      go_enter Try.func21, Try.ntmps21
      go_wp2
      go_ret
      exact ⟨ret_bool HR.out.symm, bl_alloc (Below.refl _ _) _⟩
  by_cases h2 : k = 2
  · subst h2
    by_cases hn : n = 0
    · subst hn
      by_cases hz : ks.length = 0
      · have hks : ks = [] := List.eq_nil_of_length_eq_zero hz
        subst hks
        clear hz ih HL
        have HR : Hid (Tp.right (.mk 2 0 []) = true) := by show _ = _; rw [Tp.right]; simp [Tp.own, Tp.rightL]
        go_enter Try.func21, Try.ntmps21
        go_wp2
        go_ret
        exact ⟨ret_bool HR.out.symm, bl_alloc (Below.refl _ _) _⟩
      · have hz2 : ((ks.length : Int) == 0) = false := by rw [beq_eq_false_iff_ne]; omega
        have HR : Hid (Tp.right (.mk 2 0 ks) = false) := by show _ = _; rw [Tp.right]; simp [Tp.own, hz]
        clear hz ih HL
        go_enter Try.func21, Try.ntmps21
        go_wp2
        go_ret
        exact ⟨ret_bool HR.out.symm, bl_alloc (Below.refl _ _) _⟩
    · have hn2 : (n == 0) = false := by rw [beq_eq_false_iff_ne]; exact hn
      have HR : Hid (Tp.right (.mk 2 n ks) = false) := by show _ = _; rw [Tp.right]; simp [Tp.own, hn]
      clear ih HL
      go_enter Try.func21, Try.ntmps21
      go_wp2
      go_ret
      exact ⟨ret_bool HR.out.symm, bl_alloc (Below.refl _ _) _⟩
  by_cases h3 : k = 3
  · subst h3
    by_cases hn : n = 0
    · subst hn
      by_cases hz : ks.length = 0
      · have hks : ks = [] := List.eq_nil_of_length_eq_zero hz
        subst hks
        clear hz ih HL
        have HR : Hid (Tp.right (.mk 3 0 []) = true) := by show _ = _; rw [Tp.right]; simp [Tp.own, Tp.rightL]
        go_enter Try.func21, Try.ntmps21
        go_wp2
        go_ret
        exact ⟨ret_bool HR.out.symm, bl_alloc (Below.refl _ _) _⟩
      · have hz2 : ((ks.length : Int) == 0) = false := by rw [beq_eq_false_iff_ne]; omega
        have HR : Hid (Tp.right (.mk 3 0 ks) = false) := by show _ = _; rw [Tp.right]; simp [Tp.own, hz]
        clear hz ih HL
        go_enter Try.func21, Try.ntmps21
        go_wp2
        go_ret
        exact ⟨ret_bool HR.out.symm, bl_alloc (Below.refl _ _) _⟩
    · have hn2 : (n == 0) = false := by rw [beq_eq_false_iff_ne]; exact hn
      have HR : Hid (Tp.right (.mk 3 n ks) = false) := by show _ = _; rw [Tp.right]; simp [Tp.own, hn]
      clear ih HL
      go_enter Try.func21, Try.ntmps21
      go_wp2
      go_ret
      exact ⟨ret_bool HR.out.symm, bl_alloc (Below.refl _ _) _⟩
  by_cases h4 : k = 4
  · subst h4
    by_cases hn : n = 0
    · subst hn
      by_cases hz : ks.length = 2
      · obtain ⟨x, y, rfl⟩ : ∃ x y, ks = [x, y] := by
          match ks, hz with
          | [x, y], _ => exact ⟨x, y, rfl⟩
        obtain ⟨g, o, rfl⟩ : ∃ b o, a = some ⟨b, o, none⟩ := by
          rcases HL.out with ⟨b, o, c, hv, -⟩ | ⟨h0, -⟩
          · injection hv with e1 e2 e3; exact ⟨b, o, e1⟩
          · cases h0
        have HRR : Hid (Tp.right (.mk 4 0 [x, y]) = (x.right && y.right)) := by show _ = _; rw [Tp.right]; simp [Tp.own, Tp.rightL]
        obtain ⟨vx, tx, x0, x1, x2, -, hgl⟩ := HL.out.elem (i := 0) (x := x) rfl
        obtain ⟨vy, ty, z0, z1, z2, -, -⟩ := HL.out.elem (i := 1) (x := y) rfl
        obtain ⟨ax, cx, ex⟩ := tx.form
        obtain ⟨ay, cy, ey⟩ := ty.form
        simp only [List.cons.injEq, and_true, true_and] at ex ey
        subst ex
        subst ey
        simp only [Nat.zero_mul, Nat.add_zero, Nat.one_mul] at x0 x1 x2 z0 z1 z2
        have B1 : Hid (Below w.heap.size w (w.alloc (.cells #[.int .i64 4, .int .i64 0, .slice (some ⟨g, o, none⟩) 2 c] 24))) := bl_alloc (Below.refl _ _) _
        have X1 : Hid (Arr (w.alloc (.cells #[.int .i64 4, .int .i64 0, .slice (some ⟨g, o, none⟩) 2 c] 24)) w.heap.size 24 [.int .i64 4, .int .i64 0, .slice (some ⟨g, o, none⟩) 2 c]) := ⟨heap_alloc_at _ _⟩
        have qx : Hid (∀ wz, Below w.heap.size w wz → Calls Try.prog 21 #[.agg #[.int .i64 x.k, .int .i64 x.n, .slice ax x.ks.length cx]] wz fun e w' => e = .returned (.bool x.right) ∧ Below wz.heap.size wz w') := fun wz hz => ih wz _ x (tx.below hz)
        have qy : Hid (∀ wz, Below w.heap.size w wz → Calls Try.prog 21 #[.agg #[.int .i64 y.k, .int .i64 y.n, .slice ay y.ks.length cy]] wz fun e w' => e = .returned (.bool y.right) ∧ Below wz.heap.size wz w') := fun wz hz => ih wz _ y (ty.below hz)
        have U : Hid (∀ wz, Below w.heap.size w wz → wz.cell? ⟨g, o, none⟩ = some (.int .i64 x.k) ∧ wz.cell? ⟨g, o + 1, none⟩ = some (.int .i64 x.n) ∧ wz.cell? ⟨g, o + 2, none⟩ = some (.slice ax x.ks.length cx) ∧ wz.cell? ⟨g, o + 3, none⟩ = some (.int .i64 y.k) ∧ wz.cell? ⟨g, o + 3 + 1, none⟩ = some (.int .i64 y.n) ∧ wz.cell? ⟨g, o + 3 + 2, none⟩ = some (.slice ay y.ks.length cy)) := fun wz hz => ⟨(hz.cell hgl).trans x0, (hz.cell hgl).trans x1, (hz.cell hgl).trans x2, (hz.cell hgl).trans z0, (hz.cell hgl).trans z1, (hz.cell hgl).trans z2⟩
        obtain ⟨y0, y1, y2, -⟩ := U.out _ B1.out
        clear ih HL tx ty x0 x1 x2 z0 z1 z2 hz hgl
        have m0 := True.intro
        cases rx : x.right with
        | false =>
          rw [rx] at qx HRR
          simp only [Bool.false_and] at HRR
          go_enter Try.func21, Try.ntmps21
          go_wp2_with (first | (go_at_call 21; have _ := m0; refine (qx.out _ B1.out).mono ?_; rintro e w2 ⟨rfl, hb2⟩; clear m0))
          go_ret
          exact ⟨ret_bool HRR.out.symm, bl_tr B1.out hb2⟩
        | true =>
          rw [rx] at qx HRR
          simp only [Bool.true_and] at HRR
          go_enter Try.func21, Try.ntmps21
          go_wp2_with (first | (go_at_call 21; have _ := m0; refine (qx.out _ B1.out).mono ?_; rintro e w2 ⟨rfl, hb2⟩; have B2 : Hid (Below w.heap.size w w2) := bl_tr B1.out hb2; have X2 : Hid (Arr w2 w.heap.size 24 _) := X1.out.stays hb2; have k2 := X2.out.cell; obtain ⟨-, -, -, r0, r1, r2⟩ := U.out _ B2.out; have m1 := True.intro; clear m0 hb2) | (go_at_call 21; have _ := m1; refine (qy.out _ B2.out).mono ?_; rintro e w3 ⟨rfl, hb3⟩))
          go_ret
          exact ⟨ret_bool HRR.out.symm, bl_tr B2.out hb3⟩
      · have hz2 : ((ks.length : Int) == 2) = false := by rw [beq_eq_false_iff_ne]; omega
        have HR : Hid (Tp.right (.mk 4 0 ks) = false) := by show _ = _; rw [Tp.right]; simp [Tp.own, hz]
        clear hz ih HL
        go_enter Try.func21, Try.ntmps21
        go_wp2
        go_ret
        exact ⟨ret_bool HR.out.symm, bl_alloc (Below.refl _ _) _⟩
    · have hn2 : (n == 0) = false := by rw [beq_eq_false_iff_ne]; exact hn
      have HR : Hid (Tp.right (.mk 4 n ks) = false) := by show _ = _; rw [Tp.right]; simp [Tp.own, hn]
      clear ih HL
      go_enter Try.func21, Try.ntmps21
      go_wp2
      go_ret
      exact ⟨ret_bool HR.out.symm, bl_alloc (Below.refl _ _) _⟩
  by_cases h5 : k = 5
  · subst h5
    by_cases hn : n = 0
    · subst hn
      by_cases hz : ks.length = 2
      · obtain ⟨x, y, rfl⟩ : ∃ x y, ks = [x, y] := by
          match ks, hz with
          | [x, y], _ => exact ⟨x, y, rfl⟩
        obtain ⟨g, o, rfl⟩ : ∃ b o, a = some ⟨b, o, none⟩ := by
          rcases HL.out with ⟨b, o, c, hv, -⟩ | ⟨h0, -⟩
          · injection hv with e1 e2 e3; exact ⟨b, o, e1⟩
          · cases h0
        have HRR : Hid (Tp.right (.mk 5 0 [x, y]) = (x.right && y.right)) := by show _ = _; rw [Tp.right]; simp [Tp.own, Tp.rightL]
        obtain ⟨vx, tx, x0, x1, x2, -, hgl⟩ := HL.out.elem (i := 0) (x := x) rfl
        obtain ⟨vy, ty, z0, z1, z2, -, -⟩ := HL.out.elem (i := 1) (x := y) rfl
        obtain ⟨ax, cx, ex⟩ := tx.form
        obtain ⟨ay, cy, ey⟩ := ty.form
        simp only [List.cons.injEq, and_true, true_and] at ex ey
        subst ex
        subst ey
        simp only [Nat.zero_mul, Nat.add_zero, Nat.one_mul] at x0 x1 x2 z0 z1 z2
        have B1 : Hid (Below w.heap.size w (w.alloc (.cells #[.int .i64 5, .int .i64 0, .slice (some ⟨g, o, none⟩) 2 c] 24))) := bl_alloc (Below.refl _ _) _
        have X1 : Hid (Arr (w.alloc (.cells #[.int .i64 5, .int .i64 0, .slice (some ⟨g, o, none⟩) 2 c] 24)) w.heap.size 24 [.int .i64 5, .int .i64 0, .slice (some ⟨g, o, none⟩) 2 c]) := ⟨heap_alloc_at _ _⟩
        have qx : Hid (∀ wz, Below w.heap.size w wz → Calls Try.prog 21 #[.agg #[.int .i64 x.k, .int .i64 x.n, .slice ax x.ks.length cx]] wz fun e w' => e = .returned (.bool x.right) ∧ Below wz.heap.size wz w') := fun wz hz => ih wz _ x (tx.below hz)
        have qy : Hid (∀ wz, Below w.heap.size w wz → Calls Try.prog 21 #[.agg #[.int .i64 y.k, .int .i64 y.n, .slice ay y.ks.length cy]] wz fun e w' => e = .returned (.bool y.right) ∧ Below wz.heap.size wz w') := fun wz hz => ih wz _ y (ty.below hz)
        have U : Hid (∀ wz, Below w.heap.size w wz → wz.cell? ⟨g, o, none⟩ = some (.int .i64 x.k) ∧ wz.cell? ⟨g, o + 1, none⟩ = some (.int .i64 x.n) ∧ wz.cell? ⟨g, o + 2, none⟩ = some (.slice ax x.ks.length cx) ∧ wz.cell? ⟨g, o + 3, none⟩ = some (.int .i64 y.k) ∧ wz.cell? ⟨g, o + 3 + 1, none⟩ = some (.int .i64 y.n) ∧ wz.cell? ⟨g, o + 3 + 2, none⟩ = some (.slice ay y.ks.length cy)) := fun wz hz => ⟨(hz.cell hgl).trans x0, (hz.cell hgl).trans x1, (hz.cell hgl).trans x2, (hz.cell hgl).trans z0, (hz.cell hgl).trans z1, (hz.cell hgl).trans z2⟩
        obtain ⟨y0, y1, y2, -⟩ := U.out _ B1.out
        clear ih HL tx ty x0 x1 x2 z0 z1 z2 hz hgl
        have m0 := True.intro
        cases rx : x.right with
        | false =>
          rw [rx] at qx HRR
          simp only [Bool.false_and] at HRR
          go_enter Try.func21, Try.ntmps21
          go_wp2_with (first | (go_at_call 21; have _ := m0; refine (qx.out _ B1.out).mono ?_; rintro e w2 ⟨rfl, hb2⟩; clear m0))
          go_ret
          exact ⟨ret_bool HRR.out.symm, bl_tr B1.out hb2⟩
        | true =>
          rw [rx] at qx HRR
          simp only [Bool.true_and] at HRR
          go_enter Try.func21, Try.ntmps21
          go_wp2_with (first | (go_at_call 21; have _ := m0; refine (qx.out _ B1.out).mono ?_; rintro e w2 ⟨rfl, hb2⟩; have B2 : Hid (Below w.heap.size w w2) := bl_tr B1.out hb2; have X2 : Hid (Arr w2 w.heap.size 24 _) := X1.out.stays hb2; have k2 := X2.out.cell; obtain ⟨-, -, -, r0, r1, r2⟩ := U.out _ B2.out; have m1 := True.intro; clear m0 hb2) | (go_at_call 21; have _ := m1; refine (qy.out _ B2.out).mono ?_; rintro e w3 ⟨rfl, hb3⟩))
          go_ret
          exact ⟨ret_bool HRR.out.symm, bl_tr B2.out hb3⟩
      · have hz2 : ((ks.length : Int) == 2) = false := by rw [beq_eq_false_iff_ne]; omega
        have HR : Hid (Tp.right (.mk 5 0 ks) = false) := by show _ = _; rw [Tp.right]; simp [Tp.own, hz]
        clear hz ih HL
        go_enter Try.func21, Try.ntmps21
        go_wp2
        go_ret
        exact ⟨ret_bool HR.out.symm, bl_alloc (Below.refl _ _) _⟩
    · have hn2 : (n == 0) = false := by rw [beq_eq_false_iff_ne]; exact hn
      have HR : Hid (Tp.right (.mk 5 n ks) = false) := by show _ = _; rw [Tp.right]; simp [Tp.own, hn]
      clear ih HL
      go_enter Try.func21, Try.ntmps21
      go_wp2
      go_ret
      exact ⟨ret_bool HR.out.symm, bl_alloc (Below.refl _ _) _⟩
  by_cases h6 : k = 6
  · subst h6
    by_cases hn : 0 ≤ n
    · have hd : decide (0 ≤ n) = true := decide_eq_true hn
      by_cases hz : ks.length = 0
      · have hks : ks = [] := List.eq_nil_of_length_eq_zero hz
        subst hks
        clear hz ih HL
        have HR : Hid (Tp.right (.mk 6 n []) = true) := by show _ = _; rw [Tp.right]; simp [Tp.own, Tp.rightL, hn]
        go_enter Try.func21, Try.ntmps21
        go_wp2
        go_ret
        exact ⟨ret_bool HR.out.symm, bl_alloc (Below.refl _ _) _⟩
      · have hz2 : ((ks.length : Int) == 0) = false := by rw [beq_eq_false_iff_ne]; omega
        have HR : Hid (Tp.right (.mk 6 n ks) = false) := by show _ = _; rw [Tp.right]; simp [Tp.own, hz]
        clear hz ih HL
        go_enter Try.func21, Try.ntmps21
        go_wp2
        go_ret
        exact ⟨ret_bool HR.out.symm, bl_alloc (Below.refl _ _) _⟩
    · have hd : decide (0 ≤ n) = false := decide_eq_false hn
      have HR : Hid (Tp.right (.mk 6 n ks) = false) := by show _ = _; rw [Tp.right]; simp [Tp.own, hn]
      clear ih HL
      go_enter Try.func21, Try.ntmps21
      go_wp2
      go_ret
      exact ⟨ret_bool HR.out.symm, bl_alloc (Below.refl _ _) _⟩
  by_cases h7 : k = 7
  · subst h7
    by_cases hn : 0 ≤ n
    · have hd : decide (0 ≤ n) = true := decide_eq_true hn
      by_cases hz : ks.length = 0
      · have hks : ks = [] := List.eq_nil_of_length_eq_zero hz
        subst hks
        clear hz ih HL
        have HR : Hid (Tp.right (.mk 7 n []) = true) := by show _ = _; rw [Tp.right]; simp [Tp.own, Tp.rightL, hn]
        go_enter Try.func21, Try.ntmps21
        go_wp2
        go_ret
        exact ⟨ret_bool HR.out.symm, bl_alloc (Below.refl _ _) _⟩
      · have hz2 : ((ks.length : Int) == 0) = false := by rw [beq_eq_false_iff_ne]; omega
        have HR : Hid (Tp.right (.mk 7 n ks) = false) := by show _ = _; rw [Tp.right]; simp [Tp.own, hz]
        clear hz ih HL
        go_enter Try.func21, Try.ntmps21
        go_wp2
        go_ret
        exact ⟨ret_bool HR.out.symm, bl_alloc (Below.refl _ _) _⟩
    · have hd : decide (0 ≤ n) = false := decide_eq_false hn
      have HR : Hid (Tp.right (.mk 7 n ks) = false) := by show _ = _; rw [Tp.right]; simp [Tp.own, hn]
      clear ih HL
      go_enter Try.func21, Try.ntmps21
      go_wp2
      go_ret
      exact ⟨ret_bool HR.out.symm, bl_alloc (Below.refl _ _) _⟩
  by_cases h8 : k = 8
  · subst h8
    by_cases hn : 0 ≤ n
    · have hd : decide (0 ≤ n) = true := decide_eq_true hn
      by_cases hz : ks.length = 0
      · have hks : ks = [] := List.eq_nil_of_length_eq_zero hz
        subst hks
        clear hz ih HL
        have HR : Hid (Tp.right (.mk 8 n []) = true) := by show _ = _; rw [Tp.right]; simp [Tp.own, Tp.rightL, hn]
        go_enter Try.func21, Try.ntmps21
        go_wp2
        go_ret
        exact ⟨ret_bool HR.out.symm, bl_alloc (Below.refl _ _) _⟩
      · have hz2 : ((ks.length : Int) == 0) = false := by rw [beq_eq_false_iff_ne]; omega
        have HR : Hid (Tp.right (.mk 8 n ks) = false) := by show _ = _; rw [Tp.right]; simp [Tp.own, hz]
        clear hz ih HL
        go_enter Try.func21, Try.ntmps21
        go_wp2
        go_ret
        exact ⟨ret_bool HR.out.symm, bl_alloc (Below.refl _ _) _⟩
    · have hd : decide (0 ≤ n) = false := decide_eq_false hn
      have HR : Hid (Tp.right (.mk 8 n ks) = false) := by show _ = _; rw [Tp.right]; simp [Tp.own, hn]
      clear ih HL
      go_enter Try.func21, Try.ntmps21
      go_wp2
      go_ret
      exact ⟨ret_bool HR.out.symm, bl_alloc (Below.refl _ _) _⟩
  have g1 : (k == 1) = false := by rw [beq_eq_false_iff_ne]; exact h1
  have g2 : (k == 2) = false := by rw [beq_eq_false_iff_ne]; exact h2
  have g3 : (k == 3) = false := by rw [beq_eq_false_iff_ne]; exact h3
  have g4 : (k == 4) = false := by rw [beq_eq_false_iff_ne]; exact h4
  have g5 : (k == 5) = false := by rw [beq_eq_false_iff_ne]; exact h5
  have g6 : (k == 6) = false := by rw [beq_eq_false_iff_ne]; exact h6
  have g7 : (k == 7) = false := by rw [beq_eq_false_iff_ne]; exact h7
  have g8 : (k == 8) = false := by rw [beq_eq_false_iff_ne]; exact h8
  have HR : Hid (Tp.right (.mk k n ks) = false) := by show _ = _; rw [Tp.right]; simp [Tp.own, h1, h2, h3, h4, h5, h6, h7, h8]
  clear ih HL h1 h2 h3 h4 h5 h6 h7 h8
  go_enter Try.func21, Try.ntmps21
  go_wp2
  go_ret
  exact ⟨ret_bool HR.out.symm, bl_alloc (Below.refl _ _) _⟩
theorem refRight_any : ∀ n, RRightOf n
  | 0 => fun w vs t h => h.elim
  | n + 1 => refRight_step n (refRight_any n)
end Go.Proofs.Ytigliglmejkakaa
