/- TypesOrder: the walk. -/
import Derived.Test.YtbdohoebpaiecaaDoorTpY
import Derived.Test.YtbdohoebpaiecaaDoorTpO
namespace Go.Proofs.YtbdohoebpaiecaaDoor
open Go.RowKit
set_option linter.unusedVariables false
set_option linter.unusedSimpArgs false

def CmpAt (w : World) (va vb : Value) (z : Int) : Prop := ∀ wz, Below w.heap.size w wz → Calls Tryd.prog 29 #[va, vb] wz fun e w' => e = .returned (.int .i64 z) ∧ Below wz.heap.size wz w'
def SameAt (w : World) (va vb : Value) (z : Bool) : Prop := ∀ wz, Below w.heap.size w wz → Calls Tryd.prog 27 #[va, vb] wz fun e w' => e = .returned (.bool z) ∧ Below wz.heap.size wz w'

set_option maxHeartbeats 4000000 in
set_option maxRecDepth 100000 in
theorem order_core (w : World) (hW : Tab w) (a0 a1 b0 b1 c0 c1 : Int) (a2 b2 c2 : Option Addr) (la lb lc ca cb cc : Nat) (k y z : Int) (hk : k = -1 ∨ k = 0 ∨ k = 1) (hz : k ≤ 0 → y ≤ 0 → z ≤ 0)
    (q1 : CmpAt w (.agg #[.int .i64 a0, .int .i64 a1, .slice a2 la ca]) (.agg #[.int .i64 b0, .int .i64 b1, .slice b2 lb cb]) k)
    (q2 : CmpAt w (.agg #[.int .i64 b0, .int .i64 b1, .slice b2 lb cb]) (.agg #[.int .i64 a0, .int .i64 a1, .slice a2 la ca]) (-k))
    (q3 : SameAt w (.agg #[.int .i64 a0, .int .i64 a1, .slice a2 la ca]) (.agg #[.int .i64 b0, .int .i64 b1, .slice b2 lb cb]) (k == 0))
    (q4 : CmpAt w (.agg #[.int .i64 b0, .int .i64 b1, .slice b2 lb cb]) (.agg #[.int .i64 c0, .int .i64 c1, .slice c2 lc cc]) y)
    (q5 : CmpAt w (.agg #[.int .i64 a0, .int .i64 a1, .slice a2 la ca]) (.agg #[.int .i64 c0, .int .i64 c1, .slice c2 lc cc]) z)
    (q6 : SameAt w (.agg #[.int .i64 a0, .int .i64 a1, .slice a2 la ca]) (.agg #[.int .i64 a0, .int .i64 a1, .slice a2 la ca]) true) :
    Calls Tryd.prog 7 #[.agg #[.int .i64 a0, .int .i64 a1, .slice a2 la ca], .agg #[.int .i64 b0, .int .i64 b1, .slice b2 lb cb], .agg #[.int .i64 c0, .int .i64 c1, .slice c2 lc cc]] w fun e w' => e = .returned (.bool true) ∧ Below w.heap.size w w' := by
  have Q1 : Hid (CmpAt w _ _ k) := q1
  have Q2 : Hid (CmpAt w _ _ (-k)) := q2
  have Q3 : Hid (SameAt w _ _ (k == 0)) := q3
  have Q4 : Hid (CmpAt w _ _ y) := q4
  have Q5 : Hid (CmpAt w _ _ z) := q5
  have Q6 : Hid (SameAt w _ _ true) := q6
  have QA : Hid (∀ wz, Below w.heap.size w wz → Calls Tryd.prog 26 #[] wz fun e w' => e = .returned (.bool true) ∧ Below wz.heap.size wz w') := fun wz hz => alive_any wz (hW.stays hz)
  clear q1 q2 q3 q4 q5 q6 hW
  have X : Hid (∀ wz, Below (((w.alloc (.cells #[.int .i64 a0, .int .i64 a1, .slice a2 la ca] 24)).alloc (.cells #[.int .i64 b0, .int .i64 b1, .slice b2 lb cb] 24)).alloc (.cells #[.int .i64 c0, .int .i64 c1, .slice c2 lc cc] 24)).heap.size (((w.alloc (.cells #[.int .i64 a0, .int .i64 a1, .slice a2 la ca] 24)).alloc (.cells #[.int .i64 b0, .int .i64 b1, .slice b2 lb cb] 24)).alloc (.cells #[.int .i64 c0, .int .i64 c1, .slice c2 lc cc] 24)) wz → Arr wz w.heap.size 24 [.int .i64 a0, .int .i64 a1, .slice a2 la ca] ∧ Arr wz (w.heap.size + 1) 24 [.int .i64 b0, .int .i64 b1, .slice b2 lb cb] ∧ Arr wz (w.heap.size + 1 + 1) 24 [.int .i64 c0, .int .i64 c1, .slice c2 lc cc]) := fun wz hz => by
    have e1 := heap_alloc_at (w.alloc (.cells #[.int .i64 a0, .int .i64 a1, .slice a2 la ca] 24)) (.cells #[.int .i64 b0, .int .i64 b1, .slice b2 lb cb] 24)
    have e2 := heap_alloc_at ((w.alloc (.cells #[.int .i64 a0, .int .i64 a1, .slice a2 la ca] 24)).alloc (.cells #[.int .i64 b0, .int .i64 b1, .slice b2 lb cb] 24)) (.cells #[.int .i64 c0, .int .i64 c1, .slice c2 lc cc] 24)
    rw [size_alloc] at e1
    rw [size_alloc, size_alloc] at e2
    exact ⟨((Arr.stays (⟨heap_alloc_at w _⟩) (bl_alloc (Below.refl _ _) _)).stays (bl_alloc (Below.refl _ _) _)).stays hz, ((Arr.stays (⟨e1⟩) (bl_alloc (Below.refl _ _) _))).stays hz, Arr.stays (⟨e2⟩) hz⟩
  have B0 : Hid (Below w.heap.size w (((w.alloc (.cells #[.int .i64 a0, .int .i64 a1, .slice a2 la ca] 24)).alloc (.cells #[.int .i64 b0, .int .i64 b1, .slice b2 lb cb] 24)).alloc (.cells #[.int .i64 c0, .int .i64 c1, .slice c2 lc cc] 24))) := bl_alloc (bl_alloc (bl_alloc (Below.refl _ _) _) _) _
  have m0 := True.intro
  rcases hk with rfl | rfl | rfl
  · simp only [Int.reduceNeg, Int.neg_neg, Int.neg_zero, Int.reduceBEq, BEq.rfl] at Q2 Q3
    by_cases hy : y ≤ 0
    · have hz2 : decide (0 < z) = false := decide_eq_false (by have := hz (by decide) hy; omega)
      have hy2 : decide (y ≤ 0) = true := decide_eq_true hy
      clear hz hy
      go_enter Tryd.func7, Tryd.ntmps7
      go_wp2_with (first | (go_at_call 29; have := m0; refine (Q1.out _ B0.out).mono ?_; rintro e w1 ⟨rfl, b1⟩; have D1 : Hid (Below _ _ w1) := b1; have x1 := (X.out _ D1.out).1.cell; have y1 := (X.out _ D1.out).2.1.cell; have z1 := (X.out _ D1.out).2.2.cell; clear b1 m0; have m1 := True.intro) | (go_at_call 29; have := m1; refine (Q2.out _ (bl_tr B0.out D1.out)).mono ?_; rintro e w2 ⟨rfl, b2⟩; have D2 : Hid (Below _ _ w2) := bl_tr D1.out b2; have x2 := (X.out _ D2.out).1.cell; have y2 := (X.out _ D2.out).2.1.cell; have z2 := (X.out _ D2.out).2.2.cell; clear b2 m1 x1 y1 z1; have m2 := True.intro) | (go_at_call 27; have := m2; refine (Q3.out _ (bl_tr B0.out D2.out)).mono ?_; rintro e w3 ⟨rfl, b3⟩; have D3 : Hid (Below _ _ w3) := bl_tr D2.out b3; have x3 := (X.out _ D3.out).1.cell; have y3 := (X.out _ D3.out).2.1.cell; have z3 := (X.out _ D3.out).2.2.cell; clear b3 m2 x2 y2 z2; have m3 := True.intro) | (go_at_call 29; have := m3; refine (Q4.out _ (bl_tr B0.out D3.out)).mono ?_; rintro e w4 ⟨rfl, b4⟩; have D4 : Hid (Below _ _ w4) := bl_tr D3.out b4; have x4 := (X.out _ D4.out).1.cell; have y4 := (X.out _ D4.out).2.1.cell; have z4 := (X.out _ D4.out).2.2.cell; clear b4 m3 x3 y3 z3; have m4 := True.intro) | (go_at_call 29; have := m4; refine (Q5.out _ (bl_tr B0.out D4.out)).mono ?_; rintro e w5 ⟨rfl, b5⟩; have D5 : Hid (Below _ _ w5) := bl_tr D4.out b5; have x5 := (X.out _ D5.out).1.cell; have y5 := (X.out _ D5.out).2.1.cell; have z5 := (X.out _ D5.out).2.2.cell; clear b5 m4 x4 y4 z4; have m5 := True.intro) | (go_at_call 27; have := m5; refine (Q6.out _ (bl_tr B0.out D5.out)).mono ?_; rintro e w6 ⟨rfl, b6⟩; have D6 : Hid (Below _ _ w6) := bl_tr D5.out b6; have x6 := (X.out _ D6.out).1.cell; have y6 := (X.out _ D6.out).2.1.cell; have z6 := (X.out _ D6.out).2.2.cell; clear b6 m5 x5 y5 z5; have m6 := True.intro) | (go_at_call 26; have := m6; refine (QA.out _ (bl_tr B0.out D6.out)).mono ?_; rintro e w7 ⟨rfl, b7⟩; have D7 : Hid (Below _ _ w7) := bl_tr D6.out b7; have x7 := (X.out _ D7.out).1.cell; have y7 := (X.out _ D7.out).2.1.cell; have z7 := (X.out _ D7.out).2.2.cell; clear b7 m6 x6 y6 z6; have m7 := True.intro))
      go_ret
      exact ⟨rfl, bl_tr B0.out D7.out⟩
    · have hy2 : decide (y ≤ 0) = false := decide_eq_false hy
      clear hz hy
      go_enter Tryd.func7, Tryd.ntmps7
      go_wp2_with (first | (go_at_call 29; have := m0; refine (Q1.out _ B0.out).mono ?_; rintro e w1 ⟨rfl, b1⟩; have D1 : Hid (Below _ _ w1) := b1; have x1 := (X.out _ D1.out).1.cell; have y1 := (X.out _ D1.out).2.1.cell; have z1 := (X.out _ D1.out).2.2.cell; clear b1 m0; have m1 := True.intro) | (go_at_call 29; have := m1; refine (Q2.out _ (bl_tr B0.out D1.out)).mono ?_; rintro e w2 ⟨rfl, b2⟩; have D2 : Hid (Below _ _ w2) := bl_tr D1.out b2; have x2 := (X.out _ D2.out).1.cell; have y2 := (X.out _ D2.out).2.1.cell; have z2 := (X.out _ D2.out).2.2.cell; clear b2 m1 x1 y1 z1; have m2 := True.intro) | (go_at_call 27; have := m2; refine (Q3.out _ (bl_tr B0.out D2.out)).mono ?_; rintro e w3 ⟨rfl, b3⟩; have D3 : Hid (Below _ _ w3) := bl_tr D2.out b3; have x3 := (X.out _ D3.out).1.cell; have y3 := (X.out _ D3.out).2.1.cell; have z3 := (X.out _ D3.out).2.2.cell; clear b3 m2 x2 y2 z2; have m3 := True.intro) | (go_at_call 29; have := m3; refine (Q4.out _ (bl_tr B0.out D3.out)).mono ?_; rintro e w4 ⟨rfl, b4⟩; have D4 : Hid (Below _ _ w4) := bl_tr D3.out b4; have x4 := (X.out _ D4.out).1.cell; have y4 := (X.out _ D4.out).2.1.cell; have z4 := (X.out _ D4.out).2.2.cell; clear b4 m3 x3 y3 z3; have m4 := True.intro) | (go_at_call 27; have := m4; refine (Q6.out _ (bl_tr B0.out D4.out)).mono ?_; rintro e w5 ⟨rfl, b5⟩; have D5 : Hid (Below _ _ w5) := bl_tr D4.out b5; have x5 := (X.out _ D5.out).1.cell; have y5 := (X.out _ D5.out).2.1.cell; have z5 := (X.out _ D5.out).2.2.cell; clear b5 m4 x4 y4 z4; have m5 := True.intro) | (go_at_call 26; have := m5; refine (QA.out _ (bl_tr B0.out D5.out)).mono ?_; rintro e w6 ⟨rfl, b6⟩; have D6 : Hid (Below _ _ w6) := bl_tr D5.out b6; have x6 := (X.out _ D6.out).1.cell; have y6 := (X.out _ D6.out).2.1.cell; have z6 := (X.out _ D6.out).2.2.cell; clear b6 m5 x5 y5 z5; have m6 := True.intro))
      go_ret
      exact ⟨rfl, bl_tr B0.out D6.out⟩
  · simp only [Int.reduceNeg, Int.neg_neg, Int.neg_zero, Int.reduceBEq, BEq.rfl] at Q2 Q3
    by_cases hy : y ≤ 0
    · have hz2 : decide (0 < z) = false := decide_eq_false (by have := hz (by decide) hy; omega)
      have hy2 : decide (y ≤ 0) = true := decide_eq_true hy
      clear hz hy
      go_enter Tryd.func7, Tryd.ntmps7
      go_wp2_with (first | (go_at_call 29; have := m0; refine (Q1.out _ B0.out).mono ?_; rintro e w1 ⟨rfl, b1⟩; have D1 : Hid (Below _ _ w1) := b1; have x1 := (X.out _ D1.out).1.cell; have y1 := (X.out _ D1.out).2.1.cell; have z1 := (X.out _ D1.out).2.2.cell; clear b1 m0; have m1 := True.intro) | (go_at_call 29; have := m1; refine (Q2.out _ (bl_tr B0.out D1.out)).mono ?_; rintro e w2 ⟨rfl, b2⟩; have D2 : Hid (Below _ _ w2) := bl_tr D1.out b2; have x2 := (X.out _ D2.out).1.cell; have y2 := (X.out _ D2.out).2.1.cell; have z2 := (X.out _ D2.out).2.2.cell; clear b2 m1 x1 y1 z1; have m2 := True.intro) | (go_at_call 27; have := m2; refine (Q3.out _ (bl_tr B0.out D2.out)).mono ?_; rintro e w3 ⟨rfl, b3⟩; have D3 : Hid (Below _ _ w3) := bl_tr D2.out b3; have x3 := (X.out _ D3.out).1.cell; have y3 := (X.out _ D3.out).2.1.cell; have z3 := (X.out _ D3.out).2.2.cell; clear b3 m2 x2 y2 z2; have m3 := True.intro) | (go_at_call 29; have := m3; refine (Q4.out _ (bl_tr B0.out D3.out)).mono ?_; rintro e w4 ⟨rfl, b4⟩; have D4 : Hid (Below _ _ w4) := bl_tr D3.out b4; have x4 := (X.out _ D4.out).1.cell; have y4 := (X.out _ D4.out).2.1.cell; have z4 := (X.out _ D4.out).2.2.cell; clear b4 m3 x3 y3 z3; have m4 := True.intro) | (go_at_call 29; have := m4; refine (Q5.out _ (bl_tr B0.out D4.out)).mono ?_; rintro e w5 ⟨rfl, b5⟩; have D5 : Hid (Below _ _ w5) := bl_tr D4.out b5; have x5 := (X.out _ D5.out).1.cell; have y5 := (X.out _ D5.out).2.1.cell; have z5 := (X.out _ D5.out).2.2.cell; clear b5 m4 x4 y4 z4; have m5 := True.intro) | (go_at_call 27; have := m5; refine (Q6.out _ (bl_tr B0.out D5.out)).mono ?_; rintro e w6 ⟨rfl, b6⟩; have D6 : Hid (Below _ _ w6) := bl_tr D5.out b6; have x6 := (X.out _ D6.out).1.cell; have y6 := (X.out _ D6.out).2.1.cell; have z6 := (X.out _ D6.out).2.2.cell; clear b6 m5 x5 y5 z5; have m6 := True.intro) | (go_at_call 26; have := m6; refine (QA.out _ (bl_tr B0.out D6.out)).mono ?_; rintro e w7 ⟨rfl, b7⟩; have D7 : Hid (Below _ _ w7) := bl_tr D6.out b7; have x7 := (X.out _ D7.out).1.cell; have y7 := (X.out _ D7.out).2.1.cell; have z7 := (X.out _ D7.out).2.2.cell; clear b7 m6 x6 y6 z6; have m7 := True.intro))
      go_ret
      exact ⟨rfl, bl_tr B0.out D7.out⟩
    · have hy2 : decide (y ≤ 0) = false := decide_eq_false hy
      clear hz hy
      go_enter Tryd.func7, Tryd.ntmps7
      go_wp2_with (first | (go_at_call 29; have := m0; refine (Q1.out _ B0.out).mono ?_; rintro e w1 ⟨rfl, b1⟩; have D1 : Hid (Below _ _ w1) := b1; have x1 := (X.out _ D1.out).1.cell; have y1 := (X.out _ D1.out).2.1.cell; have z1 := (X.out _ D1.out).2.2.cell; clear b1 m0; have m1 := True.intro) | (go_at_call 29; have := m1; refine (Q2.out _ (bl_tr B0.out D1.out)).mono ?_; rintro e w2 ⟨rfl, b2⟩; have D2 : Hid (Below _ _ w2) := bl_tr D1.out b2; have x2 := (X.out _ D2.out).1.cell; have y2 := (X.out _ D2.out).2.1.cell; have z2 := (X.out _ D2.out).2.2.cell; clear b2 m1 x1 y1 z1; have m2 := True.intro) | (go_at_call 27; have := m2; refine (Q3.out _ (bl_tr B0.out D2.out)).mono ?_; rintro e w3 ⟨rfl, b3⟩; have D3 : Hid (Below _ _ w3) := bl_tr D2.out b3; have x3 := (X.out _ D3.out).1.cell; have y3 := (X.out _ D3.out).2.1.cell; have z3 := (X.out _ D3.out).2.2.cell; clear b3 m2 x2 y2 z2; have m3 := True.intro) | (go_at_call 29; have := m3; refine (Q4.out _ (bl_tr B0.out D3.out)).mono ?_; rintro e w4 ⟨rfl, b4⟩; have D4 : Hid (Below _ _ w4) := bl_tr D3.out b4; have x4 := (X.out _ D4.out).1.cell; have y4 := (X.out _ D4.out).2.1.cell; have z4 := (X.out _ D4.out).2.2.cell; clear b4 m3 x3 y3 z3; have m4 := True.intro) | (go_at_call 27; have := m4; refine (Q6.out _ (bl_tr B0.out D4.out)).mono ?_; rintro e w5 ⟨rfl, b5⟩; have D5 : Hid (Below _ _ w5) := bl_tr D4.out b5; have x5 := (X.out _ D5.out).1.cell; have y5 := (X.out _ D5.out).2.1.cell; have z5 := (X.out _ D5.out).2.2.cell; clear b5 m4 x4 y4 z4; have m5 := True.intro) | (go_at_call 26; have := m5; refine (QA.out _ (bl_tr B0.out D5.out)).mono ?_; rintro e w6 ⟨rfl, b6⟩; have D6 : Hid (Below _ _ w6) := bl_tr D5.out b6; have x6 := (X.out _ D6.out).1.cell; have y6 := (X.out _ D6.out).2.1.cell; have z6 := (X.out _ D6.out).2.2.cell; clear b6 m5 x5 y5 z5; have m6 := True.intro))
      go_ret
      exact ⟨rfl, bl_tr B0.out D6.out⟩
  · simp only [Int.reduceNeg, Int.reduceBEq] at Q2 Q3
    go_enter Tryd.func7, Tryd.ntmps7
    go_wp2_with (first | (go_at_call 29; have := m0; refine (Q1.out _ B0.out).mono ?_; rintro e w1 ⟨rfl, b1⟩; have D1 : Hid (Below _ _ w1) := b1; have x1 := (X.out _ D1.out).1.cell; have y1 := (X.out _ D1.out).2.1.cell; have z1 := (X.out _ D1.out).2.2.cell; clear b1 m0; have m1 := True.intro) | (go_at_call 29; have := m1; refine (Q2.out _ (bl_tr B0.out D1.out)).mono ?_; rintro e w2 ⟨rfl, b2⟩; have D2 : Hid (Below _ _ w2) := bl_tr D1.out b2; have x2 := (X.out _ D2.out).1.cell; have y2 := (X.out _ D2.out).2.1.cell; have z2 := (X.out _ D2.out).2.2.cell; clear b2 m1 x1 y1 z1; have m2 := True.intro) | (go_at_call 27; have := m2; refine (Q3.out _ (bl_tr B0.out D2.out)).mono ?_; rintro e w3 ⟨rfl, b3⟩; have D3 : Hid (Below _ _ w3) := bl_tr D2.out b3; have x3 := (X.out _ D3.out).1.cell; have y3 := (X.out _ D3.out).2.1.cell; have z3 := (X.out _ D3.out).2.2.cell; clear b3 m2 x2 y2 z2; have m3 := True.intro) | (go_at_call 27; have := m3; refine (Q6.out _ (bl_tr B0.out D3.out)).mono ?_; rintro e w4 ⟨rfl, b4⟩; have D4 : Hid (Below _ _ w4) := bl_tr D3.out b4; have x4 := (X.out _ D4.out).1.cell; have y4 := (X.out _ D4.out).2.1.cell; have z4 := (X.out _ D4.out).2.2.cell; clear b4 m3 x3 y3 z3; have m4 := True.intro) | (go_at_call 26; have := m4; refine (QA.out _ (bl_tr B0.out D4.out)).mono ?_; rintro e w5 ⟨rfl, b5⟩; have D5 : Hid (Below _ _ w5) := bl_tr D4.out b5; have x5 := (X.out _ D5.out).1.cell; have y5 := (X.out _ D5.out).2.1.cell; have z5 := (X.out _ D5.out).2.2.cell; clear b5 m4 x4 y4 z4; have m5 := True.intro))
    go_ret
    exact ⟨rfl, bl_tr B0.out D5.out⟩
theorem order_walk (w : World) (hW : Tab w) (na nb nc : Nat) (va vb vc : List Value) (a b c : Tp) (ha : TAt w Any na va a) (hb : TAt w Any nb vb b) (hc : TAt w Any nc vc c) :
    Calls Tryd.prog 7 #[.agg va.toArray, .agg vb.toArray, .agg vc.toArray] w fun e w' => e = .returned (.bool true) ∧ Below w.heap.size w w' := by
  have q : ∀ {n m : Nat} {u v : List Value} {x y : Tp}, TAt w Any n u x → TAt w Any m v y → CmpAt w (.agg u.toArray) (.agg v.toArray) (Tp.cmp x y) := fun hx hy wz hz => Cmp_any _ wz _ _ _ _ _ (hx.below hz) (hy.below hz)
  have s : ∀ {n m : Nat} {u v : List Value} {x y : Tp}, TAt w Any n u x → TAt w Any m v y → SameAt w (.agg u.toArray) (.agg v.toArray) (Tp.cmp x y == 0) := fun hx hy wz hz => Same_any wz _ _ _ _ _ _ (hx.below hz) (hy.below hz)
  have q1 := q ha hb
  have q2 := q hb ha
  have q3 := s ha hb
  have q4 := q hb hc
  have q5 := q ha hc
  have q6 := s ha ha
  rw [Tp.cmp_neg a b] at q2
  rw [show (Tp.cmp a a == 0) = true by rw [beq_iff_eq]; exact (Tp.cmp_eq a a).2 rfl] at q6
  obtain ⟨a2, ca, rfl⟩ := ha.form
  obtain ⟨b2, cb, rfl⟩ := hb.form
  obtain ⟨c2, cc, rfl⟩ := hc.form
  exact order_core w hW _ _ _ _ _ _ _ _ _ _ _ _ _ _ _ _ _ _ (Tp.cmp_cases a b) (Tp.cmp_trans a b c).1 q1 q2 q3 q4 q5 q6
end Go.Proofs.YtbdohoebpaiecaaDoor
