/- alive: the chapter's examples come. -/
import Derived.Test.YtfeppchgmobfpaaGreatDoorTgY
namespace Go.Proofs.YtfeppchgmobfpaaGreatDoor
open Go.RowKit
set_option linter.unusedVariables false
set_option linter.unusedSimpArgs false

theorem keep4 {W1 w' w'' : World} {p0 p1 p2 p3 : Addr} {v0 v1 v2 v3 : Value} (hb : Below w'.heap.size w' w'') (h : w'.cell? p0 = some v0 ∧ w'.cell? p1 = some v1 ∧ w'.cell? p2 = some v2 ∧ w'.cell? p3 = some v3 ∧ Below W1.heap.size W1 w') : w''.cell? p0 = some v0 ∧ w''.cell? p1 = some v1 ∧ w''.cell? p2 = some v2 ∧ w''.cell? p3 = some v3 ∧ Below W1.heap.size W1 w'' :=
  have hk : ∀ p v, w'.cell? p = some v → w''.cell? p = some v := fun p v hv => (hb.cell (World.block_lt_of_cell? w' _ hv)).trans hv
  ⟨hk _ _ h.1, hk _ _ h.2.1, hk _ _ h.2.2.1, hk _ _ h.2.2.2.1, bl_tr h.2.2.2.2 hb⟩
theorem belo4 {W1 w' : World} {p0 p1 p2 p3 : Addr} {v0 v1 v2 v3 : Value} (h : w'.cell? p0 = some v0 ∧ w'.cell? p1 = some v1 ∧ w'.cell? p2 = some v2 ∧ w'.cell? p3 = some v3 ∧ Below W1.heap.size W1 w') : Below W1.heap.size W1 w' := h.2.2.2.2

set_option maxHeartbeats 8000000 in
set_option maxRecDepth 100000 in
theorem alive_any (w : World) (hW : Tab w) : Calls Tryz.prog 16 #[] w fun e w' => e = .returned (.bool true) ∧ Below w.heap.size w w' := by
  have HW : Hid (Tab w) := hW
  clear hW
  have m0 := True.intro
  go_enter Tryz.func16, Tryz.ntmps16
  go_wp2_with (first
    | (go_at_call 37; have := m0; refine (v_any _ 1).mono ?_; rintro e w1 ⟨rfl, b1⟩; clear m0; have m1 := True.intro)
    | (go_at_call 37; have := m1; refine (v_any _ 2).mono ?_; rintro e w2 ⟨rfl, b2⟩; clear m1)
    | (go_at_call 36; refine (fn_any _ 1 2).mono ?_; rintro e w3 ⟨g4, rfl, t3, b3⟩; have T3 := hid (t3 ⟨by decide, by decide⟩ ⟨by decide, by decide⟩); clear t3)
    | (go_at_call 35; refine (all_any _ 1 g4 2 _ T3.out).mono ?_; rintro e w4 ⟨g5, rfl, t4, b4⟩; have T4 : Hid (TAt w4 Any 3 [.int .i64 10, .int .i64 1, .slice none 0 0, .slice (some ⟨g5, 0, none⟩) 1 1] (Tt.ex 1 2)) := hid (t4 ⟨by decide, by decide⟩); have B4 : Hid (Below w.heap.size w w4) := hid (bl_tr (bl_tr (bl_tr b1 b2) b3) b4); clear t4 T3 b1 b2 b3 b4))
  have XA : Arr (w4.alloc (.cells #[.int .i64 10, .int .i64 1, .slice none 0 0, .slice (some ⟨g5, 0, none⟩) 1 1] 25)) w4.heap.size 25 [.int .i64 10, .int .i64 1, .slice none 0 0, .slice (some ⟨g5, 0, none⟩) 1 1] := ⟨heap_alloc_at _ _⟩
  have BW : Hid (Below w.heap.size w (w4.alloc (.cells #[.int .i64 10, .int .i64 1, .slice none 0 0, .slice (some ⟨g5, 0, none⟩) 1 1] 25))) := bl_alloc B4.out _
  have TA : Hid (TAt (w4.alloc (.cells #[.int .i64 10, .int .i64 1, .slice none 0 0, .slice (some ⟨g5, 0, none⟩) 1 1] 25)) Any 3 [.int .i64 10, .int .i64 1, .slice none 0 0, .slice (some ⟨g5, 0, none⟩) 1 1] (Tt.ex 1 2)) := T4.out.below (bl_alloc (Below.refl _ _) _)
  generalize w4.alloc (.cells #[.int .i64 10, .int .i64 1, .slice none 0 0, .slice (some ⟨g5, 0, none⟩) 1 1] 25) = W1 at XA BW TA ⊢
  generalize w4.heap.size = gA at XA ⊢
  have hs0 : Hid (W1.drew.cell? ⟨gA, 0, none⟩ = some (.int .i64 10) ∧ W1.drew.cell? ⟨gA, 1, none⟩ = some (.int .i64 1) ∧ W1.drew.cell? ⟨gA, 2, none⟩ = some (.slice none 0 0) ∧ W1.drew.cell? ⟨gA, 3, none⟩ = some (.slice (some ⟨g5, 0, none⟩) 1 1) ∧ Below W1.heap.size W1 W1.drew) := ⟨XA.cell 0, XA.cell 1, XA.cell 2, XA.cell 3, (Below.refl _ _).drew⟩
  have q1 : Hid (∀ w' g, (w'.cell? ⟨gA, 0, none⟩ = some (.int .i64 10) ∧ w'.cell? ⟨gA, 1, none⟩ = some (.int .i64 1) ∧ w'.cell? ⟨gA, 2, none⟩ = some (.slice none 0 0) ∧ w'.cell? ⟨gA, 3, none⟩ = some (.slice (some ⟨g5, 0, none⟩) 1 1) ∧ Below W1.heap.size W1 w') → TAt w' Any 3 [.int .i64 10, .int .i64 7, .slice none 0 0, .slice (some ⟨g, 0, none⟩) 1 1] (Tt.ex 7 2) → Calls Tryz.prog 18 #[.agg #[.int .i64 10, .int .i64 1, .slice none 0 0, .slice (some ⟨g5, 0, none⟩) 1 1], .agg #[.int .i64 10, .int .i64 7, .slice none 0 0, .slice (some ⟨g, 0, none⟩) 1 1]] w' fun e w'' => e = .returned (.bool true) ∧ Below w'.heap.size w' w'') := fun w' g h ht => by
    have := SameType_any w' 3 3 _ _ (Tt.ex 1 2) (Tt.ex 7 2) (TA.out.below (belo4 h)) ht (by rw [Tt.ex_cnt]; decide)
    rw [Tt.ex_same] at this
    exact this
  have q2 : Hid (∀ w' g, (w'.cell? ⟨gA, 0, none⟩ = some (.int .i64 10) ∧ w'.cell? ⟨gA, 1, none⟩ = some (.int .i64 1) ∧ w'.cell? ⟨gA, 2, none⟩ = some (.slice none 0 0) ∧ w'.cell? ⟨gA, 3, none⟩ = some (.slice (some ⟨g5, 0, none⟩) 1 1) ∧ Below W1.heap.size W1 w') → TAt w' Any 3 [.int .i64 10, .int .i64 7, .slice none 0 0, .slice (some ⟨g, 0, none⟩) 1 1] (Tt.ex 7 3) → Calls Tryz.prog 18 #[.agg #[.int .i64 10, .int .i64 1, .slice none 0 0, .slice (some ⟨g5, 0, none⟩) 1 1], .agg #[.int .i64 10, .int .i64 7, .slice none 0 0, .slice (some ⟨g, 0, none⟩) 1 1]] w' fun e w'' => e = .returned (.bool false) ∧ Below w'.heap.size w' w'') := fun w' g h ht => by
    have := SameType_any w' 3 3 _ _ (Tt.ex 1 2) (Tt.ex 7 3) (TA.out.below (belo4 h)) ht (by rw [Tt.ex_cnt]; decide)
    rw [Tt.ex_unlike] at this
    exact this
  have q3 : Hid (∀ w', (w'.cell? ⟨gA, 0, none⟩ = some (.int .i64 10) ∧ w'.cell? ⟨gA, 1, none⟩ = some (.int .i64 1) ∧ w'.cell? ⟨gA, 2, none⟩ = some (.slice none 0 0) ∧ w'.cell? ⟨gA, 3, none⟩ = some (.slice (some ⟨g5, 0, none⟩) 1 1) ∧ Below W1.heap.size W1 w') → Calls Tryz.prog 14 #[.agg #[.int .i64 10, .int .i64 1, .slice none 0 0, .slice (some ⟨g5, 0, none⟩) 1 1]] w' fun e w'' => e = .returned (.string ⟨#[97, 108, 108, 32, 116, 48, 46, 32, 116, 48, 32, 45, 62, 32, 35, 50]⟩) ∧ Below w'.heap.size w' w'') := fun w' h => by
    have := Text_any w' (HW.out.stays (bl_tr BW.out (belo4 h))) 3 _ (Tt.ex 1 2) (TA.out.below (belo4 h)) (by rw [Tt.ex_cnt]; decide) (by rw [Tt.ex_txt]; decide)
    rw [Tt.ex_txt] at this
    exact this
  have q4 : Hid (∀ w', (w'.cell? ⟨gA, 0, none⟩ = some (.int .i64 10) ∧ w'.cell? ⟨gA, 1, none⟩ = some (.int .i64 1) ∧ w'.cell? ⟨gA, 2, none⟩ = some (.slice none 0 0) ∧ w'.cell? ⟨gA, 3, none⟩ = some (.slice (some ⟨g5, 0, none⟩) 1 1) ∧ Below W1.heap.size W1 w') → Calls Tryz.prog 21 #[.agg #[.int .i64 10, .int .i64 1, .slice none 0 0, .slice (some ⟨g5, 0, none⟩) 1 1], .int .i64 2, .agg #[.int .i64 6, .int .i64 1, .slice none 0 0, .slice none 0 0]] w' fun e w'' => ∃ a1 c1 a2 c2 k', e = .returned (.agg #[.int .i64 10, .int .i64 0, .slice a1 0 c1, .slice a2 1 c2]) ∧ TAt w'' Any k' [.int .i64 10, .int .i64 0, .slice a1 0 c1, .slice a2 1 c2] (Tt.ex 0 1) ∧ Below w'.heap.size w' w'') := fun w' h => by
    refine (Put_any w' 3 1 _ _ (Tt.ex 1 2) (.mk 6 1 [] []) 2 ⟨by decide, by decide⟩ (TA.out.below (belo4 h)) (TAt.leaf _ _ 6 1 ⟨by decide, by decide⟩ ⟨by decide, by decide⟩) (by rw [Tt.ex_cnt]; decide) (by simp [Tt.cnt, Tt.cntL])).mono ?_
    rintro e w'' ⟨xs, k', l, rfl, h1, h2, h3⟩
    rw [Tt.ex_put l (h3 (by rw [Tt.ex_fv]; rfl)).2] at h1
    obtain ⟨a', c', a, c, rfl⟩ := h1.form
    exact ⟨_, _, _, _, k', rfl, h1, h2⟩
  have q5 : Hid (∀ w' a1 c1 a2 c2 k', (w'.cell? ⟨gA, 0, none⟩ = some (.int .i64 10) ∧ w'.cell? ⟨gA, 1, none⟩ = some (.int .i64 1) ∧ w'.cell? ⟨gA, 2, none⟩ = some (.slice none 0 0) ∧ w'.cell? ⟨gA, 3, none⟩ = some (.slice (some ⟨g5, 0, none⟩) 1 1) ∧ Below W1.heap.size W1 w') → TAt w' Any k' [.int .i64 10, .int .i64 0, .slice a1 0 c1, .slice a2 1 c2] (Tt.ex 0 1) → Calls Tryz.prog 14 #[.agg #[.int .i64 10, .int .i64 0, .slice a1 0 c1, .slice a2 1 c2]] w' fun e w'' => e = .returned (.string ⟨#[97, 108, 108, 32, 116, 48, 46, 32, 116, 48, 32, 45, 62, 32, 35, 49]⟩) ∧ Below w'.heap.size w' w'') := fun w' a1 c1 a2 c2 k' h ht => by
    have := Text_any w' (HW.out.stays (bl_tr BW.out (belo4 h))) k' _ (Tt.ex 0 1) ht (by rw [Tt.ex_cnt]; decide) (by rw [Tt.ex_txt2]; decide)
    rw [Tt.ex_txt2] at this
    exact this
  have q6 : Hid (∀ w', (w'.cell? ⟨gA, 0, none⟩ = some (.int .i64 10) ∧ w'.cell? ⟨gA, 1, none⟩ = some (.int .i64 1) ∧ w'.cell? ⟨gA, 2, none⟩ = some (.slice none 0 0) ∧ w'.cell? ⟨gA, 3, none⟩ = some (.slice (some ⟨g5, 0, none⟩) 1 1) ∧ Below W1.heap.size W1 w') → Calls Tryz.prog 7 #[.agg #[.int .i64 10, .int .i64 1, .slice none 0 0, .slice (some ⟨g5, 0, none⟩) 1 1]] w' fun e w'' => e = .returned (.int .i64 0) ∧ Below w'.heap.size w' w'') := fun w' h => by
    have := RightType_any w' 3 _ (Tt.ex 1 2) (TA.out.below (belo4 h))
    rw [Tt.ex_right] at this
    exact this
  have q7 : Hid (∀ w', (w'.cell? ⟨gA, 0, none⟩ = some (.int .i64 10) ∧ w'.cell? ⟨gA, 1, none⟩ = some (.int .i64 1) ∧ w'.cell? ⟨gA, 2, none⟩ = some (.slice none 0 0) ∧ w'.cell? ⟨gA, 3, none⟩ = some (.slice (some ⟨g5, 0, none⟩) 1 1) ∧ Below W1.heap.size W1 w') → Calls Tryz.prog 10 #[.agg #[.int .i64 10, .int .i64 1, .slice none 0 0, .slice (some ⟨g5, 0, none⟩) 1 1]] w' fun e w'' => (∃ a c, e = .returned (.slice a 1 c)) ∧ Below w'.heap.size w' w'') := fun w' h => by
    refine (FreeTypes_any w' 3 _ (Tt.ex 1 2) (TA.out.below (belo4 h)) (by rw [Tt.ex_cnt]; decide)).mono ?_
    rintro e w'' ⟨v, l, rfl, h1, h2, h3⟩
    have hl := Tt.ex_free h2
    refine ⟨?_, h3⟩
    rcases h1 with ⟨b, o, c, rfl, -⟩ | ⟨rfl, -⟩
    · rw [hl]; exact ⟨_, _, rfl⟩
    · cases hl
  clear XA T4 TA B4
  have n1 := True.intro
  go_region_held (fun w' => w'.cell? ⟨gA, 0, none⟩ = some (.int .i64 10) ∧ w'.cell? ⟨gA, 1, none⟩ = some (.int .i64 1) ∧ w'.cell? ⟨gA, 2, none⟩ = some (.slice none 0 0) ∧ w'.cell? ⟨gA, 3, none⟩ = some (.slice (some ⟨g5, 0, none⟩) 1 1) ∧ Below W1.heap.size W1 w') (first | exact hs0.out | exact keep4 (by assumption) (by assumption)) (first
    | (go_at_call 37; refine (v_any _ _).mono ?_; rintro e wa ⟨rfl, ba⟩)
    | (go_at_call 36; have := n1; refine (fn_any _ 7 2).mono ?_; rintro e wb ⟨gB, rfl, tB, bb⟩; have TB := hid (tB ⟨by decide, by decide⟩ ⟨by decide, by decide⟩); clear tB)
    | (go_at_call 35; have := n1; refine (all_any _ 7 gB 2 _ TB.out).mono ?_; rintro e wc ⟨gC, rfl, tC, bc⟩; have TC : Hid (TAt wc Any 3 [.int .i64 10, .int .i64 7, .slice none 0 0, .slice (some ⟨gC, 0, none⟩) 1 1] (Tt.ex 7 2)) := hid (tC ⟨by decide, by decide⟩); clear tC TB)
    | (go_at_call 18; have := n1; refine (q1.out _ _ (by assumption) TC.out).mono ?_; rintro e wd ⟨rfl, bd⟩; clear TC q1 n1)
    | (go_at_call 36; refine (fn_any _ 7 3).mono ?_; rintro e we ⟨gD, rfl, tD, be⟩; have TD := hid (tD ⟨by decide, by decide⟩ ⟨by decide, by decide⟩); clear tD)
    | (go_at_call 35; refine (all_any _ 7 gD 2 _ TD.out).mono ?_; rintro e wf ⟨gE, rfl, tE, bf⟩; have TE : Hid (TAt wf Any 3 [.int .i64 10, .int .i64 7, .slice none 0 0, .slice (some ⟨gE, 0, none⟩) 1 1] (Tt.ex 7 3)) := hid (tE ⟨by decide, by decide⟩); clear tE TD)
    | (go_at_call 18; refine (q2.out _ _ (by assumption) TE.out).mono ?_; rintro e wg ⟨rfl, bg⟩; clear TE q2)
    | (go_at_call 14; refine (q3.out _ (by assumption)).mono ?_; rintro e wh ⟨rfl, bh⟩; clear q3)
    | (go_at_call 21; refine (q4.out _ (by assumption)).mono ?_; rintro e wi ⟨aP, cP, aQ, cQ, kP, rfl, tP, bi⟩; have TP := hid tP; clear tP q4)
    | (go_at_call 14; refine (q5.out _ _ _ _ _ _ (by assumption) TP.out).mono ?_; rintro e wj ⟨rfl, bj⟩; clear q5)
    | (go_at_call 7; refine (q6.out _ (by assumption)).mono ?_; rintro e wk ⟨rfl, bk⟩)
    | (go_at_call 10; refine (q7.out _ (by assumption)).mono ?_; rintro e wl ⟨⟨aF, cF, rfl⟩, bl⟩))
  all_goals go_wp2
  all_goals go_ret
  all_goals exact ⟨rfl, bl_tr BW.out (belo4 (by assumption))⟩
end Go.Proofs.YtfeppchgmobfpaaGreatDoor
