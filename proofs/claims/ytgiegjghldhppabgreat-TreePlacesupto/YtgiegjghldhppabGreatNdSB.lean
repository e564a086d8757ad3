/- What Same and its kin come to, one sort a theorem. -/
import Derived.Test.YtgiegjghldhppabGreatNdS
namespace Go.Proofs.YtgiegjghldhppabGreat
open Go.RowKit
set_option linter.unusedVariables false

set_option maxHeartbeats 4000000 in
set_option maxRecDepth 100000 in
theorem same2 (n : Nat) (q1 : SameLOf 71 (.func (.func 72) #[] #[]) n 1) (q2 : SameLOf 39 (.func (.func 40) #[] #[]) n 2) (q3 : SameLOf 13 (.func (.func 14) #[] #[]) n 3) (q0 : SameLOf 37 (.func (.func 38) #[] #[]) n 0) : SameOf 40 (n + 1) 2 := by
  intro w va vb A B hA hB
  obtain ⟨i0a, i1a, i2a, p3a, x3a, v0a, l0a, v1a, l1a, v2a, l2a, v3a, l3a, rfl, rfl, -, -, -, ⟨tx3a, -, ln3a⟩, k0a, k1a, k2a, k3a⟩ := At.exp hA
  obtain ⟨i0b, i1b, i2b, p3b, x3b, v0b, l0b, v1b, l1b, v2b, l2b, v3b, l3b, rfl, rfl, -, -, -, ⟨tx3b, -, ln3b⟩, k0b, k1b, k2b, k3b⟩ := At.exp hB
  clear hA hB
  have HE : Hid (Nd.eq (.mk [.int i0a, .int i1a, .int i2a, .strs x3a] [l0a, l1a, l2a, l3a]) (.mk [.int i0b, .int i1b, .int i2b, .strs x3b] [l0b, l1b, l2b, l3b]) = (decide (i0a = i0b) && (decide (i1a = i1b) && (decide (i2a = i2b) && (decide (x3a = x3b) && (Nd.eqL l0a l0b && (Nd.eqL l1a l1b && (Nd.eqL l2a l2b && Nd.eqL l3a l3b)))))))) := by
    show _ = _
    rw [Bool.eq_iff_iff]
    simp only [Nd.eq_true, Nd.eqL_true, Bool.and_eq_true, decide_eq_true_eq, Nd.mk.injEq, List.cons.injEq, Sc.int.injEq, Sc.strs.injEq, and_true]
    constructor
    · intro h; simp only [h, and_self]
    · intro h; simp only [h, and_self]
  have hF0 := Fr.start w [.int .i64 i0a, .int .i64 i1a, .int .i64 i2a, p3a, v0a, v1a, v2a, v3a] [.int .i64 i0b, .int .i64 i1b, .int .i64 i2b, p3b, v0b, v1b, v2b, v3b] 54
  by_cases h0 : i0a = i0b
  · rw [decide_eq_true h0, Bool.true_and] at HE
    have g0 : (i0a == i0b) = true := by rw [h0]; exact beq_self_eq_true _
    clear h0
    by_cases h1 : i1a = i1b
    · rw [decide_eq_true h1, Bool.true_and] at HE
      have g1 : (i1a == i1b) = true := by rw [h1]; exact beq_self_eq_true _
      clear h1
      by_cases h2 : i2a = i2b
      · rw [decide_eq_true h2, Bool.true_and] at HE
        have g2 : (i2a == i2b) = true := by rw [h2]; exact beq_self_eq_true _
        clear h2
        have r3 : ∀ w', Strs w' p3a x3a → Strs w' p3b x3b → _ := fun w' h1 h2 => eqStrs_b p3a p3b x3a x3b w' h1 h2 ln3a ln3b
        cases h3 : decide (x3a = x3b) with
        | true =>
          rw [h3, Bool.true_and] at HE
          simp only [h3] at r3
          clear h3
          have r4 : ∀ w', AtL w' Any n 1 v0a l0a → AtL w' Any n 1 v0b l0b → _ := fun w' h1 h2 => q1 w' v0a v0b l0a l0b h1 h2
          cases h4 : Nd.eqL l0a l0b with
          | true =>
            rw [h4, Bool.true_and] at HE
            simp only [h4] at r4
            clear h4
            have r5 : ∀ w', AtL w' Any n 2 v1a l1a → AtL w' Any n 2 v1b l1b → _ := fun w' h1 h2 => q2 w' v1a v1b l1a l1b h1 h2
            cases h5 : Nd.eqL l1a l1b with
            | true =>
              rw [h5, Bool.true_and] at HE
              simp only [h5] at r5
              clear h5
              have r6 : ∀ w', AtL w' Any n 3 v2a l2a → AtL w' Any n 3 v2b l2b → _ := fun w' h1 h2 => q3 w' v2a v2b l2a l2b h1 h2
              cases h6 : Nd.eqL l2a l2b with
              | true =>
                rw [h6, Bool.true_and] at HE
                simp only [h6] at r6
                clear h6
                have r7 : ∀ w', AtL w' Any n 0 v3a l3a → AtL w' Any n 0 v3b l3b → _ := fun w' h1 h2 => q0 w' v3a v3b l3a l3b h1 h2
                have H : Hid (Nd.eq (.mk [.int i0a, .int i1a, .int i2a, .strs x3a] [l0a, l1a, l2a, l3a]) (.mk [.int i0b, .int i1b, .int i2b, .strs x3b] [l0b, l1b, l2b, l3b]) = Nd.eqL l3a l3b) := HE
                clear HE
                go_enter Tryz.func40, Tryz.ntmps40
                go_wp2_with (first | (go_at_call 37; refine (r7 _ (hF4.atl k3a) (hF4.atl k3b)).mono ?_; rintro e w5 ⟨rfl, hb5⟩; have hF5 := hF4.step hb5; clear hb5) | (go_at_call 13; refine (r6 _ (hF3.atl k2a) (hF3.atl k2b)).mono ?_; rintro e w4 ⟨rfl, hb4⟩; have hF4 := hF3.step hb4; have ca73 := hF4.a 7 _ rfl; have cb73 := hF4.b 7 _ rfl; clear hb4) | (go_at_call 39; refine (r5 _ (hF2.atl k1a) (hF2.atl k1b)).mono ?_; rintro e w3 ⟨rfl, hb3⟩; have hF3 := hF2.step hb3; have ca62 := hF3.a 6 _ rfl; have cb62 := hF3.b 6 _ rfl; have ca72 := hF3.a 7 _ rfl; have cb72 := hF3.b 7 _ rfl; clear hb3) | (go_at_call 71; refine (r4 _ (hF1.atl k0a) (hF1.atl k0b)).mono ?_; rintro e w2 ⟨rfl, hb2⟩; have hF2 := hF1.step hb2; have ca51 := hF2.a 5 _ rfl; have cb51 := hF2.b 5 _ rfl; have ca61 := hF2.a 6 _ rfl; have cb61 := hF2.b 6 _ rfl; have ca71 := hF2.a 7 _ rfl; have cb71 := hF2.b 7 _ rfl; clear hb2) | (go_at_call 36; refine (r3 _ (hF0.tx tx3a) (hF0.tx tx3b)).mono ?_; rintro e w1 ⟨rfl, hb1⟩; have hF1 := hF0.step hb1; have ca40 := hF1.a 4 _ rfl; have cb40 := hF1.b 4 _ rfl; have ca50 := hF1.a 5 _ rfl; have cb50 := hF1.b 5 _ rfl; have ca60 := hF1.a 6 _ rfl; have cb60 := hF1.b 6 _ rfl; have ca70 := hF1.a 7 _ rfl; have cb70 := hF1.b 7 _ rfl; clear hb1))
                go_ret
                exact ⟨ret_bool (H.out.symm), hF5.bl⟩
              | false =>
                rw [h6, Bool.false_and] at HE
                simp only [h6] at r6
                clear h6
                go_enter Tryz.func40, Tryz.ntmps40
                go_wp2_with (first | (go_at_call 13; refine (r6 _ (hF3.atl k2a) (hF3.atl k2b)).mono ?_; rintro e w4 ⟨rfl, hb4⟩; have hF4 := hF3.step hb4; clear hb4) | (go_at_call 39; refine (r5 _ (hF2.atl k1a) (hF2.atl k1b)).mono ?_; rintro e w3 ⟨rfl, hb3⟩; have hF3 := hF2.step hb3; have ca62 := hF3.a 6 _ rfl; have cb62 := hF3.b 6 _ rfl; clear hb3) | (go_at_call 71; refine (r4 _ (hF1.atl k0a) (hF1.atl k0b)).mono ?_; rintro e w2 ⟨rfl, hb2⟩; have hF2 := hF1.step hb2; have ca51 := hF2.a 5 _ rfl; have cb51 := hF2.b 5 _ rfl; have ca61 := hF2.a 6 _ rfl; have cb61 := hF2.b 6 _ rfl; clear hb2) | (go_at_call 36; refine (r3 _ (hF0.tx tx3a) (hF0.tx tx3b)).mono ?_; rintro e w1 ⟨rfl, hb1⟩; have hF1 := hF0.step hb1; have ca40 := hF1.a 4 _ rfl; have cb40 := hF1.b 4 _ rfl; have ca50 := hF1.a 5 _ rfl; have cb50 := hF1.b 5 _ rfl; have ca60 := hF1.a 6 _ rfl; have cb60 := hF1.b 6 _ rfl; clear hb1))
                go_ret
                exact ⟨ret_bool (HE.out.symm), hF4.bl⟩
            | false =>
              rw [h5, Bool.false_and] at HE
              simp only [h5] at r5
              clear h5
              go_enter Tryz.func40, Tryz.ntmps40
              go_wp2_with (first | (go_at_call 39; refine (r5 _ (hF2.atl k1a) (hF2.atl k1b)).mono ?_; rintro e w3 ⟨rfl, hb3⟩; have hF3 := hF2.step hb3; clear hb3) | (go_at_call 71; refine (r4 _ (hF1.atl k0a) (hF1.atl k0b)).mono ?_; rintro e w2 ⟨rfl, hb2⟩; have hF2 := hF1.step hb2; have ca51 := hF2.a 5 _ rfl; have cb51 := hF2.b 5 _ rfl; clear hb2) | (go_at_call 36; refine (r3 _ (hF0.tx tx3a) (hF0.tx tx3b)).mono ?_; rintro e w1 ⟨rfl, hb1⟩; have hF1 := hF0.step hb1; have ca40 := hF1.a 4 _ rfl; have cb40 := hF1.b 4 _ rfl; have ca50 := hF1.a 5 _ rfl; have cb50 := hF1.b 5 _ rfl; clear hb1))
              go_ret
              exact ⟨ret_bool (HE.out.symm), hF3.bl⟩
          | false =>
            rw [h4, Bool.false_and] at HE
            simp only [h4] at r4
            clear h4
            go_enter Tryz.func40, Tryz.ntmps40
            go_wp2_with (first | (go_at_call 71; refine (r4 _ (hF1.atl k0a) (hF1.atl k0b)).mono ?_; rintro e w2 ⟨rfl, hb2⟩; have hF2 := hF1.step hb2; clear hb2) | (go_at_call 36; refine (r3 _ (hF0.tx tx3a) (hF0.tx tx3b)).mono ?_; rintro e w1 ⟨rfl, hb1⟩; have hF1 := hF0.step hb1; have ca40 := hF1.a 4 _ rfl; have cb40 := hF1.b 4 _ rfl; clear hb1))
            go_ret
            exact ⟨ret_bool (HE.out.symm), hF2.bl⟩
        | false =>
          rw [h3, Bool.false_and] at HE
          simp only [h3] at r3
          clear h3
          go_enter Tryz.func40, Tryz.ntmps40
          go_wp2_with (first | (go_at_call 36; refine (r3 _ (hF0.tx tx3a) (hF0.tx tx3b)).mono ?_; rintro e w1 ⟨rfl, hb1⟩; have hF1 := hF0.step hb1; clear hb1))
          go_ret
          exact ⟨ret_bool (HE.out.symm), hF1.bl⟩
      · rw [decide_eq_false h2, Bool.false_and] at HE
        have g2 : (i2a == i2b) = false := by rw [beq_eq_false_iff_ne]; exact h2
        clear h2
        go_enter Tryz.func40, Tryz.ntmps40
        go_wp2
        go_ret
        exact ⟨ret_bool (HE.out.symm), hF0.bl⟩
    · rw [decide_eq_false h1, Bool.false_and] at HE
      have g1 : (i1a == i1b) = false := by rw [beq_eq_false_iff_ne]; exact h1
      clear h1
      go_enter Tryz.func40, Tryz.ntmps40
      go_wp2
      go_ret
      exact ⟨ret_bool (HE.out.symm), hF0.bl⟩
  · rw [decide_eq_false h0, Bool.false_and] at HE
    have g0 : (i0a == i0b) = false := by rw [beq_eq_false_iff_ne]; exact h0
    clear h0
    go_enter Tryz.func40, Tryz.ntmps40
    go_wp2
    go_ret
    exact ⟨ret_bool (HE.out.symm), hF0.bl⟩

end Go.Proofs.YtgiegjghldhppabGreat
