/- What Same and its kin come to, one sort a theorem. -/
import Derived.Test.YtgiegjghldhppabGreatNdS
namespace Go.Proofs.YtgiegjghldhppabGreat
open Go.RowKit
set_option linter.unusedVariables false

set_option maxHeartbeats 4000000 in
set_option maxRecDepth 100000 in
theorem same5 (n : Nat) (q3 : SameLOf 13 (.func (.func 14) #[] #[]) n 3) (q5 : SameLOf 43 (.func (.func 44) #[] #[]) n 5) (q6 : SameLOf 45 (.func (.func 46) #[] #[]) n 6) : SameOf 44 (n + 1) 5 := by
  intro w va vb A B hA hB
  obtain ⟨i0a, p1a, x1a, v0a, l0a, v1a, l1a, v2a, l2a, rfl, rfl, -, ⟨tx1a, -, ln1a⟩, k0a, k1a, k2a⟩ := At.mod hA
  obtain ⟨i0b, p1b, x1b, v0b, l0b, v1b, l1b, v2b, l2b, rfl, rfl, -, ⟨tx1b, -, ln1b⟩, k0b, k1b, k2b⟩ := At.mod hB
  clear hA hB
  have HE : Hid (Nd.eq (.mk [.int i0a, .strs x1a] [l0a, l1a, l2a]) (.mk [.int i0b, .strs x1b] [l0b, l1b, l2b]) = (decide (i0a = i0b) && (decide (x1a = x1b) && (Nd.eqL l0a l0b && (Nd.eqL l1a l1b && Nd.eqL l2a l2b))))) := by
    show _ = _
    rw [Bool.eq_iff_iff]
    simp only [Nd.eq_true, Nd.eqL_true, Bool.and_eq_true, decide_eq_true_eq, Nd.mk.injEq, List.cons.injEq, Sc.int.injEq, Sc.strs.injEq, and_true]
    constructor
    · intro h; simp only [h, and_self]
    · intro h; simp only [h, and_self]
  have hF0 := Fr.start w [.int .i64 i0a, p1a, v0a, v1a, v2a] [.int .i64 i0b, p1b, v0b, v1b, v2b] 74
  by_cases h0 : i0a = i0b
  · rw [decide_eq_true h0, Bool.true_and] at HE
    have g0 : (i0a == i0b) = true := by rw [h0]; exact beq_self_eq_true _
    clear h0
    have r1 : ∀ w', Strs w' p1a x1a → Strs w' p1b x1b → _ := fun w' h1 h2 => eqStrs_b p1a p1b x1a x1b w' h1 h2 ln1a ln1b
    cases h1 : decide (x1a = x1b) with
    | true =>
      rw [h1, Bool.true_and] at HE
      simp only [h1] at r1
      clear h1
      have r2 : ∀ w', AtL w' Any n 3 v0a l0a → AtL w' Any n 3 v0b l0b → _ := fun w' h1 h2 => q3 w' v0a v0b l0a l0b h1 h2
      cases h2 : Nd.eqL l0a l0b with
      | true =>
        rw [h2, Bool.true_and] at HE
        simp only [h2] at r2
        clear h2
        have r3 : ∀ w', AtL w' Any n 5 v1a l1a → AtL w' Any n 5 v1b l1b → _ := fun w' h1 h2 => q5 w' v1a v1b l1a l1b h1 h2
        cases h3 : Nd.eqL l1a l1b with
        | true =>
          rw [h3, Bool.true_and] at HE
          simp only [h3] at r3
          clear h3
          have r4 : ∀ w', AtL w' Any n 6 v2a l2a → AtL w' Any n 6 v2b l2b → _ := fun w' h1 h2 => q6 w' v2a v2b l2a l2b h1 h2
          have H : Hid (Nd.eq (.mk [.int i0a, .strs x1a] [l0a, l1a, l2a]) (.mk [.int i0b, .strs x1b] [l0b, l1b, l2b]) = Nd.eqL l2a l2b) := HE
          clear HE
          go_enter Tryz.func44, Tryz.ntmps44
          go_wp2_with (first | (go_at_call 45; refine (r4 _ (hF3.atl k2a) (hF3.atl k2b)).mono ?_; rintro e w4 ⟨rfl, hb4⟩; have hF4 := hF3.step hb4; clear hb4) | (go_at_call 43; refine (r3 _ (hF2.atl k1a) (hF2.atl k1b)).mono ?_; rintro e w3 ⟨rfl, hb3⟩; have hF3 := hF2.step hb3; have ca42 := hF3.a 4 _ rfl; have cb42 := hF3.b 4 _ rfl; clear hb3) | (go_at_call 13; refine (r2 _ (hF1.atl k0a) (hF1.atl k0b)).mono ?_; rintro e w2 ⟨rfl, hb2⟩; have hF2 := hF1.step hb2; have ca31 := hF2.a 3 _ rfl; have cb31 := hF2.b 3 _ rfl; have ca41 := hF2.a 4 _ rfl; have cb41 := hF2.b 4 _ rfl; clear hb2) | (go_at_call 36; refine (r1 _ (hF0.tx tx1a) (hF0.tx tx1b)).mono ?_; rintro e w1 ⟨rfl, hb1⟩; have hF1 := hF0.step hb1; have ca20 := hF1.a 2 _ rfl; have cb20 := hF1.b 2 _ rfl; have ca30 := hF1.a 3 _ rfl; have cb30 := hF1.b 3 _ rfl; have ca40 := hF1.a 4 _ rfl; have cb40 := hF1.b 4 _ rfl; clear hb1))
          go_ret
          exact ⟨ret_bool (H.out.symm), hF4.bl⟩
        | false =>
          rw [h3, Bool.false_and] at HE
          simp only [h3] at r3
          clear h3
          go_enter Tryz.func44, Tryz.ntmps44
          go_wp2_with (first | (go_at_call 43; refine (r3 _ (hF2.atl k1a) (hF2.atl k1b)).mono ?_; rintro e w3 ⟨rfl, hb3⟩; have hF3 := hF2.step hb3; clear hb3) | (go_at_call 13; refine (r2 _ (hF1.atl k0a) (hF1.atl k0b)).mono ?_; rintro e w2 ⟨rfl, hb2⟩; have hF2 := hF1.step hb2; have ca31 := hF2.a 3 _ rfl; have cb31 := hF2.b 3 _ rfl; clear hb2) | (go_at_call 36; refine (r1 _ (hF0.tx tx1a) (hF0.tx tx1b)).mono ?_; rintro e w1 ⟨rfl, hb1⟩; have hF1 := hF0.step hb1; have ca20 := hF1.a 2 _ rfl; have cb20 := hF1.b 2 _ rfl; have ca30 := hF1.a 3 _ rfl; have cb30 := hF1.b 3 _ rfl; clear hb1))
          go_ret
          exact ⟨ret_bool (HE.out.symm), hF3.bl⟩
      | false =>
        rw [h2, Bool.false_and] at HE
        simp only [h2] at r2
        clear h2
        go_enter Tryz.func44, Tryz.ntmps44
        go_wp2_with (first | (go_at_call 13; refine (r2 _ (hF1.atl k0a) (hF1.atl k0b)).mono ?_; rintro e w2 ⟨rfl, hb2⟩; have hF2 := hF1.step hb2; clear hb2) | (go_at_call 36; refine (r1 _ (hF0.tx tx1a) (hF0.tx tx1b)).mono ?_; rintro e w1 ⟨rfl, hb1⟩; have hF1 := hF0.step hb1; have ca20 := hF1.a 2 _ rfl; have cb20 := hF1.b 2 _ rfl; clear hb1))
        go_ret
        exact ⟨ret_bool (HE.out.symm), hF2.bl⟩
    | false =>
      rw [h1, Bool.false_and] at HE
      simp only [h1] at r1
      clear h1
      go_enter Tryz.func44, Tryz.ntmps44
      go_wp2_with (first | (go_at_call 36; refine (r1 _ (hF0.tx tx1a) (hF0.tx tx1b)).mono ?_; rintro e w1 ⟨rfl, hb1⟩; have hF1 := hF0.step hb1; clear hb1))
      go_ret
      exact ⟨ret_bool (HE.out.symm), hF1.bl⟩
  · rw [decide_eq_false h0, Bool.false_and] at HE
    have g0 : (i0a == i0b) = false := by rw [beq_eq_false_iff_ne]; exact h0
    clear h0
    go_enter Tryz.func44, Tryz.ntmps44
    go_wp2
    go_ret
    exact ⟨ret_bool (HE.out.symm), hF0.bl⟩

set_option maxHeartbeats 4000000 in
set_option maxRecDepth 100000 in
theorem same6 (n : Nat) (q7 : SameLOf 73 (.func (.func 74) #[] #[]) n 7) (q6 : SameLOf 45 (.func (.func 46) #[] #[]) n 6) (q0 : SameLOf 37 (.func (.func 38) #[] #[]) n 0) : SameOf 46 (n + 1) 6 := by
  intro w va vb A B hA hB
  obtain ⟨i0a, p1a, x1a, v0a, l0a, v1a, l1a, v2a, l2a, rfl, rfl, -, ⟨tx1a, -, ln1a⟩, k0a, k1a, k2a⟩ := At.sig hA
  obtain ⟨i0b, p1b, x1b, v0b, l0b, v1b, l1b, v2b, l2b, rfl, rfl, -, ⟨tx1b, -, ln1b⟩, k0b, k1b, k2b⟩ := At.sig hB
  clear hA hB
  have HE : Hid (Nd.eq (.mk [.int i0a, .strs x1a] [l0a, l1a, l2a]) (.mk [.int i0b, .strs x1b] [l0b, l1b, l2b]) = (decide (i0a = i0b) && (decide (x1a = x1b) && (Nd.eqL l0a l0b && (Nd.eqL l1a l1b && Nd.eqL l2a l2b))))) := by
    show _ = _
    rw [Bool.eq_iff_iff]
    simp only [Nd.eq_true, Nd.eqL_true, Bool.and_eq_true, decide_eq_true_eq, Nd.mk.injEq, List.cons.injEq, Sc.int.injEq, Sc.strs.injEq, and_true]
    constructor
    · intro h; simp only [h, and_self]
    · intro h; simp only [h, and_self]
  have hF0 := Fr.start w [.int .i64 i0a, p1a, v0a, v1a, v2a] [.int .i64 i0b, p1b, v0b, v1b, v2b] 51
  by_cases h0 : i0a = i0b
  · rw [decide_eq_true h0, Bool.true_and] at HE
    have g0 : (i0a == i0b) = true := by rw [h0]; exact beq_self_eq_true _
    clear h0
    have r1 : ∀ w', Strs w' p1a x1a → Strs w' p1b x1b → _ := fun w' h1 h2 => eqStrs_b p1a p1b x1a x1b w' h1 h2 ln1a ln1b
    cases h1 : decide (x1a = x1b) with
    | true =>
      rw [h1, Bool.true_and] at HE
      simp only [h1] at r1
      clear h1
      have r2 : ∀ w', AtL w' Any n 7 v0a l0a → AtL w' Any n 7 v0b l0b → _ := fun w' h1 h2 => q7 w' v0a v0b l0a l0b h1 h2
      cases h2 : Nd.eqL l0a l0b with
      | true =>
        rw [h2, Bool.true_and] at HE
        simp only [h2] at r2
        clear h2
        have r3 : ∀ w', AtL w' Any n 6 v1a l1a → AtL w' Any n 6 v1b l1b → _ := fun w' h1 h2 => q6 w' v1a v1b l1a l1b h1 h2
        cases h3 : Nd.eqL l1a l1b with
        | true =>
          rw [h3, Bool.true_and] at HE
          simp only [h3] at r3
          clear h3
          have r4 : ∀ w', AtL w' Any n 0 v2a l2a → AtL w' Any n 0 v2b l2b → _ := fun w' h1 h2 => q0 w' v2a v2b l2a l2b h1 h2
          have H : Hid (Nd.eq (.mk [.int i0a, .strs x1a] [l0a, l1a, l2a]) (.mk [.int i0b, .strs x1b] [l0b, l1b, l2b]) = Nd.eqL l2a l2b) := HE
          clear HE
          go_enter Tryz.func46, Tryz.ntmps46
          go_wp2_with (first | (go_at_call 37; refine (r4 _ (hF3.atl k2a) (hF3.atl k2b)).mono ?_; rintro e w4 ⟨rfl, hb4⟩; have hF4 := hF3.step hb4; clear hb4) | (go_at_call 45; refine (r3 _ (hF2.atl k1a) (hF2.atl k1b)).mono ?_; rintro e w3 ⟨rfl, hb3⟩; have hF3 := hF2.step hb3; have ca42 := hF3.a 4 _ rfl; have cb42 := hF3.b 4 _ rfl; clear hb3) | (go_at_call 73; refine (r2 _ (hF1.atl k0a) (hF1.atl k0b)).mono ?_; rintro e w2 ⟨rfl, hb2⟩; have hF2 := hF1.step hb2; have ca31 := hF2.a 3 _ rfl; have cb31 := hF2.b 3 _ rfl; have ca41 := hF2.a 4 _ rfl; have cb41 := hF2.b 4 _ rfl; clear hb2) | (go_at_call 36; refine (r1 _ (hF0.tx tx1a) (hF0.tx tx1b)).mono ?_; rintro e w1 ⟨rfl, hb1⟩; have hF1 := hF0.step hb1; have ca20 := hF1.a 2 _ rfl; have cb20 := hF1.b 2 _ rfl; have ca30 := hF1.a 3 _ rfl; have cb30 := hF1.b 3 _ rfl; have ca40 := hF1.a 4 _ rfl; have cb40 := hF1.b 4 _ rfl; clear hb1))
          go_ret
          exact ⟨ret_bool (H.out.symm), hF4.bl⟩
        | false =>
          rw [h3, Bool.false_and] at HE
          simp only [h3] at r3
          clear h3
          go_enter Tryz.func46, Tryz.ntmps46
          go_wp2_with (first | (go_at_call 45; refine (r3 _ (hF2.atl k1a) (hF2.atl k1b)).mono ?_; rintro e w3 ⟨rfl, hb3⟩; have hF3 := hF2.step hb3; clear hb3) | (go_at_call 73; refine (r2 _ (hF1.atl k0a) (hF1.atl k0b)).mono ?_; rintro e w2 ⟨rfl, hb2⟩; have hF2 := hF1.step hb2; have ca31 := hF2.a 3 _ rfl; have cb31 := hF2.b 3 _ rfl; clear hb2) | (go_at_call 36; refine (r1 _ (hF0.tx tx1a) (hF0.tx tx1b)).mono ?_; rintro e w1 ⟨rfl, hb1⟩; have hF1 := hF0.step hb1; have ca20 := hF1.a 2 _ rfl; have cb20 := hF1.b 2 _ rfl; have ca30 := hF1.a 3 _ rfl; have cb30 := hF1.b 3 _ rfl; clear hb1))
          go_ret
          exact ⟨ret_bool (HE.out.symm), hF3.bl⟩
      | false =>
        rw [h2, Bool.false_and] at HE
        simp only [h2] at r2
        clear h2
        go_enter Tryz.func46, Tryz.ntmps46
        go_wp2_with (first | (go_at_call 73; refine (r2 _ (hF1.atl k0a) (hF1.atl k0b)).mono ?_; rintro e w2 ⟨rfl, hb2⟩; have hF2 := hF1.step hb2; clear hb2) | (go_at_call 36; refine (r1 _ (hF0.tx tx1a) (hF0.tx tx1b)).mono ?_; rintro e w1 ⟨rfl, hb1⟩; have hF1 := hF0.step hb1; have ca20 := hF1.a 2 _ rfl; have cb20 := hF1.b 2 _ rfl; clear hb1))
        go_ret
        exact ⟨ret_bool (HE.out.symm), hF2.bl⟩
    | false =>
      rw [h1, Bool.false_and] at HE
      simp only [h1] at r1
      clear h1
      go_enter Tryz.func46, Tryz.ntmps46
      go_wp2_with (first | (go_at_call 36; refine (r1 _ (hF0.tx tx1a) (hF0.tx tx1b)).mono ?_; rintro e w1 ⟨rfl, hb1⟩; have hF1 := hF0.step hb1; clear hb1))
      go_ret
      exact ⟨ret_bool (HE.out.symm), hF1.bl⟩
  · rw [decide_eq_false h0, Bool.false_and] at HE
    have g0 : (i0a == i0b) = false := by rw [beq_eq_false_iff_ne]; exact h0
    clear h0
    go_enter Tryz.func46, Tryz.ntmps46
    go_wp2
    go_ret
    exact ⟨ret_bool (HE.out.symm), hF0.bl⟩

set_option maxHeartbeats 4000000 in
set_option maxRecDepth 100000 in
theorem same7 (n : Nat) (q0 : SameLOf 37 (.func (.func 38) #[] #[]) n 0) (q4 : SameLOf 41 (.func (.func 42) #[] #[]) n 4) (q6 : SameLOf 45 (.func (.func 46) #[] #[]) n 6) : SameOf 74 (n + 1) 7 := by
  intro w va vb A B hA hB
  obtain ⟨i0a, i1a, s2a, v0a, l0a, v1a, l1a, v2a, l2a, rfl, rfl, -, -, -, k0a, k1a, k2a⟩ := At.spec hA
  obtain ⟨i0b, i1b, s2b, v0b, l0b, v1b, l1b, v2b, l2b, rfl, rfl, -, -, -, k0b, k1b, k2b⟩ := At.spec hB
  clear hA hB
  have HE : Hid (Nd.eq (.mk [.int i0a, .int 0, .str s2a] [l0a, l1a, l2a]) (.mk [.int i0b, .int 0, .str s2b] [l0b, l1b, l2b]) = (decide (i0a = i0b) && (decide (s2a = s2b) && (Nd.eqL l0a l0b && (Nd.eqL l1a l1b && Nd.eqL l2a l2b))))) := by
    show _ = _
    rw [Bool.eq_iff_iff]
    simp only [Nd.eq_true, Nd.eqL_true, Bool.and_eq_true, decide_eq_true_eq, Nd.mk.injEq, List.cons.injEq, Sc.int.injEq, Sc.str.injEq, and_true, true_and]
    constructor
    · intro h; simp only [h, and_self]
    · intro h; simp only [h, and_self]
  have hF0 := Fr.start w [.int .i64 i0a, .int .i64 i1a, .string s2a, v0a, v1a, v2a] [.int .i64 i0b, .int .i64 i1b, .string s2b, v0b, v1b, v2b] 114
  by_cases h0 : i0a = i0b
  · rw [decide_eq_true h0, Bool.true_and] at HE
    have g0 : (i0a == i0b) = true := by rw [h0]; exact beq_self_eq_true _
    clear h0
    by_cases h1 : s2a = s2b
    · rw [decide_eq_true h1, Bool.true_and] at HE
      have g1 : (s2a.toList == s2b.toList) = true := by rw [h1]; exact beq_self_eq_true _
      clear h1
      have r3 : ∀ w', AtL w' Any n 0 v0a l0a → AtL w' Any n 0 v0b l0b → _ := fun w' h1 h2 => q0 w' v0a v0b l0a l0b h1 h2
      cases h2 : Nd.eqL l0a l0b with
      | true =>
        rw [h2, Bool.true_and] at HE
        simp only [h2] at r3
        clear h2
        have r4 : ∀ w', AtL w' Any n 4 v1a l1a → AtL w' Any n 4 v1b l1b → _ := fun w' h1 h2 => q4 w' v1a v1b l1a l1b h1 h2
        cases h3 : Nd.eqL l1a l1b with
        | true =>
          rw [h3, Bool.true_and] at HE
          simp only [h3] at r4
          clear h3
          have r5 : ∀ w', AtL w' Any n 6 v2a l2a → AtL w' Any n 6 v2b l2b → _ := fun w' h1 h2 => q6 w' v2a v2b l2a l2b h1 h2
          have H : Hid (Nd.eq (.mk [.int i0a, .int 0, .str s2a] [l0a, l1a, l2a]) (.mk [.int i0b, .int 0, .str s2b] [l0b, l1b, l2b]) = Nd.eqL l2a l2b) := HE
          clear HE
          go_enter Tryz.func74, Tryz.ntmps74
          go_wp2_with (first | (go_at_call 45; refine (r5 _ (hF2.atl k2a) (hF2.atl k2b)).mono ?_; rintro e w3 ⟨rfl, hb3⟩; have hF3 := hF2.step hb3; clear hb3) | (go_at_call 41; refine (r4 _ (hF1.atl k1a) (hF1.atl k1b)).mono ?_; rintro e w2 ⟨rfl, hb2⟩; have hF2 := hF1.step hb2; have ca51 := hF2.a 5 _ rfl; have cb51 := hF2.b 5 _ rfl; clear hb2) | (go_at_call 37; refine (r3 _ (hF0.atl k0a) (hF0.atl k0b)).mono ?_; rintro e w1 ⟨rfl, hb1⟩; have hF1 := hF0.step hb1; have ca40 := hF1.a 4 _ rfl; have cb40 := hF1.b 4 _ rfl; have ca50 := hF1.a 5 _ rfl; have cb50 := hF1.b 5 _ rfl; clear hb1))
          go_ret
          exact ⟨ret_bool (H.out.symm), hF3.bl⟩
        | false =>
          rw [h3, Bool.false_and] at HE
          simp only [h3] at r4
          clear h3
          go_enter Tryz.func74, Tryz.ntmps74
          go_wp2_with (first | (go_at_call 41; refine (r4 _ (hF1.atl k1a) (hF1.atl k1b)).mono ?_; rintro e w2 ⟨rfl, hb2⟩; have hF2 := hF1.step hb2; clear hb2) | (go_at_call 37; refine (r3 _ (hF0.atl k0a) (hF0.atl k0b)).mono ?_; rintro e w1 ⟨rfl, hb1⟩; have hF1 := hF0.step hb1; have ca40 := hF1.a 4 _ rfl; have cb40 := hF1.b 4 _ rfl; clear hb1))
          go_ret
          exact ⟨ret_bool (HE.out.symm), hF2.bl⟩
      | false =>
        rw [h2, Bool.false_and] at HE
        simp only [h2] at r3
        clear h2
        go_enter Tryz.func74, Tryz.ntmps74
        go_wp2_with (first | (go_at_call 37; refine (r3 _ (hF0.atl k0a) (hF0.atl k0b)).mono ?_; rintro e w1 ⟨rfl, hb1⟩; have hF1 := hF0.step hb1; clear hb1))
        go_ret
        exact ⟨ret_bool (HE.out.symm), hF1.bl⟩
    · rw [decide_eq_false h1, Bool.false_and] at HE
      have g1 : (s2a.toList == s2b.toList) = false := by rw [Nm.str_eq, decide_eq_false h1]
      clear h1
      go_enter Tryz.func74, Tryz.ntmps74
      go_wp2
      go_ret
      exact ⟨ret_bool (HE.out.symm), hF0.bl⟩
  · rw [decide_eq_false h0, Bool.false_and] at HE
    have g0 : (i0a == i0b) = false := by rw [beq_eq_false_iff_ne]; exact h0
    clear h0
    go_enter Tryz.func74, Tryz.ntmps74
    go_wp2
    go_ret
    exact ⟨ret_bool (HE.out.symm), hF0.bl⟩

end Go.Proofs.YtgiegjghldhppabGreat
