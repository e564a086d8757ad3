/- What Same and its kin come to, one sort a theorem. -/
import Derived.Test.YtgiegjghldhppabGreatNdS
namespace Go.Proofs.YtgiegjghldhppabGreat
open Go.RowKit
set_option linter.unusedVariables false

set_option maxHeartbeats 4000000 in
set_option maxRecDepth 100000 in
theorem same0 (n : Nat) (q0 : SameLOf 37 (.func (.func 38) #[] #[]) n 0) : SameOf 38 (n + 1) 0 := by
  intro w va vb A B hA hB
  obtain ⟨i0a, s1a, p2a, x2a, v0a, l0a, rfl, rfl, -, -, ⟨tx2a, -, ln2a⟩, k0a⟩ := At.ty hA
  obtain ⟨i0b, s1b, p2b, x2b, v0b, l0b, rfl, rfl, -, -, ⟨tx2b, -, ln2b⟩, k0b⟩ := At.ty hB
  clear hA hB
  have HE : Hid (Nd.eq (.mk [.int i0a, .str s1a, .strs x2a] [l0a]) (.mk [.int i0b, .str s1b, .strs x2b] [l0b]) = (decide (i0a = i0b) && (decide (s1a = s1b) && (decide (x2a = x2b) && Nd.eqL l0a l0b)))) := by
    show _ = _
    rw [Bool.eq_iff_iff]
    simp only [Nd.eq_true, Nd.eqL_true, Bool.and_eq_true, decide_eq_true_eq, Nd.mk.injEq, List.cons.injEq, Sc.int.injEq, Sc.str.injEq, Sc.strs.injEq, and_true]
    constructor
    · intro h; simp only [h, and_self]
    · intro h; simp only [h, and_self]
  have hF0 := Fr.start w [.int .i64 i0a, .string s1a, p2a, v0a] [.int .i64 i0b, .string s1b, p2b, v0b] 66
  by_cases h0 : i0a = i0b
  · rw [decide_eq_true h0, Bool.true_and] at HE
    have g0 : (i0a == i0b) = true := by rw [h0]; exact beq_self_eq_true _
    clear h0
    by_cases h1 : s1a = s1b
    · rw [decide_eq_true h1, Bool.true_and] at HE
      have g1 : (s1a.toList == s1b.toList) = true := by rw [h1]; exact beq_self_eq_true _
      clear h1
      have r2 : ∀ w', Strs w' p2a x2a → Strs w' p2b x2b → _ := fun w' h1 h2 => eqStrs_b p2a p2b x2a x2b w' h1 h2 ln2a ln2b
      cases h2 : decide (x2a = x2b) with
      | true =>
        rw [h2, Bool.true_and] at HE
        simp only [h2] at r2
        clear h2
        have r3 : ∀ w', AtL w' Any n 0 v0a l0a → AtL w' Any n 0 v0b l0b → _ := fun w' h1 h2 => q0 w' v0a v0b l0a l0b h1 h2
        have H : Hid (Nd.eq (.mk [.int i0a, .str s1a, .strs x2a] [l0a]) (.mk [.int i0b, .str s1b, .strs x2b] [l0b]) = Nd.eqL l0a l0b) := HE
        clear HE
        go_enter Tryz.func38, Tryz.ntmps38
        go_wp2_with (first | (go_at_call 37; refine (r3 _ (hF1.atl k0a) (hF1.atl k0b)).mono ?_; rintro e w2 ⟨rfl, hb2⟩; have hF2 := hF1.step hb2; clear hb2) | (go_at_call 36; refine (r2 _ (hF0.tx tx2a) (hF0.tx tx2b)).mono ?_; rintro e w1 ⟨rfl, hb1⟩; have hF1 := hF0.step hb1; have ca30 := hF1.a 3 _ rfl; have cb30 := hF1.b 3 _ rfl; clear hb1))
        go_ret
        exact ⟨ret_bool (H.out.symm), hF2.bl⟩
      | false =>
        rw [h2, Bool.false_and] at HE
        simp only [h2] at r2
        clear h2
        go_enter Tryz.func38, Tryz.ntmps38
        go_wp2_with (first | (go_at_call 36; refine (r2 _ (hF0.tx tx2a) (hF0.tx tx2b)).mono ?_; rintro e w1 ⟨rfl, hb1⟩; have hF1 := hF0.step hb1; clear hb1))
        go_ret
        exact ⟨ret_bool (HE.out.symm), hF1.bl⟩
    · rw [decide_eq_false h1, Bool.false_and] at HE
      have g1 : (s1a.toList == s1b.toList) = false := by rw [Nm.str_eq, decide_eq_false h1]
      clear h1
      go_enter Tryz.func38, Tryz.ntmps38
      go_wp2
      go_ret
      exact ⟨ret_bool (HE.out.symm), hF0.bl⟩
  · rw [decide_eq_false h0, Bool.false_and] at HE
    have g0 : (i0a == i0b) = false := by rw [beq_eq_false_iff_ne]; exact h0
    clear h0
    go_enter Tryz.func38, Tryz.ntmps38
    go_wp2
    go_ret
    exact ⟨ret_bool (HE.out.symm), hF0.bl⟩

set_option maxHeartbeats 4000000 in
set_option maxRecDepth 100000 in
theorem same1 (n : Nat) (q1 : SameLOf 71 (.func (.func 72) #[] #[]) n 1) : SameOf 72 (n + 1) 1 := by
  intro w va vb A B hA hB
  obtain ⟨i0a, s1a, p2a, x2a, i3a, v0a, l0a, rfl, rfl, -, -, ⟨tx2a, -, ln2a⟩, -, k0a⟩ := At.pat hA
  obtain ⟨i0b, s1b, p2b, x2b, i3b, v0b, l0b, rfl, rfl, -, -, ⟨tx2b, -, ln2b⟩, -, k0b⟩ := At.pat hB
  clear hA hB
  have HE : Hid (Nd.eq (.mk [.int i0a, .str s1a, .strs x2a, .int i3a] [l0a]) (.mk [.int i0b, .str s1b, .strs x2b, .int i3b] [l0b]) = (decide (i0a = i0b) && (decide (s1a = s1b) && (decide (i3a = i3b) && (decide (x2a = x2b) && Nd.eqL l0a l0b))))) := by
    show _ = _
    rw [Bool.eq_iff_iff]
    simp only [Nd.eq_true, Nd.eqL_true, Bool.and_eq_true, decide_eq_true_eq, Nd.mk.injEq, List.cons.injEq, Sc.int.injEq, Sc.str.injEq, Sc.strs.injEq, and_true]
    constructor
    · intro h; simp only [h, and_self]
    · intro h; simp only [h, and_self]
  have hF0 := Fr.start w [.int .i64 i0a, .string s1a, p2a, .int .i64 i3a, v0a] [.int .i64 i0b, .string s1b, p2b, .int .i64 i3b, v0b] 90
  by_cases h0 : i0a = i0b
  · rw [decide_eq_true h0, Bool.true_and] at HE
    have g0 : (i0a == i0b) = true := by rw [h0]; exact beq_self_eq_true _
    clear h0
    by_cases h1 : s1a = s1b
    · rw [decide_eq_true h1, Bool.true_and] at HE
      have g1 : (s1a.toList == s1b.toList) = true := by rw [h1]; exact beq_self_eq_true _
      clear h1
      by_cases h2 : i3a = i3b
      · rw [decide_eq_true h2, Bool.true_and] at HE
        have g2 : (i3a == i3b) = true := by rw [h2]; exact beq_self_eq_true _
        clear h2
        have r2 : ∀ w', Strs w' p2a x2a → Strs w' p2b x2b → _ := fun w' h1 h2 => eqStrs_b p2a p2b x2a x2b w' h1 h2 ln2a ln2b
        cases h3 : decide (x2a = x2b) with
        | true =>
          rw [h3, Bool.true_and] at HE
          simp only [h3] at r2
          clear h3
          have r4 : ∀ w', AtL w' Any n 1 v0a l0a → AtL w' Any n 1 v0b l0b → _ := fun w' h1 h2 => q1 w' v0a v0b l0a l0b h1 h2
          have H : Hid (Nd.eq (.mk [.int i0a, .str s1a, .strs x2a, .int i3a] [l0a]) (.mk [.int i0b, .str s1b, .strs x2b, .int i3b] [l0b]) = Nd.eqL l0a l0b) := HE
          clear HE
          go_enter Tryz.func72, Tryz.ntmps72
          go_wp2_with (first | (go_at_call 71; refine (r4 _ (hF1.atl k0a) (hF1.atl k0b)).mono ?_; rintro e w2 ⟨rfl, hb2⟩; have hF2 := hF1.step hb2; clear hb2) | (go_at_call 36; refine (r2 _ (hF0.tx tx2a) (hF0.tx tx2b)).mono ?_; rintro e w1 ⟨rfl, hb1⟩; have hF1 := hF0.step hb1; have ca40 := hF1.a 4 _ rfl; have cb40 := hF1.b 4 _ rfl; clear hb1))
          go_ret
          exact ⟨ret_bool (H.out.symm), hF2.bl⟩
        | false =>
          rw [h3, Bool.false_and] at HE
          simp only [h3] at r2
          clear h3
          go_enter Tryz.func72, Tryz.ntmps72
          go_wp2_with (first | (go_at_call 36; refine (r2 _ (hF0.tx tx2a) (hF0.tx tx2b)).mono ?_; rintro e w1 ⟨rfl, hb1⟩; have hF1 := hF0.step hb1; clear hb1))
          go_ret
          exact ⟨ret_bool (HE.out.symm), hF1.bl⟩
      · rw [decide_eq_false h2, Bool.false_and] at HE
        have g2 : (i3a == i3b) = false := by rw [beq_eq_false_iff_ne]; exact h2
        clear h2
        go_enter Tryz.func72, Tryz.ntmps72
        go_wp2
        go_ret
        exact ⟨ret_bool (HE.out.symm), hF0.bl⟩
    · rw [decide_eq_false h1, Bool.false_and] at HE
      have g1 : (s1a.toList == s1b.toList) = false := by rw [Nm.str_eq, decide_eq_false h1]
      clear h1
      go_enter Tryz.func72, Tryz.ntmps72
      go_wp2
      go_ret
      exact ⟨ret_bool (HE.out.symm), hF0.bl⟩
  · rw [decide_eq_false h0, Bool.false_and] at HE
    have g0 : (i0a == i0b) = false := by rw [beq_eq_false_iff_ne]; exact h0
    clear h0
    go_enter Tryz.func72, Tryz.ntmps72
    go_wp2
    go_ret
    exact ⟨ret_bool (HE.out.symm), hF0.bl⟩

set_option maxHeartbeats 4000000 in
set_option maxRecDepth 100000 in
theorem same4 (n : Nat) (q0 : SameLOf 37 (.func (.func 38) #[] #[]) n 0) : SameOf 42 (n + 1) 4 := by
  intro w va vb A B hA hB
  obtain ⟨s0a, v0a, l0a, rfl, rfl, -, k0a⟩ := At.con hA
  obtain ⟨s0b, v0b, l0b, rfl, rfl, -, k0b⟩ := At.con hB
  clear hA hB
  have HE : Hid (Nd.eq (.mk [.str s0a] [l0a]) (.mk [.str s0b] [l0b]) = (decide (s0a = s0b) && Nd.eqL l0a l0b)) := by
    show _ = _
    rw [Bool.eq_iff_iff]
    simp [Nd.eq_true, Nd.eqL_true]
  have hF0 := Fr.start w [.string s0a, v0a] [.string s0b, v0b] 46
  by_cases h0 : s0a = s0b
  · rw [decide_eq_true h0, Bool.true_and] at HE
    have g0 : (s0a.toList == s0b.toList) = true := by rw [h0]; exact beq_self_eq_true _
    clear h0
    have r1 : ∀ w', AtL w' Any n 0 v0a l0a → AtL w' Any n 0 v0b l0b → _ := fun w' h1 h2 => q0 w' v0a v0b l0a l0b h1 h2
    have H : Hid (Nd.eq (.mk [.str s0a] [l0a]) (.mk [.str s0b] [l0b]) = Nd.eqL l0a l0b) := HE
    clear HE
    go_enter Tryz.func42, Tryz.ntmps42
    go_wp2_with (first | (go_at_call 37; refine (r1 _ (hF0.atl k0a) (hF0.atl k0b)).mono ?_; rintro e w1 ⟨rfl, hb1⟩; have hF1 := hF0.step hb1; clear hb1))
    go_ret
    exact ⟨ret_bool (H.out.symm), hF1.bl⟩
  · rw [decide_eq_false h0, Bool.false_and] at HE
    have g0 : (s0a.toList == s0b.toList) = false := by rw [Nm.str_eq, decide_eq_false h0]
    clear h0
    go_enter Tryz.func42, Tryz.ntmps42
    go_wp2
    go_ret
    exact ⟨ret_bool (HE.out.symm), hF0.bl⟩

end Go.Proofs.YtgiegjghldhppabGreat
