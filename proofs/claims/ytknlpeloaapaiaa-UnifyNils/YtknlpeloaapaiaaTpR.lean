/- right of one node; Right. -/
import Derived.BigQuiet
import Derived.Test.YtknlpeloaapaiaaTpW
namespace Go.Proofs.Ytknlpeloaapaiaa
open Go.RowKit
set_option linter.unusedVariables false
set_option linter.unusedSimpArgs false

set_option maxHeartbeats 2000000 in
set_option maxRecDepth 100000 in
theorem right_any (w : World) (k n : Int) (a : Option Addr) (l c : Nat) (hl : l ≤ maxLen) : Calls Try.prog 39 #[.agg #[.int .i64 k, .int .i64 n, .slice a l c]] w fun e w' => e = .returned (.tuple #[.bool (Tp.into k), .bool (Tp.own k n l)]) ∧ Below w.heap.size w w' := by
  unfold maxLen at hl
  by_cases h1 : k = 1
  · subst h1
    by_cases hn : n = 0
    · subst hn
      by_cases hz : l = 0
      · subst hz
        go_enter Try.func39, Try.ntmps39
        go_wp2
        go_quiet (fail)
        go_wp2
        go_ret2
        exact ⟨by simp [Tp.into, Tp.own] <;> omega, by first | exact bl_alloc (Below.refl _ _) _ | exact bl_tr (bl_alloc (Below.refl _ _) _) (bl_drewN _ _)⟩
      · have hz2 : ((l : Int) == 0) = false := by rw [beq_eq_false_iff_ne]; omega
        go_enter Try.func39, Try.ntmps39
        go_wp2
        go_quiet (fail)
        go_wp2
        go_ret2
        exact ⟨by simp [Tp.into, Tp.own, hz] <;> omega, by first | exact bl_alloc (Below.refl _ _) _ | exact bl_tr (bl_alloc (Below.refl _ _) _) (bl_drewN _ _)⟩
    · have hn2 : (n == 0) = false := by rw [beq_eq_false_iff_ne]; exact hn
      go_enter Try.func39, Try.ntmps39
      go_wp2
      go_quiet (fail)
      go_wp2
      go_ret2
      exact ⟨by simp [Tp.into, Tp.own, hn] <;> omega, by first | exact bl_alloc (Below.refl _ _) _ | exact bl_tr (bl_alloc (Below.refl _ _) _) (bl_drewN _ _)⟩
  by_cases h2 : k = 2
  · subst h2
    by_cases hn : n = 0
    · subst hn
      by_cases hz : l = 0
      · subst hz
        go_enter Try.func39, Try.ntmps39
        go_wp2
        go_quiet (fail)
        go_wp2
        go_ret2
        exact ⟨by simp [Tp.into, Tp.own] <;> omega, by first | exact bl_alloc (Below.refl _ _) _ | exact bl_tr (bl_alloc (Below.refl _ _) _) (bl_drewN _ _)⟩
      · have hz2 : ((l : Int) == 0) = false := by rw [beq_eq_false_iff_ne]; omega
        go_enter Try.func39, Try.ntmps39
        go_wp2
        go_quiet (fail)
        go_wp2
        go_ret2
        exact ⟨by simp [Tp.into, Tp.own, hz] <;> omega, by first | exact bl_alloc (Below.refl _ _) _ | exact bl_tr (bl_alloc (Below.refl _ _) _) (bl_drewN _ _)⟩
    · have hn2 : (n == 0) = false := by rw [beq_eq_false_iff_ne]; exact hn
      go_enter Try.func39, Try.ntmps39
      go_wp2
      go_quiet (fail)
      go_wp2
      go_ret2
      exact ⟨by simp [Tp.into, Tp.own, hn] <;> omega, by first | exact bl_alloc (Below.refl _ _) _ | exact bl_tr (bl_alloc (Below.refl _ _) _) (bl_drewN _ _)⟩
  by_cases h3 : k = 3
  · subst h3
    by_cases hn : n = 0
    · subst hn
      by_cases hz : l = 0
      · subst hz
        go_enter Try.func39, Try.ntmps39
        go_wp2
        go_quiet (fail)
        go_wp2
        go_ret2
        exact ⟨by simp [Tp.into, Tp.own] <;> omega, by first | exact bl_alloc (Below.refl _ _) _ | exact bl_tr (bl_alloc (Below.refl _ _) _) (bl_drewN _ _)⟩
      · have hz2 : ((l : Int) == 0) = false := by rw [beq_eq_false_iff_ne]; omega
        go_enter Try.func39, Try.ntmps39
        go_wp2
        go_quiet (fail)
        go_wp2
        go_ret2
        exact ⟨by simp [Tp.into, Tp.own, hz] <;> omega, by first | exact bl_alloc (Below.refl _ _) _ | exact bl_tr (bl_alloc (Below.refl _ _) _) (bl_drewN _ _)⟩
    · have hn2 : (n == 0) = false := by rw [beq_eq_false_iff_ne]; exact hn
      go_enter Try.func39, Try.ntmps39
      go_wp2
      go_quiet (fail)
      go_wp2
      go_ret2
      exact ⟨by simp [Tp.into, Tp.own, hn] <;> omega, by first | exact bl_alloc (Below.refl _ _) _ | exact bl_tr (bl_alloc (Below.refl _ _) _) (bl_drewN _ _)⟩
  by_cases h4 : k = 4
  · subst h4
    by_cases hn : n = 0
    · subst hn
      by_cases hz : l = 2
      · subst hz
        go_enter Try.func39, Try.ntmps39
        go_wp2
        go_quiet (fail)
        go_wp2
        go_ret2
        exact ⟨by simp [Tp.into, Tp.own] <;> omega, by first | exact bl_alloc (Below.refl _ _) _ | exact bl_tr (bl_alloc (Below.refl _ _) _) (bl_drewN _ _)⟩
      · have hz2 : ((l : Int) == 2) = false := by rw [beq_eq_false_iff_ne]; omega
        go_enter Try.func39, Try.ntmps39
        go_wp2
        go_quiet (fail)
        go_wp2
        go_ret2
        exact ⟨by simp [Tp.into, Tp.own, hz] <;> omega, by first | exact bl_alloc (Below.refl _ _) _ | exact bl_tr (bl_alloc (Below.refl _ _) _) (bl_drewN _ _)⟩
    · have hn2 : (n == 0) = false := by rw [beq_eq_false_iff_ne]; exact hn
      go_enter Try.func39, Try.ntmps39
      go_wp2
      go_quiet (fail)
      go_wp2
      go_ret2
      exact ⟨by simp [Tp.into, Tp.own, hn] <;> omega, by first | exact bl_alloc (Below.refl _ _) _ | exact bl_tr (bl_alloc (Below.refl _ _) _) (bl_drewN _ _)⟩
  by_cases h5 : k = 5
  · subst h5
    by_cases hn : n = 0
    · subst hn
      by_cases hz : l = 2
      · subst hz
        go_enter Try.func39, Try.ntmps39
        go_wp2
        go_quiet (fail)
        go_wp2
        go_ret2
        exact ⟨by simp [Tp.into, Tp.own] <;> omega, by first | exact bl_alloc (Below.refl _ _) _ | exact bl_tr (bl_alloc (Below.refl _ _) _) (bl_drewN _ _)⟩
      · have hz2 : ((l : Int) == 2) = false := by rw [beq_eq_false_iff_ne]; omega
        go_enter Try.func39, Try.ntmps39
        go_wp2
        go_quiet (fail)
        go_wp2
        go_ret2
        exact ⟨by simp [Tp.into, Tp.own, hz] <;> omega, by first | exact bl_alloc (Below.refl _ _) _ | exact bl_tr (bl_alloc (Below.refl _ _) _) (bl_drewN _ _)⟩
    · have hn2 : (n == 0) = false := by rw [beq_eq_false_iff_ne]; exact hn
      go_enter Try.func39, Try.ntmps39
      go_wp2
      go_quiet (fail)
      go_wp2
      go_ret2
      exact ⟨by simp [Tp.into, Tp.own, hn] <;> omega, by first | exact bl_alloc (Below.refl _ _) _ | exact bl_tr (bl_alloc (Below.refl _ _) _) (bl_drewN _ _)⟩
  by_cases h6 : k = 6
  · subst h6
    by_cases hn : 0 ≤ n
    · have hd : decide (0 ≤ n) = true := decide_eq_true hn
      by_cases hz : l = 0
      · subst hz
        go_enter Try.func39, Try.ntmps39
        go_wp2
        go_quiet (fail)
        go_wp2
        go_ret2
        exact ⟨by simp [Tp.into, Tp.own, hn] <;> omega, by first | exact bl_alloc (Below.refl _ _) _ | exact bl_tr (bl_alloc (Below.refl _ _) _) (bl_drewN _ _)⟩
      · have hz2 : ((l : Int) == 0) = false := by rw [beq_eq_false_iff_ne]; omega
        go_enter Try.func39, Try.ntmps39
        go_wp2
        go_quiet (fail)
        go_wp2
        go_ret2
        exact ⟨by simp [Tp.into, Tp.own, hz, hn] <;> omega, by first | exact bl_alloc (Below.refl _ _) _ | exact bl_tr (bl_alloc (Below.refl _ _) _) (bl_drewN _ _)⟩
    · have hd : decide (0 ≤ n) = false := decide_eq_false hn
      go_enter Try.func39, Try.ntmps39
      go_wp2
      go_quiet (fail)
      go_wp2
      go_ret2
      exact ⟨by simp [Tp.into, Tp.own, hn] <;> omega, by first | exact bl_alloc (Below.refl _ _) _ | exact bl_tr (bl_alloc (Below.refl _ _) _) (bl_drewN _ _)⟩
  by_cases h7 : k = 7
  · subst h7
    by_cases hn : 0 ≤ n
    · have hd : decide (0 ≤ n) = true := decide_eq_true hn
      by_cases hz : l = 0
      · subst hz
        go_enter Try.func39, Try.ntmps39
        go_wp2
        go_quiet (fail)
        go_wp2
        go_ret2
        exact ⟨by simp [Tp.into, Tp.own, hn] <;> omega, by first | exact bl_alloc (Below.refl _ _) _ | exact bl_tr (bl_alloc (Below.refl _ _) _) (bl_drewN _ _)⟩
      · have hz2 : ((l : Int) == 0) = false := by rw [beq_eq_false_iff_ne]; omega
        go_enter Try.func39, Try.ntmps39
        go_wp2
        go_quiet (fail)
        go_wp2
        go_ret2
        exact ⟨by simp [Tp.into, Tp.own, hz, hn] <;> omega, by first | exact bl_alloc (Below.refl _ _) _ | exact bl_tr (bl_alloc (Below.refl _ _) _) (bl_drewN _ _)⟩
    · have hd : decide (0 ≤ n) = false := decide_eq_false hn
      go_enter Try.func39, Try.ntmps39
      go_wp2
      go_quiet (fail)
      go_wp2
      go_ret2
      exact ⟨by simp [Tp.into, Tp.own, hn] <;> omega, by first | exact bl_alloc (Below.refl _ _) _ | exact bl_tr (bl_alloc (Below.refl _ _) _) (bl_drewN _ _)⟩
  by_cases h8 : k = 8
  · subst h8
    by_cases hn : 0 ≤ n
    · have hd : decide (0 ≤ n) = true := decide_eq_true hn
      by_cases hz : l = 0
      · subst hz
        go_enter Try.func39, Try.ntmps39
        go_wp2
        go_quiet (fail)
        go_wp2
        go_ret2
        exact ⟨by simp [Tp.into, Tp.own, hn] <;> omega, by first | exact bl_alloc (Below.refl _ _) _ | exact bl_tr (bl_alloc (Below.refl _ _) _) (bl_drewN _ _)⟩
      · have hz2 : ((l : Int) == 0) = false := by rw [beq_eq_false_iff_ne]; omega
        go_enter Try.func39, Try.ntmps39
        go_wp2
        go_quiet (fail)
        go_wp2
        go_ret2
        exact ⟨by simp [Tp.into, Tp.own, hz, hn] <;> omega, by first | exact bl_alloc (Below.refl _ _) _ | exact bl_tr (bl_alloc (Below.refl _ _) _) (bl_drewN _ _)⟩
    · have hd : decide (0 ≤ n) = false := decide_eq_false hn
      go_enter Try.func39, Try.ntmps39
      go_wp2
      go_quiet (fail)
      go_wp2
      go_ret2
      exact ⟨by simp [Tp.into, Tp.own, hn] <;> omega, by first | exact bl_alloc (Below.refl _ _) _ | exact bl_tr (bl_alloc (Below.refl _ _) _) (bl_drewN _ _)⟩
  have g1 : (k == 1) = false := by rw [beq_eq_false_iff_ne]; exact h1
  have g2 : (k == 2) = false := by rw [beq_eq_false_iff_ne]; exact h2
  have g3 : (k == 3) = false := by rw [beq_eq_false_iff_ne]; exact h3
  have g4 : (k == 4) = false := by rw [beq_eq_false_iff_ne]; exact h4
  have g5 : (k == 5) = false := by rw [beq_eq_false_iff_ne]; exact h5
  have g6 : (k == 6) = false := by rw [beq_eq_false_iff_ne]; exact h6
  have g7 : (k == 7) = false := by rw [beq_eq_false_iff_ne]; exact h7
  have g8 : (k == 8) = false := by rw [beq_eq_false_iff_ne]; exact h8
  have hi : Hid (Tp.into k = false) := by show _ = _; unfold Tp.into; simp; omega
  have ho : Hid (Tp.own k n l = false) := by show _ = _; unfold Tp.own; simp [h1, h2, h3, h4, h5, h6, h7, h8]
  clear h1 h2 h3 h4 h5 h6 h7 h8
  go_enter Try.func39, Try.ntmps39
  go_wp2
  go_ret2
  exact ⟨by rw [hi.out, ho.out]; rfl, bl_alloc (Below.refl _ _) _⟩

def IRight (W : World) (s : Unit) (own : Nat → Prop) (w : World) : Prop := (∀ b, ¬ own b) ∧ Below W.heap.size W w
theorem IRight.steady (W : World) : Steady (IRight W) := ⟨fun s own w w' h hb => ⟨h.1, bl_tr h.2 hb⟩, fun s own w b h ho => absurd ho (h.1 b)⟩
theorem right_see (W w0 : World) (o0 : Nat → Prop) (n : Nat) : SeeOf 39 #[] Tp.fRight (IRight W) o0 w0 n := by
  intro w own s vs t hI hE hT
  cases n with
  | zero => exact hT.elim
  | succ n =>
    obtain ⟨v, rfl, h2, h3, h4⟩ := hT.open_
    obtain ⟨a, c, rfl, hm⟩ := h4.form
    refine (right_any w t.k t.n a t.ks.length c hm).mono ?_
    rintro e w' ⟨rfl, hb⟩
    exact ⟨rfl, own, ⟨hI.1, bl_tr hI.2 hb⟩, Ev.of_below hb⟩
theorem enters_right : Enters 39 := enters_of Try.func39 (by kernel_rfl) rfl
set_option maxRecDepth 100000 in
theorem Right_any (w : World) (n : Nat) (vs : List Value) (t : Tp) (hT : TAt w Any n vs t) : Calls Try.prog 14 #[.agg vs.toArray] w fun e w' => e = .returned (.bool t.right) ∧ Below w.heap.size w w' := by
  have hq : Hid (∀ w1, Below w.heap.size w w1 → Calls Try.prog 38 #[.agg vs.toArray, .func (.func 39) #[] #[]] w1 fun e w' => e = .returned (.bool t.right) ∧ Below w.heap.size w w') := by
    intro w1 hb
    have hT1 : TAt w1 (Free (fun _ => False) w1) n vs t := (TAt.old (hT.below hb)).move (Keeps.refl _ _) fun b h => ⟨h, fun h => h⟩
    refine (walk_any _ _ _ (IRight w) (fun _ => False) w1 (IRight.steady w) enters_right (right_see w w1 _) n w1 (fun _ => False) () vs t ⟨fun _ h => h, hb⟩ (Ev.refl _ _) hT1).mono ?_
    rintro e w' ⟨rfl, own', hI, -⟩
    exact ⟨by rw [Tp.walk_right], hI.2⟩
  obtain ⟨a, c, rfl⟩ := hT.form
  clear hT
  go_enter Try.func14, Try.ntmps14
  go_wp2_with (go_at_call 38; refine (hq.out _ (bl_alloc (Below.refl _ _) _)).mono ?_; rintro e w2 ⟨rfl, hb2⟩)
  go_ret
  exact ⟨rfl, hb2⟩
end Go.Proofs.Ytknlpeloaapaiaa
