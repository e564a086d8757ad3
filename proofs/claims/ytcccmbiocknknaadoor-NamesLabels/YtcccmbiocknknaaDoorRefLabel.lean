/- What the document's own Label, Con and Out come to. -/
import Derived.Test.YtcccmbiocknknaaDoorRefRight
namespace Go.Proofs.YtcccmbiocknknaaDoor
open Go.RowKit Go.Shelf
set_option linter.unusedVariables false

theorem Nm.upper_nil {s : ByteArray} (h : s.size = 0) : Nm.upper s = false := by
  obtain rfl := Nm.empty_of h
  decide
theorem Nm.lower_nil {s : ByteArray} (h : s.size = 0) : Nm.lower s = false := by
  obtain rfl := Nm.empty_of h
  decide
theorem Nm.sufd_test {s : ByteArray} (h : 2 ≤ s.size) : ((s.extract (s.size - 2) s.size).toList == [40, 41]) = Nm.sufd s := by
  have := Lib.hasSuffix_raw s ⟨#[40, 41]⟩
  have e : (decide ((⟨#[40, 41]⟩ : ByteArray).size ≤ s.size)) = true := decide_eq_true h
  rw [e, Bool.true_and] at this
  rw [Lib.toList_data (⟨#[40, 41]⟩ : ByteArray)] at this
  exact this
theorem Nm.pred_test {s : ByteArray} (h : 4 ≤ s.size) : ((s.extract 0 4).toList == [111, 117, 116, 32]) = Nm.pred s := by
  have := Lib.hasPrefix_raw s ⟨#[111, 117, 116, 32]⟩
  have e : (decide ((⟨#[111, 117, 116, 32]⟩ : ByteArray).size ≤ s.size)) = true := decide_eq_true h
  rw [e, Bool.true_and] at this
  rw [Lib.toList_data (⟨#[111, 117, 116, 32]⟩ : ByteArray)] at this
  exact this

theorem refCon_any (s : ByteArray) (hs : s.size ≤ 9223372036854775800) (w : World) : Calls Tryd.prog 36 #[.string s] w fun e w' => e = .returned (.string (s ++ ⟨#[40, 41]⟩)) ∧ w' = w := by
  have hb : ¬ ((s.size + 2 : Nat) : Int) > 9223372036854775807 := by omega
  go_enter Tryd.func36, Tryd.ntmps36
  go_wp2
  go_ret
  exact ⟨rfl, rfl⟩
theorem refOut_any (s : ByteArray) (hs : s.size ≤ 9223372036854775800) (w : World) : Calls Tryd.prog 38 #[.string s] w fun e w' => e = .returned (.string (⟨#[111, 117, 116, 32]⟩ ++ s)) ∧ w' = w := by
  have hb : ¬ ((4 + s.size : Nat) : Int) > 9223372036854775807 := by omega
  go_enter Tryd.func38, Tryd.ntmps38
  go_wp2
  go_ret
  exact ⟨rfl, rfl⟩

theorem bdr {B : Nat} {a w : World} (h : Below B a w) : Below B a w.drew := ⟨h.os, h.tape, h.output, h.size, h.block⟩

set_option maxHeartbeats 4000000 in
theorem refLabel_any (s : ByteArray) (hs : s.size ≤ maxLen) (w : World) : Calls Tryd.prog 34 #[.string s] w fun e w' => e = .returned (.tuple #[.int .i64 (Nm.label s).1, .string (Nm.label s).2]) ∧ Below w.heap.size w w' := by
  have hs' := hs
  unfold maxLen at hs'
  have hs3 : (s.extract 0 (s.size - 2)).size ≤ maxLen := Nat.le_trans (Nm.stem_size s) hs
  have hs4 : (s.extract 4 s.size).size ≤ maxLen := Nat.le_trans (Nm.rest_size s) hs
  cases h1 : Nm.lower s with
  | true =>
    have H : Hid (Nm.label s = (1, s)) := by show _ = _; unfold Nm.label; simp [h1]
    go_enter Tryd.func34, Tryd.ntmps34
    go_wp2_with (first | (go_at_call 15; have _ := hb2; refine (ref_lower_any _ (by assumption) _).mono ?_; rintro e w4 ⟨rfl, hb4⟩) | (go_at_call 17; have _ := hb2; refine (ref_upper_any _ (by assumption) _).mono ?_; rintro e w3 ⟨rfl, hb3⟩) | (go_at_call 15; refine (ref_lower_any _ (by assumption) _).mono ?_; rintro e w1 ⟨rfl, hb1⟩) | (go_at_call 17; refine (ref_upper_any _ (by assumption) _).mono ?_; rintro e w2 ⟨rfl, hb2⟩))
    go_ret2
    exact ⟨ret_two H.out.symm, hb1⟩
  | false =>
    cases h2 : Nm.upper s with
    | true =>
      have H : Hid (Nm.label s = (2, s)) := by show _ = _; unfold Nm.label; simp [h1, h2]
      go_enter Tryd.func34, Tryd.ntmps34
      go_wp2_with (first | (go_at_call 15; have _ := hb2; refine (ref_lower_any _ (by assumption) _).mono ?_; rintro e w4 ⟨rfl, hb4⟩) | (go_at_call 17; have _ := hb2; refine (ref_upper_any _ (by assumption) _).mono ?_; rintro e w3 ⟨rfl, hb3⟩) | (go_at_call 15; refine (ref_lower_any _ (by assumption) _).mono ?_; rintro e w1 ⟨rfl, hb1⟩) | (go_at_call 17; refine (ref_upper_any _ (by assumption) _).mono ?_; rintro e w2 ⟨rfl, hb2⟩))
      go_ret2
      exact ⟨ret_two H.out.symm, btr hb1 hb2⟩
    | false =>
      by_cases h3 : 2 < s.size
      · have t3 := Nm.sufd_test (s := s) (by omega)
        cases h4 : Nm.sufd s with
        | false =>
          rw [h4] at t3
          by_cases h6 : 4 < s.size
          · have t6 := Nm.pred_test (s := s) (by omega)
            cases h7 : Nm.pred s with
            | false =>
              rw [h7] at t6
              have H : Hid (Nm.label s = (0, ⟨#[]⟩)) := by show _ = _; unfold Nm.label; simp [h1, h2, h4, h7]
              go_enter Tryd.func34, Tryd.ntmps34
              go_wp2_with (first | (go_at_call 15; have _ := hb2; refine (ref_lower_any _ (by assumption) _).mono ?_; rintro e w4 ⟨rfl, hb4⟩) | (go_at_call 17; have _ := hb2; refine (ref_upper_any _ (by assumption) _).mono ?_; rintro e w3 ⟨rfl, hb3⟩) | (go_at_call 15; refine (ref_lower_any _ (by assumption) _).mono ?_; rintro e w1 ⟨rfl, hb1⟩) | (go_at_call 17; refine (ref_upper_any _ (by assumption) _).mono ?_; rintro e w2 ⟨rfl, hb2⟩))
              go_ret2
              exact ⟨ret_two H.out.symm, btr hb1 hb2⟩
            | true =>
              rw [h7] at t6
              cases h8 : Nm.lower (Nm.rest s) with
              | false =>
                have h8' : Nm.lower (s.extract 4 s.size) = false := h8
                have H : Hid (Nm.label s = (0, ⟨#[]⟩)) := by show _ = _; unfold Nm.label; simp [h1, h2, h4, h7, h8]
                go_enter Tryd.func34, Tryd.ntmps34
                go_wp2_with (first | (go_at_call 15; have _ := hb2; refine (ref_lower_any _ (by assumption) _).mono ?_; rintro e w4 ⟨rfl, hb4⟩) | (go_at_call 17; have _ := hb2; refine (ref_upper_any _ (by assumption) _).mono ?_; rintro e w3 ⟨rfl, hb3⟩) | (go_at_call 15; refine (ref_lower_any _ (by assumption) _).mono ?_; rintro e w1 ⟨rfl, hb1⟩) | (go_at_call 17; refine (ref_upper_any _ (by assumption) _).mono ?_; rintro e w2 ⟨rfl, hb2⟩))
                go_ret2
                exact ⟨ret_two H.out.symm, btr (btr hb1 hb2) hb4⟩
              | true =>
                have h8' : Nm.lower (s.extract 4 s.size) = true := h8
                have H : Hid (Nm.label s = (4, s.extract 4 s.size)) := by show Nm.label s = (4, Nm.rest s); unfold Nm.label; simp [h1, h2, h4, h7, h8]
                go_enter Tryd.func34, Tryd.ntmps34
                go_wp2_with (first | (go_at_call 15; have _ := hb2; refine (ref_lower_any _ (by assumption) _).mono ?_; rintro e w4 ⟨rfl, hb4⟩) | (go_at_call 17; have _ := hb2; refine (ref_upper_any _ (by assumption) _).mono ?_; rintro e w3 ⟨rfl, hb3⟩) | (go_at_call 15; refine (ref_lower_any _ (by assumption) _).mono ?_; rintro e w1 ⟨rfl, hb1⟩) | (go_at_call 17; refine (ref_upper_any _ (by assumption) _).mono ?_; rintro e w2 ⟨rfl, hb2⟩))
                go_quiet (fail)
                go_wp2
                go_ret2
                exact ⟨ret_two H.out.symm, bdN (btr (btr hb1 hb2) hb4) _⟩
          · have h7 : ¬ (Nm.pred s = true ∧ Nm.lower (Nm.rest s) = true) := fun ⟨a, b⟩ => by rw [Nm.lower_nil (by unfold Nm.rest; rw [ByteArray.size_extract]; omega)] at b; cases b
            have H : Hid (Nm.label s = (0, ⟨#[]⟩)) := by show _ = _; unfold Nm.label; simp [h1, h2, h4, h7]
            go_enter Tryd.func34, Tryd.ntmps34
            go_wp2_with (first | (go_at_call 15; have _ := hb2; refine (ref_lower_any _ (by assumption) _).mono ?_; rintro e w4 ⟨rfl, hb4⟩) | (go_at_call 17; have _ := hb2; refine (ref_upper_any _ (by assumption) _).mono ?_; rintro e w3 ⟨rfl, hb3⟩) | (go_at_call 15; refine (ref_lower_any _ (by assumption) _).mono ?_; rintro e w1 ⟨rfl, hb1⟩) | (go_at_call 17; refine (ref_upper_any _ (by assumption) _).mono ?_; rintro e w2 ⟨rfl, hb2⟩))
            go_ret2
            exact ⟨ret_two H.out.symm, btr hb1 hb2⟩
        | true =>
          rw [h4] at t3
          cases h5 : Nm.upper (Nm.stem s) with
          | true =>
            have h5' : Nm.upper (s.extract 0 (s.size - 2)) = true := h5
            have H : Hid (Nm.label s = (3, s.extract 0 (s.size - 2))) := by show Nm.label s = (3, Nm.stem s); unfold Nm.label; simp [h1, h2, h4, h5]
            go_enter Tryd.func34, Tryd.ntmps34
            go_wp2_with (first | (go_at_call 15; have _ := hb2; refine (ref_lower_any _ (by assumption) _).mono ?_; rintro e w4 ⟨rfl, hb4⟩) | (go_at_call 17; have _ := hb2; refine (ref_upper_any _ (by assumption) _).mono ?_; rintro e w3 ⟨rfl, hb3⟩) | (go_at_call 15; refine (ref_lower_any _ (by assumption) _).mono ?_; rintro e w1 ⟨rfl, hb1⟩) | (go_at_call 17; refine (ref_upper_any _ (by assumption) _).mono ?_; rintro e w2 ⟨rfl, hb2⟩))
            go_quiet (fail)
            go_wp2
            go_ret2
            exact ⟨ret_two H.out.symm, bdN (btr (btr hb1 hb2) hb3) _⟩
          | false =>
            have h5' : Nm.upper (s.extract 0 (s.size - 2)) = false := h5
            by_cases h6 : 4 < s.size
            · have t6 := Nm.pred_test (s := s) (by omega)
              cases h7 : Nm.pred s with
              | false =>
                rw [h7] at t6
                have H : Hid (Nm.label s = (0, ⟨#[]⟩)) := by show _ = _; unfold Nm.label; simp [h1, h2, h4, h5, h7]
                go_enter Tryd.func34, Tryd.ntmps34
                go_wp2_with (first | (go_at_call 15; have _ := hb2; refine (ref_lower_any _ (by assumption) _).mono ?_; rintro e w4 ⟨rfl, hb4⟩) | (go_at_call 17; have _ := hb2; refine (ref_upper_any _ (by assumption) _).mono ?_; rintro e w3 ⟨rfl, hb3⟩) | (go_at_call 15; refine (ref_lower_any _ (by assumption) _).mono ?_; rintro e w1 ⟨rfl, hb1⟩) | (go_at_call 17; refine (ref_upper_any _ (by assumption) _).mono ?_; rintro e w2 ⟨rfl, hb2⟩))
                go_ret2
                exact ⟨ret_two H.out.symm, btr (btr hb1 hb2) hb3⟩
              | true =>
                rw [h7] at t6
                cases h8 : Nm.lower (Nm.rest s) with
                | false =>
                  have h8' : Nm.lower (s.extract 4 s.size) = false := h8
                  have H : Hid (Nm.label s = (0, ⟨#[]⟩)) := by show _ = _; unfold Nm.label; simp [h1, h2, h4, h5, h7, h8]
                  go_enter Tryd.func34, Tryd.ntmps34
                  go_wp2_with (first | (go_at_call 15; have _ := hb2; refine (ref_lower_any _ (by assumption) _).mono ?_; rintro e w4 ⟨rfl, hb4⟩) | (go_at_call 17; have _ := hb2; refine (ref_upper_any _ (by assumption) _).mono ?_; rintro e w3 ⟨rfl, hb3⟩) | (go_at_call 15; refine (ref_lower_any _ (by assumption) _).mono ?_; rintro e w1 ⟨rfl, hb1⟩) | (go_at_call 17; refine (ref_upper_any _ (by assumption) _).mono ?_; rintro e w2 ⟨rfl, hb2⟩))
                  go_ret2
                  exact ⟨ret_two H.out.symm, btr (btr (btr hb1 hb2) hb3) hb4⟩
                | true =>
                  have h8' : Nm.lower (s.extract 4 s.size) = true := h8
                  have H : Hid (Nm.label s = (4, s.extract 4 s.size)) := by show Nm.label s = (4, Nm.rest s); unfold Nm.label; simp [h1, h2, h4, h5, h7, h8]
                  go_enter Tryd.func34, Tryd.ntmps34
                  go_wp2_with (first | (go_at_call 15; have _ := hb2; refine (ref_lower_any _ (by assumption) _).mono ?_; rintro e w4 ⟨rfl, hb4⟩) | (go_at_call 17; have _ := hb2; refine (ref_upper_any _ (by assumption) _).mono ?_; rintro e w3 ⟨rfl, hb3⟩) | (go_at_call 15; refine (ref_lower_any _ (by assumption) _).mono ?_; rintro e w1 ⟨rfl, hb1⟩) | (go_at_call 17; refine (ref_upper_any _ (by assumption) _).mono ?_; rintro e w2 ⟨rfl, hb2⟩))
                  go_quiet (fail)
                  go_wp2
                  go_ret2
                  exact ⟨ret_two H.out.symm, bdN (btr (btr (btr hb1 hb2) hb3) hb4) _⟩
            · have h7 : ¬ (Nm.pred s = true ∧ Nm.lower (Nm.rest s) = true) := fun ⟨a, b⟩ => by rw [Nm.lower_nil (by unfold Nm.rest; rw [ByteArray.size_extract]; omega)] at b; cases b
              have H : Hid (Nm.label s = (0, ⟨#[]⟩)) := by show _ = _; unfold Nm.label; simp [h1, h2, h4, h5, h7]
              go_enter Tryd.func34, Tryd.ntmps34
              go_wp2_with (first | (go_at_call 15; have _ := hb2; refine (ref_lower_any _ (by assumption) _).mono ?_; rintro e w4 ⟨rfl, hb4⟩) | (go_at_call 17; have _ := hb2; refine (ref_upper_any _ (by assumption) _).mono ?_; rintro e w3 ⟨rfl, hb3⟩) | (go_at_call 15; refine (ref_lower_any _ (by assumption) _).mono ?_; rintro e w1 ⟨rfl, hb1⟩) | (go_at_call 17; refine (ref_upper_any _ (by assumption) _).mono ?_; rintro e w2 ⟨rfl, hb2⟩))
              go_ret2
              exact ⟨ret_two H.out.symm, btr (btr hb1 hb2) hb3⟩
      · have h4 : ¬ (Nm.sufd s = true ∧ Nm.upper (Nm.stem s) = true) := fun ⟨a, b⟩ => by rw [Nm.upper_nil (by unfold Nm.stem; rw [ByteArray.size_extract]; omega)] at b; cases b
        have h7 : ¬ (Nm.pred s = true ∧ Nm.lower (Nm.rest s) = true) := fun ⟨a, b⟩ => by rw [Nm.lower_nil (by unfold Nm.rest; rw [ByteArray.size_extract]; omega)] at b; cases b
        have H : Hid (Nm.label s = (0, ⟨#[]⟩)) := by show _ = _; unfold Nm.label; simp [h1, h2, h4, h7]
        go_enter Tryd.func34, Tryd.ntmps34
        go_wp2_with (first | (go_at_call 15; have _ := hb2; refine (ref_lower_any _ (by assumption) _).mono ?_; rintro e w4 ⟨rfl, hb4⟩) | (go_at_call 17; have _ := hb2; refine (ref_upper_any _ (by assumption) _).mono ?_; rintro e w3 ⟨rfl, hb3⟩) | (go_at_call 15; refine (ref_lower_any _ (by assumption) _).mono ?_; rintro e w1 ⟨rfl, hb1⟩) | (go_at_call 17; refine (ref_upper_any _ (by assumption) _).mono ?_; rintro e w2 ⟨rfl, hb2⟩))
        go_ret2
        exact ⟨ret_two H.out.symm, btr hb1 hb2⟩
end Go.Proofs.YtcccmbiocknknaaDoor
