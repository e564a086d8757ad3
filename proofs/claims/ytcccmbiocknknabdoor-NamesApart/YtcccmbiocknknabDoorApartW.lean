/- The walk of NamesApart: for any two texts it returns true, and nothing that lay has turned. -/
import Derived.Test.YtcccmbiocknknabDoorApartP
import Derived.Test.YtcccmbiocknknabDoorAlive
namespace Go.Proofs.YtcccmbiocknknabDoor
open Go.RowKit Go.Shelf
set_option linter.unusedVariables false

theorem label_is {s : ByteArray} {k : Int} {t : ByteArray} (h : Hid (Nm.label s = (k, t))) (hs : s.size ≤ maxLen) (w : World) : Calls Tryd.prog 5 #[.string s] w fun e w' => e = .returned (.tuple #[.int .i64 k, .string t]) ∧ w' = w := by
  refine (label_any s hs w).mono ?_
  rintro e w' ⟨rfl, rfl⟩
  exact ⟨by rw [h.out], rfl⟩

set_option maxRecDepth 100000 in
set_option maxHeartbeats 4000000 in
theorem apart_walk (a b : ByteArray) (ha : a.size ≤ 140737488351232) (hb : b.size ≤ 140737488351232) (w : World) : Calls Tryd.prog 3 #[.string a, .string b] w fun e w' => e = .returned (.bool true) ∧ Below w.heap.size w w' := by
  have ma : a.size ≤ maxLen := by unfold maxLen; omega
  have mc : (a ++ (⟨#[40, 41]⟩ : ByteArray)).size ≤ maxLen := by rw [ByteArray.size_append, show (⟨#[40, 41]⟩ : ByteArray).size = 2 from rfl]; unfold maxLen; omega
  have mo : ((⟨#[111, 117, 116, 32]⟩ : ByteArray) ++ a).size ≤ maxLen := by rw [ByteArray.size_append, show (⟨#[111, 117, 116, 32]⟩ : ByteArray).size = 4 from rfl]; unfold maxLen; omega
  have ha2 : a.size ≤ 9223372036854775800 := by omega
  have hb2 : b.size ≤ 9223372036854775800 := by omega
  have hc := Nm.con_eq a b
  have ho := Nm.out_eq a b
  have ea : (a.toList == a.toList) = true := beq_self_eq_true _
  have LC := Nm.label_con a
  have LO := Nm.label_out a
  cases h1 : Nm.lower a with
  | true =>
    have h2 : Nm.upper a = false := Nm.low_high h1
    rw [h2] at LC
    rw [h1] at LO
    have HC : Hid (Nm.label (a ++ (⟨#[40, 41]⟩ : ByteArray)) = (0, ⟨#[]⟩)) := LC
    have HO : Hid (Nm.label ((⟨#[111, 117, 116, 32]⟩ : ByteArray) ++ a) = (4, a)) := LO
    have H1 : Hid (Nm.label a = (1, a)) := Nm.label_low h1
    clear LC LO
    cases e1 : (a.toList == b.toList) with
    | true =>
      rw [e1] at hc ho
      go_enter Tryd.func3, Tryd.ntmps3
      go_wp2_with (first
        | (go_at_call 5; have _ := m2; refine (label_is HO mo _).mono ?_; rintro e w' ⟨rfl, rfl⟩)
        | (go_at_call 5; have _ := m1; refine (label_is HC mc _).mono ?_; rintro e w' ⟨rfl, rfl⟩; have m2 := True.intro)
        | (go_at_call 5; refine (label_is H1 ma _).mono ?_; rintro e w' ⟨rfl, rfl⟩; have m1 := True.intro)
        | (go_at_call 6; refine (lower_any _ ma _).mono ?_; rintro e w' ⟨rfl, rfl⟩)
        | (go_at_call 7; refine (upper_any _ ma _).mono ?_; rintro e w' ⟨rfl, rfl⟩)
        | (go_at_call 8; refine (con_any _ (by assumption) _).mono ?_; rintro e w' ⟨rfl, rfl⟩)
        | (go_at_call 9; refine (out_any _ (by assumption) _).mono ?_; rintro e w' ⟨rfl, rfl⟩)
        | (go_at_call 10; refine (alive_any _).mono ?_; rintro e w2 ⟨rfl, hbe⟩))
      go_ret
      exact ⟨rfl, hbe⟩
    | false =>
      rw [e1] at hc ho
      go_enter Tryd.func3, Tryd.ntmps3
      go_wp2_with (first
        | (go_at_call 5; have _ := m2; refine (label_is HO mo _).mono ?_; rintro e w' ⟨rfl, rfl⟩)
        | (go_at_call 5; have _ := m1; refine (label_is HC mc _).mono ?_; rintro e w' ⟨rfl, rfl⟩; have m2 := True.intro)
        | (go_at_call 5; refine (label_is H1 ma _).mono ?_; rintro e w' ⟨rfl, rfl⟩; have m1 := True.intro)
        | (go_at_call 6; refine (lower_any _ ma _).mono ?_; rintro e w' ⟨rfl, rfl⟩)
        | (go_at_call 7; refine (upper_any _ ma _).mono ?_; rintro e w' ⟨rfl, rfl⟩)
        | (go_at_call 8; refine (con_any _ (by assumption) _).mono ?_; rintro e w' ⟨rfl, rfl⟩)
        | (go_at_call 9; refine (out_any _ (by assumption) _).mono ?_; rintro e w' ⟨rfl, rfl⟩)
        | (go_at_call 10; refine (alive_any _).mono ?_; rintro e w2 ⟨rfl, hbe⟩))
      go_ret
      exact ⟨rfl, hbe⟩
  | false =>
    rw [h1] at LO
    have HO : Hid (Nm.label ((⟨#[111, 117, 116, 32]⟩ : ByteArray) ++ a) = (0, ⟨#[]⟩)) := LO
    cases h2 : Nm.upper a with
    | true =>
      rw [h2] at LC
      have HC : Hid (Nm.label (a ++ (⟨#[40, 41]⟩ : ByteArray)) = (3, a)) := LC
      have H1 : Hid (Nm.label a = (2, a)) := Nm.label_high h1 h2
      clear LC LO
      cases e1 : (a.toList == b.toList) with
      | true =>
        rw [e1] at hc ho
        go_enter Tryd.func3, Tryd.ntmps3
        go_wp2_with (first
          | (go_at_call 5; have _ := m2; refine (label_is HO mo _).mono ?_; rintro e w' ⟨rfl, rfl⟩)
          | (go_at_call 5; have _ := m1; refine (label_is HC mc _).mono ?_; rintro e w' ⟨rfl, rfl⟩; have m2 := True.intro)
          | (go_at_call 5; refine (label_is H1 ma _).mono ?_; rintro e w' ⟨rfl, rfl⟩; have m1 := True.intro)
          | (go_at_call 6; refine (lower_any _ ma _).mono ?_; rintro e w' ⟨rfl, rfl⟩)
          | (go_at_call 7; refine (upper_any _ ma _).mono ?_; rintro e w' ⟨rfl, rfl⟩)
          | (go_at_call 8; refine (con_any _ (by assumption) _).mono ?_; rintro e w' ⟨rfl, rfl⟩)
          | (go_at_call 9; refine (out_any _ (by assumption) _).mono ?_; rintro e w' ⟨rfl, rfl⟩)
          | (go_at_call 10; refine (alive_any _).mono ?_; rintro e w2 ⟨rfl, hbe⟩))
        go_ret
        exact ⟨rfl, hbe⟩
      | false =>
        rw [e1] at hc ho
        go_enter Tryd.func3, Tryd.ntmps3
        go_wp2_with (first
          | (go_at_call 5; have _ := m2; refine (label_is HO mo _).mono ?_; rintro e w' ⟨rfl, rfl⟩)
          | (go_at_call 5; have _ := m1; refine (label_is HC mc _).mono ?_; rintro e w' ⟨rfl, rfl⟩; have m2 := True.intro)
          | (go_at_call 5; refine (label_is H1 ma _).mono ?_; rintro e w' ⟨rfl, rfl⟩; have m1 := True.intro)
          | (go_at_call 6; refine (lower_any _ ma _).mono ?_; rintro e w' ⟨rfl, rfl⟩)
          | (go_at_call 7; refine (upper_any _ ma _).mono ?_; rintro e w' ⟨rfl, rfl⟩)
          | (go_at_call 8; refine (con_any _ (by assumption) _).mono ?_; rintro e w' ⟨rfl, rfl⟩)
          | (go_at_call 9; refine (out_any _ (by assumption) _).mono ?_; rintro e w' ⟨rfl, rfl⟩)
          | (go_at_call 10; refine (alive_any _).mono ?_; rintro e w2 ⟨rfl, hbe⟩))
        go_ret
        exact ⟨rfl, hbe⟩
    | false =>
      rw [h2] at LC
      have HC : Hid (Nm.label (a ++ (⟨#[40, 41]⟩ : ByteArray)) = (0, ⟨#[]⟩)) := LC
      clear LC LO
      cases e1 : (a.toList == b.toList) with
      | true =>
        rw [e1] at hc ho
        go_enter Tryd.func3, Tryd.ntmps3
        go_wp2_with (first
          | (go_at_call 5; have _ := m2; refine (label_is HO mo _).mono ?_; rintro e w' ⟨rfl, rfl⟩)
          | (go_at_call 5; have _ := m1; refine (label_is HC mc _).mono ?_; rintro e w' ⟨rfl, rfl⟩; have m2 := True.intro)
          | (go_at_call 5; refine (label_any _ ma _).mono ?_; rintro e w' ⟨rfl, rfl⟩; have m1 := True.intro)
          | (go_at_call 6; refine (lower_any _ ma _).mono ?_; rintro e w' ⟨rfl, rfl⟩)
          | (go_at_call 7; refine (upper_any _ ma _).mono ?_; rintro e w' ⟨rfl, rfl⟩)
          | (go_at_call 8; refine (con_any _ (by assumption) _).mono ?_; rintro e w' ⟨rfl, rfl⟩)
          | (go_at_call 9; refine (out_any _ (by assumption) _).mono ?_; rintro e w' ⟨rfl, rfl⟩)
          | (go_at_call 10; refine (alive_any _).mono ?_; rintro e w2 ⟨rfl, hbe⟩))
        go_ret
        exact ⟨rfl, hbe⟩
      | false =>
        rw [e1] at hc ho
        go_enter Tryd.func3, Tryd.ntmps3
        go_wp2_with (first
          | (go_at_call 5; have _ := m2; refine (label_is HO mo _).mono ?_; rintro e w' ⟨rfl, rfl⟩)
          | (go_at_call 5; have _ := m1; refine (label_is HC mc _).mono ?_; rintro e w' ⟨rfl, rfl⟩; have m2 := True.intro)
          | (go_at_call 5; refine (label_any _ ma _).mono ?_; rintro e w' ⟨rfl, rfl⟩; have m1 := True.intro)
          | (go_at_call 6; refine (lower_any _ ma _).mono ?_; rintro e w' ⟨rfl, rfl⟩)
          | (go_at_call 7; refine (upper_any _ ma _).mono ?_; rintro e w' ⟨rfl, rfl⟩)
          | (go_at_call 8; refine (con_any _ (by assumption) _).mono ?_; rintro e w' ⟨rfl, rfl⟩)
          | (go_at_call 9; refine (out_any _ (by assumption) _).mono ?_; rintro e w' ⟨rfl, rfl⟩)
          | (go_at_call 10; refine (alive_any _).mono ?_; rintro e w2 ⟨rfl, hbe⟩))
        go_ret
        exact ⟨rfl, hbe⟩
end Go.Proofs.YtcccmbiocknknabDoor
