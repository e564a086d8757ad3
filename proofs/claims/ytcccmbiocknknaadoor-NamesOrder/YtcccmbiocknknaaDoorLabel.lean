/- What Label, Con and Out come to. -/
import Derived.Test.YtcccmbiocknknaaDoorRight
import Derived.Test.YtcccmbiocknknaaDoorShelfStr
namespace Go.Proofs.YtcccmbiocknknaaDoor
open Go.RowKit
set_option linter.unusedVariables false

def Nm.sufd (s : ByteArray) : Bool := Lib.hasSuffix s.data.toList [40, 41]
def Nm.stem (s : ByteArray) : ByteArray := s.extract 0 (s.size - 2)
def Nm.pred (s : ByteArray) : Bool := Lib.hasPrefix s.data.toList [111, 117, 116, 32]
def Nm.rest (s : ByteArray) : ByteArray := s.extract 4 s.size
def Nm.label (s : ByteArray) : Int × ByteArray :=
  if Nm.lower s = true then (1, s) else if Nm.upper s = true then (2, s)
  else if Nm.sufd s = true ∧ Nm.upper (Nm.stem s) = true then (3, Nm.stem s)
  else if Nm.pred s = true ∧ Nm.lower (Nm.rest s) = true then (4, Nm.rest s) else (0, ⟨#[]⟩)

theorem Nm.bytes_of {s : ByteArray} {l : List UInt8} (h : s.data.toList = l) : s = ⟨l.toArray⟩ := by
  subst h; rfl
theorem Nm.sufd_le {s : ByteArray} (h : Nm.sufd s = true) : 2 ≤ s.size := by
  have := (List.isSuffixOf_iff_suffix.1 h).length_le
  rw [Nm.len] at this; simpa using this
theorem Nm.pred_le {s : ByteArray} (h : Nm.pred s = true) : 4 ≤ s.size := by
  have := (List.isPrefixOf_iff_prefix.1 h).length_le
  rw [Nm.len] at this; simpa using this
theorem Nm.stem_eq {s : ByteArray} (h : Nm.sufd s = true) : (⟨(Lib.trimSuffix s.data.toList [40, 41]).toArray⟩ : ByteArray) = Nm.stem s := by
  symm; apply Nm.bytes_of
  unfold Nm.stem Lib.trimSuffix
  rw [show Lib.hasSuffix s.data.toList [40, 41] = true from h, if_pos rfl, Lib.extract_data, Nm.len]; rfl
theorem Nm.extract_end (s : ByteArray) (a : Nat) : (s.extract a s.size).data.toList = s.data.toList.drop a := by
  rw [Lib.extract_data, List.take_of_length_le (by rw [List.length_drop, Nm.len]; omega)]
theorem Nm.rest_eq {s : ByteArray} (h : Nm.pred s = true) : (⟨(Lib.trimPrefix s.data.toList [111, 117, 116, 32]).toArray⟩ : ByteArray) = Nm.rest s := by
  symm; apply Nm.bytes_of
  unfold Nm.rest Lib.trimPrefix
  rw [show Lib.hasPrefix s.data.toList [111, 117, 116, 32] = true from h, if_pos rfl, Nm.extract_end]; rfl
theorem Nm.stem_size (s : ByteArray) : (Nm.stem s).size ≤ s.size := by unfold Nm.stem; rw [ByteArray.size_extract]; omega
theorem Nm.rest_size (s : ByteArray) : (Nm.rest s).size ≤ s.size := by unfold Nm.rest; rw [ByteArray.size_extract]; omega

theorem cutSuffix_yes (s : ByteArray) (hs : s.size ≤ maxLen) (h : Nm.sufd s = true) (w : World) : Calls Tryd.prog 54 #[.string s, .string ⟨#[40, 41]⟩] w fun e w' => e = .returned (.tuple #[.string (Nm.stem s), .bool true]) ∧ w' = w := by
  refine (Tryd.strings_CutSuffix s ⟨#[40, 41]⟩ w (by unfold maxLen at hs; omega)).mono ?_
  rintro e w' ⟨rfl, rfl⟩
  refine ⟨?_, rfl⟩
  show Ending.returned (.tuple #[.string ⟨(Lib.trimSuffix s.data.toList [40, 41]).toArray⟩, .bool (Nm.sufd s)]) = _
  rw [Nm.stem_eq h, h]
theorem cutSuffix_no (s : ByteArray) (hs : s.size ≤ maxLen) (h : Nm.sufd s = false) (w : World) : Calls Tryd.prog 54 #[.string s, .string ⟨#[40, 41]⟩] w fun e w' => e = .returned (.tuple #[.string s, .bool false]) ∧ w' = w := by
  refine (Tryd.strings_CutSuffix s ⟨#[40, 41]⟩ w (by unfold maxLen at hs; omega)).mono ?_
  rintro e w' ⟨rfl, rfl⟩
  refine ⟨?_, rfl⟩
  show Ending.returned (.tuple #[.string ⟨(if Nm.sufd s = true then _ else s.data.toList).toArray⟩, .bool (Nm.sufd s)]) = _
  rw [h]; rfl
theorem cutPrefix_yes (s : ByteArray) (h : Nm.pred s = true) (w : World) : Calls Tryd.prog 55 #[.string s, .string ⟨#[111, 117, 116, 32]⟩] w fun e w' => e = .returned (.tuple #[.string (Nm.rest s), .bool true]) ∧ w' = w := by
  refine (Tryd.strings_CutPrefix s ⟨#[111, 117, 116, 32]⟩ w).mono ?_
  rintro e w' ⟨rfl, rfl⟩
  refine ⟨?_, rfl⟩
  show Ending.returned (.tuple #[.string ⟨(Lib.trimPrefix s.data.toList [111, 117, 116, 32]).toArray⟩, .bool (Nm.pred s)]) = _
  rw [Nm.rest_eq h, h]
theorem cutPrefix_no (s : ByteArray) (h : Nm.pred s = false) (w : World) : Calls Tryd.prog 55 #[.string s, .string ⟨#[111, 117, 116, 32]⟩] w fun e w' => e = .returned (.tuple #[.string s, .bool false]) ∧ w' = w := by
  refine (Tryd.strings_CutPrefix s ⟨#[111, 117, 116, 32]⟩ w).mono ?_
  rintro e w' ⟨rfl, rfl⟩
  refine ⟨?_, rfl⟩
  show Ending.returned (.tuple #[.string ⟨(if Nm.pred s = true then _ else s.data.toList).toArray⟩, .bool (Nm.pred s)]) = _
  rw [h]; rfl

theorem ret_two {a b : Int} {s t : ByteArray} (h : ((a, s) : Int × ByteArray) = (b, t)) : Ending.returned (.tuple #[.int .i64 a, .string s]) = .returned (.tuple #[.int .i64 b, .string t]) := by cases h; rfl

set_option maxHeartbeats 1000000 in
theorem label_any (s : ByteArray) (hs : s.size ≤ maxLen) (w : World) : Calls Tryd.prog 33 #[.string s] w fun e w' => e = .returned (.tuple #[.int .i64 (Nm.label s).1, .string (Nm.label s).2]) ∧ w' = w := by
  have hs3 : (Nm.stem s).size ≤ maxLen := Nat.le_trans (Nm.stem_size s) hs
  have hs4 : (Nm.rest s).size ≤ maxLen := Nat.le_trans (Nm.rest_size s) hs
  cases h1 : Nm.lower s with
  | true =>
    have H : Hid (Nm.label s = (1, s)) := by show _ = _; unfold Nm.label; simp [h1]
    go_enter Tryd.func33, Tryd.ntmps33
    go_wp2_with (first | (go_at_call 14; refine (lower_any _ (by assumption) _).mono ?_; rintro e w' ⟨rfl, rfl⟩))
    go_ret2
    exact ⟨ret_two H.out.symm, rfl⟩
  | false =>
    cases h2 : Nm.upper s with
    | true =>
      have H : Hid (Nm.label s = (2, s)) := by show _ = _; unfold Nm.label; simp [h1, h2]
      go_enter Tryd.func33, Tryd.ntmps33
      go_wp2_with (first | (go_at_call 14; refine (lower_any _ (by assumption) _).mono ?_; rintro e w' ⟨rfl, rfl⟩) | (go_at_call 16; refine (upper_any _ (by assumption) _).mono ?_; rintro e w' ⟨rfl, rfl⟩))
      go_ret2
      exact ⟨ret_two H.out.symm, rfl⟩
    | false =>
      cases h3 : Nm.sufd s with
      | false =>
        cases h5 : Nm.pred s with
        | false =>
          have H : Hid (Nm.label s = (0, ⟨#[]⟩)) := by show _ = _; unfold Nm.label; simp [h1, h2, h3, h5]
          go_enter Tryd.func33, Tryd.ntmps33
          go_wp2_with (first | (go_at_call 14; refine (lower_any _ (by assumption) _).mono ?_; rintro e w' ⟨rfl, rfl⟩) | (go_at_call 16; refine (upper_any _ (by assumption) _).mono ?_; rintro e w' ⟨rfl, rfl⟩) | (go_at_call 54; refine (cutSuffix_no _ hs h3 _).mono ?_; rintro e w' ⟨rfl, rfl⟩) | (go_at_call 55; refine (cutPrefix_no _ h5 _).mono ?_; rintro e w' ⟨rfl, rfl⟩))
          go_ret2
          exact ⟨ret_two H.out.symm, rfl⟩
        | true =>
          cases h6 : Nm.lower (Nm.rest s) with
          | false =>
            have H : Hid (Nm.label s = (0, ⟨#[]⟩)) := by show _ = _; unfold Nm.label; simp [h1, h2, h3, h5, h6]
            go_enter Tryd.func33, Tryd.ntmps33
            go_wp2_with (first | (go_at_call 14; refine (lower_any _ (by assumption) _).mono ?_; rintro e w' ⟨rfl, rfl⟩) | (go_at_call 16; refine (upper_any _ (by assumption) _).mono ?_; rintro e w' ⟨rfl, rfl⟩) | (go_at_call 54; refine (cutSuffix_no _ hs h3 _).mono ?_; rintro e w' ⟨rfl, rfl⟩) | (go_at_call 55; refine (cutPrefix_yes _ h5 _).mono ?_; rintro e w' ⟨rfl, rfl⟩))
            go_ret2
            exact ⟨ret_two H.out.symm, rfl⟩
          | true =>
            have H : Hid (Nm.label s = (4, Nm.rest s)) := by show _ = _; unfold Nm.label; simp [h1, h2, h3, h5, h6]
            go_enter Tryd.func33, Tryd.ntmps33
            go_wp2_with (first | (go_at_call 14; refine (lower_any _ (by assumption) _).mono ?_; rintro e w' ⟨rfl, rfl⟩) | (go_at_call 16; refine (upper_any _ (by assumption) _).mono ?_; rintro e w' ⟨rfl, rfl⟩) | (go_at_call 54; refine (cutSuffix_no _ hs h3 _).mono ?_; rintro e w' ⟨rfl, rfl⟩) | (go_at_call 55; refine (cutPrefix_yes _ h5 _).mono ?_; rintro e w' ⟨rfl, rfl⟩))
            go_ret2
            exact ⟨ret_two H.out.symm, rfl⟩
      | true =>
        cases h4 : Nm.upper (Nm.stem s) with
        | true =>
          have H : Hid (Nm.label s = (3, Nm.stem s)) := by show _ = _; unfold Nm.label; simp [h1, h2, h3, h4]
          go_enter Tryd.func33, Tryd.ntmps33
          go_wp2_with (first | (go_at_call 14; refine (lower_any _ (by assumption) _).mono ?_; rintro e w' ⟨rfl, rfl⟩) | (go_at_call 16; refine (upper_any _ (by assumption) _).mono ?_; rintro e w' ⟨rfl, rfl⟩) | (go_at_call 54; refine (cutSuffix_yes _ hs h3 _).mono ?_; rintro e w' ⟨rfl, rfl⟩))
          go_ret2
          exact ⟨ret_two H.out.symm, rfl⟩
        | false =>
          cases h5 : Nm.pred s with
          | false =>
            have H : Hid (Nm.label s = (0, ⟨#[]⟩)) := by show _ = _; unfold Nm.label; simp [h1, h2, h3, h4, h5]
            go_enter Tryd.func33, Tryd.ntmps33
            go_wp2_with (first | (go_at_call 14; refine (lower_any _ (by assumption) _).mono ?_; rintro e w' ⟨rfl, rfl⟩) | (go_at_call 16; refine (upper_any _ (by assumption) _).mono ?_; rintro e w' ⟨rfl, rfl⟩) | (go_at_call 54; refine (cutSuffix_yes _ hs h3 _).mono ?_; rintro e w' ⟨rfl, rfl⟩) | (go_at_call 55; refine (cutPrefix_no _ h5 _).mono ?_; rintro e w' ⟨rfl, rfl⟩))
            go_ret2
            exact ⟨ret_two H.out.symm, rfl⟩
          | true =>
            cases h6 : Nm.lower (Nm.rest s) with
            | false =>
              have H : Hid (Nm.label s = (0, ⟨#[]⟩)) := by show _ = _; unfold Nm.label; simp [h1, h2, h3, h4, h5, h6]
              go_enter Tryd.func33, Tryd.ntmps33
              go_wp2_with (first | (go_at_call 14; refine (lower_any _ (by assumption) _).mono ?_; rintro e w' ⟨rfl, rfl⟩) | (go_at_call 16; refine (upper_any _ (by assumption) _).mono ?_; rintro e w' ⟨rfl, rfl⟩) | (go_at_call 54; refine (cutSuffix_yes _ hs h3 _).mono ?_; rintro e w' ⟨rfl, rfl⟩) | (go_at_call 55; refine (cutPrefix_yes _ h5 _).mono ?_; rintro e w' ⟨rfl, rfl⟩))
              go_ret2
              exact ⟨ret_two H.out.symm, rfl⟩
            | true =>
              have H : Hid (Nm.label s = (4, Nm.rest s)) := by show _ = _; unfold Nm.label; simp [h1, h2, h3, h4, h5, h6]
              go_enter Tryd.func33, Tryd.ntmps33
              go_wp2_with (first | (go_at_call 14; refine (lower_any _ (by assumption) _).mono ?_; rintro e w' ⟨rfl, rfl⟩) | (go_at_call 16; refine (upper_any _ (by assumption) _).mono ?_; rintro e w' ⟨rfl, rfl⟩) | (go_at_call 54; refine (cutSuffix_yes _ hs h3 _).mono ?_; rintro e w' ⟨rfl, rfl⟩) | (go_at_call 55; refine (cutPrefix_yes _ h5 _).mono ?_; rintro e w' ⟨rfl, rfl⟩))
              go_ret2
              exact ⟨ret_two H.out.symm, rfl⟩

theorem con_any (s : ByteArray) (hs : s.size ≤ 9223372036854775800) (w : World) : Calls Tryd.prog 35 #[.string s] w fun e w' => e = .returned (.string (s ++ ⟨#[40, 41]⟩)) ∧ w' = w := by
  have hb : ¬ ((s.size + 2 : Nat) : Int) > 9223372036854775807 := by omega
  go_enter Tryd.func35, Tryd.ntmps35
  go_wp2
  go_ret
  exact ⟨rfl, rfl⟩
theorem out_any (s : ByteArray) (hs : s.size ≤ 9223372036854775800) (w : World) : Calls Tryd.prog 37 #[.string s] w fun e w' => e = .returned (.string (⟨#[111, 117, 116, 32]⟩ ++ s)) ∧ w' = w := by
  have hb : ¬ ((4 + s.size : Nat) : Int) > 9223372036854775807 := by omega
  go_enter Tryd.func37, Tryd.ntmps37
  go_wp2
  go_ret
  exact ⟨rfl, rfl⟩
end Go.Proofs.YtcccmbiocknknaaDoor
