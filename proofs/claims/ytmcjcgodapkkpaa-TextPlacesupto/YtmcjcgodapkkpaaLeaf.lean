/- What the small functions of the program come to: within, place, Same, IndexByte, Span, bounds. -/
import Derived.WalkKit
import Derived.WalkSpells
import Derived.Lib.Walk
import Derived.Lib.Strings
import Derived.Lib.Bytealg
import Derived.Deep.QuietTactic
import Derived.BigQuiet
import Derived.Test.YtmcjcgodapkkpaaProg
import Derived.Test.YtmcjcgodapkkpaaPure
namespace Go.Proofs.Ytmcjcgodapkkpaa
open Go.RowKit
set_option linter.unusedVariables false

set_option maxHeartbeats 400000 in
theorem slIndexByte (s : ByteArray) (c : Int) (w : World) :
    Calls Try.prog 35 #[.string s, .int .u8 c] w fun e w' => e = .returned (.int .i64 (Lib.indexByte s.data.toList c.toNat.toUInt8)) ∧ w' = w := by
  go_enter Try.func35, Try.ntmps35
  go_wp2
  rw [run_callFunc_extern Try.func41 (by kernel_rfl) (by kernel_rfl) (by kernel_rfl) (e := Extern.BytealgIndexByte.indexByte) (by kernel_rfl), Lib.run_indexByteString]
  simp only [Result.andThen]
  rw [Oper.upon_value]
  go_wp2
  go_ret
  exact ⟨rfl, rfl⟩

set_option maxHeartbeats 400000 in
theorem indexByte_any (s : ByteArray) (c : Int) (w : World) :
    Calls Try.prog 28 #[.string s, .int .u8 c] w fun e w' => e = .returned (.int .i64 (Lib.indexByte s.data.toList c.toNat.toUInt8)) ∧ w' = w := by
  go_enter Try.func28, Try.ntmps28
  go_wp2_with (go_at_call 35; refine (slIndexByte _ _ _).mono ?_; rintro e w' ⟨rfl, rfl⟩)
  go_ret
  exact ⟨rfl, rfl⟩

/-- A place as a number within the text. -/
def Tx.at (n : Nat) (i : Int) : Nat := min i.toNat n

theorem Tx.at_eq (n : Nat) (i : Int) : ((Tx.at n i : Nat) : Int) = min (max i 0) n := by unfold Tx.at; omega
theorem ret_int {k : IntKind} {a b : Int} (h : a = b) : Ending.returned (.int k a) = .returned (.int k b) := by rw [h]

set_option maxHeartbeats 400000 in
theorem within_any (s : ByteArray) (i : Int) (w : World) :
    Calls Try.prog 22 #[.string s, .int .i64 i] w fun e w' => e = .returned (.int .i64 (Tx.at s.size i : Nat)) ∧ w' = w := by
  go_enter Try.func22, Try.ntmps22
  go_wp2
  go_ret
  exact ⟨ret_int (Tx.at_eq _ _).symm, rfl⟩

set_option maxHeartbeats 400000 in
theorem place_any (s : ByteArray) (i : Int) (w : World) (hs : s.size ≤ maxLen) :
    Calls Try.prog 24 #[.string s, .int .i64 i] w fun e w' => e = .returned (.int .i64 (Tx.at s.size i : Nat)) ∧ w' = w := by
  unfold maxLen at hs
  go_enter Try.func24, Try.ntmps24
  go_wp2
  all_goals go_ret
  all_goals refine ⟨ret_int ?_, rfl⟩
  all_goals (rw [Tx.at_eq]; omega)

theorem byte_eq (a b : UInt8) : (((a.toNat : Int) == (b.toNat : Int)) = true) ↔ a = b := by
  rw [beq_iff_eq]; exact ⟨fun h => UInt8.toNat_inj.1 (by omega), fun h => by rw [h]⟩

theorem Tx.get_eq (a : ByteArray) (k : Nat) (h : k < a.size) : a.data.toList[k]? = some a[k] := by
  rw [List.getElem?_eq_getElem (by simpa using h)]; rfl

theorem Tx.same_more {a b : ByteArray} {k : Nat} (h1 : k < a.size) (h2 : k < b.size) (h : ∀ j, j < k → a.data.toList[j]? = b.data.toList[j]?) (he : a[k] = b[k]) :
    ∀ j, j < k + 1 → a.data.toList[j]? = b.data.toList[j]? := fun j hj => by
  by_cases e : j = k
  · subst e; rw [Tx.get_eq a j h1, Tx.get_eq b j h2, he]
  · exact h j (by omega)

set_option maxHeartbeats 400000 in
theorem same_any (a b : ByteArray) (w : World) (ha : a.size ≤ maxLen) (hb : b.size ≤ maxLen) :
    Calls Try.prog 17 #[.string a, .string b] w fun e w' => e = .returned (.int .i64 (Tx.same a.data.toList b.data.toList : Nat)) ∧ ∃ n, w' = w.drewN n := by
  unfold maxLen at ha hb
  go_enter Try.func17, Try.ntmps17
  go_wp2
  go_loopw [5] (fun v wr => ∃ k : Nat, k ≤ a.size ∧ k ≤ b.size ∧ v = .int .i64 k ∧ (∀ j, j < k → a.data.toList[j]? = b.data.toList[j]?) ∧ ∃ n, wr = w.drewN n) (fun v _ => a.size - (intOf v).toNat)
  case atStart => exact ⟨0, Nat.zero_le _, Nat.zero_le _, rfl, fun j h => by omega, 0, rfl⟩
  case round =>
    obtain ⟨k, hka, hkb, rfl, hall, n, rfl⟩ := hrel
    have ea : a.data.toList.length = a.size := by rw [Array.length_toList]; rfl
    have eb : b.data.toList.length = b.size := by rw [Array.length_toList]; rfl
    by_cases h1 : k < a.size
    · by_cases h2 : k < b.size
      · by_cases h3 : a[k] = b[k]
        · have h3' : (((a[k].toNat : Int) == (b[k].toNat : Int)) = true) := (byte_eq _ _).2 h3
          have H : Hid (∀ j, j < k + 1 → a.data.toList[j]? = b.data.toList[j]?) := Tx.same_more h1 h2 hall h3
          clear h3 hall ea eb
          go_wp2
          go_quiet (fail)
          go_wp2
          go_roundw
          case rel => exact ⟨k + 1, by omega, by omega, by go_num, H.out, _, rfl⟩
          case measure => simp [intOf]; omega
        · have h3' : (((a[k].toNat : Int) == (b[k].toNat : Int)) = false) := by
            cases h : ((a[k].toNat : Int) == (b[k].toNat : Int)) with
            | false => rfl
            | true => exact absurd ((byte_eq _ _).1 h) h3
          have H : Hid (Tx.same a.data.toList b.data.toList = k) := Tx.same_eq (by omega) (by omega) hall (.inr (.inr (by rw [Tx.get_eq a k h1, Tx.get_eq b k h2]; simpa using h3)))
          clear h3 hall ea eb
          go_wp2
          go_quiet (fail)
          go_wp2
          go_ret
          exact ⟨ret_int (by rw [H.out]), _, World.drewN_drewN _ _ _⟩
      · have H : Hid (Tx.same a.data.toList b.data.toList = k) := Tx.same_eq (by omega) (by omega) hall (.inr (.inl (by omega)))
        clear hall ea eb
        go_wp2
        go_quiet (fail)
        go_wp2
        go_ret
        exact ⟨ret_int (by rw [H.out]), _, World.drewN_drewN _ _ _⟩
    · have H : Hid (Tx.same a.data.toList b.data.toList = k) := Tx.same_eq (by omega) (by omega) hall (.inl (by omega))
      clear hall ea eb
      go_wp2
      go_quiet (fail)
      go_wp2
      go_ret
      exact ⟨ret_int (by rw [H.out]), _, World.drewN_drewN _ _ _⟩

set_option maxHeartbeats 400000 in
theorem refSame_any (a b : ByteArray) (w : World) (ha : a.size ≤ maxLen) (hb : b.size ≤ maxLen) :
    Calls Try.prog 18 #[.string a, .string b] w fun e w' => e = .returned (.int .i64 (Tx.same a.data.toList b.data.toList : Nat)) ∧ ∃ n, w' = w.drewN n := by
  unfold maxLen at ha hb
  go_enter Try.func18, Try.ntmps18
  go_wp2
  go_loopw [5] (fun v wr => ∃ k : Nat, k ≤ a.size ∧ k ≤ b.size ∧ v = .int .i64 k ∧ (∀ j, j < k → a.data.toList[j]? = b.data.toList[j]?) ∧ ∃ n, wr = w.drewN n) (fun v _ => a.size - (intOf v).toNat)
  case atStart => exact ⟨0, Nat.zero_le _, Nat.zero_le _, rfl, fun j h => by omega, 0, rfl⟩
  case round =>
    obtain ⟨k, hka, hkb, rfl, hall, n, rfl⟩ := hrel
    have ea : a.data.toList.length = a.size := by rw [Array.length_toList]; rfl
    have eb : b.data.toList.length = b.size := by rw [Array.length_toList]; rfl
    by_cases h1 : k < a.size
    · by_cases h2 : k < b.size
      · by_cases h3 : a[k] = b[k]
        · have h3' : (((a[k].toNat : Int) == (b[k].toNat : Int)) = true) := (byte_eq _ _).2 h3
          have H : Hid (∀ j, j < k + 1 → a.data.toList[j]? = b.data.toList[j]?) := Tx.same_more h1 h2 hall h3
          clear h3 hall ea eb
          go_wp2
          go_quiet (fail)
          go_wp2
          go_roundw
          case rel => exact ⟨k + 1, by omega, by omega, by go_num, H.out, _, rfl⟩
          case measure => simp [intOf]; omega
        · have h3' : (((a[k].toNat : Int) == (b[k].toNat : Int)) = false) := by
            cases h : ((a[k].toNat : Int) == (b[k].toNat : Int)) with
            | false => rfl
            | true => exact absurd ((byte_eq _ _).1 h) h3
          have H : Hid (Tx.same a.data.toList b.data.toList = k) := Tx.same_eq (by omega) (by omega) hall (.inr (.inr (by rw [Tx.get_eq a k h1, Tx.get_eq b k h2]; simpa using h3)))
          clear h3 hall ea eb
          go_wp2
          go_quiet (fail)
          go_wp2
          go_ret
          exact ⟨ret_int (by rw [H.out]), _, World.drewN_drewN _ _ _⟩
      · have H : Hid (Tx.same a.data.toList b.data.toList = k) := Tx.same_eq (by omega) (by omega) hall (.inr (.inl (by omega)))
        clear hall ea eb
        go_wp2
        go_quiet (fail)
        go_wp2
        go_ret
        exact ⟨ret_int (by rw [H.out]), _, World.drewN_drewN _ _ _⟩
    · have H : Hid (Tx.same a.data.toList b.data.toList = k) := Tx.same_eq (by omega) (by omega) hall (.inl (by omega))
      clear hall ea eb
      go_wp2
      go_quiet (fail)
      go_wp2
      go_ret
      exact ⟨ret_int (by rw [H.out]), _, World.drewN_drewN _ _ _⟩

theorem Tx.extract_none (s : ByteArray) {a b : Nat} (h : b ≤ a) : s.extract a b = ⟨#[]⟩ := by
  have e : (s.extract a b).data.toList = [] := by
    rw [Lib.extract_data, show b - a = 0 from by omega]; simp
  rw [show s.extract a b = ⟨(s.extract a b).data⟩ from rfl]
  congr 1
  exact Array.toList_inj.1 e

theorem ret_str {a b : ByteArray} (h : a = b) : Ending.returned (.string a) = .returned (.string b) := by rw [h]

set_option maxHeartbeats 400000 in
theorem span_any (s : ByteArray) (i j : Int) (w : World) (hs : s.size ≤ maxLen) :
    Calls Try.prog 13 #[.string s, .int .i64 i, .int .i64 j] w fun e w' => e = .returned (.string (s.extract (Tx.at s.size i) (Tx.at s.size j))) ∧ w' = w := by
  unfold maxLen at hs
  have ha : Tx.at s.size i ≤ s.size := by unfold Tx.at; omega
  have hb : Tx.at s.size j ≤ s.size := by unfold Tx.at; omega
  by_cases h : Tx.at s.size j ≤ Tx.at s.size i
  · have H : Hid (s.extract (Tx.at s.size i) (Tx.at s.size j) = ⟨#[]⟩) := Tx.extract_none s h
    go_enter Try.func13, Try.ntmps13
    go_wp2_with (go_at_call 22; refine (within_any _ _ _).mono ?_; rintro e w' ⟨rfl, rfl⟩)
    go_ret
    exact ⟨ret_str H.out.symm, rfl⟩
  · go_enter Try.func13, Try.ntmps13
    go_wp2_with (go_at_call 22; refine (within_any _ _ _).mono ?_; rintro e w' ⟨rfl, rfl⟩)
    go_ret
    exact ⟨rfl, rfl⟩

set_option maxHeartbeats 400000 in
theorem refSpan_any (s : ByteArray) (i j : Int) (w : World) (hs : s.size ≤ maxLen) :
    Calls Try.prog 14 #[.string s, .int .i64 i, .int .i64 j] w fun e w' => e = .returned (.string (s.extract (Tx.at s.size i) (Tx.at s.size j))) ∧ w' = w := by
  have hs' := hs
  unfold maxLen at hs
  have ha : Tx.at s.size i ≤ s.size := by unfold Tx.at; omega
  have hb : Tx.at s.size j ≤ s.size := by unfold Tx.at; omega
  by_cases h : Tx.at s.size j ≤ Tx.at s.size i
  · have H : Hid (s.extract (Tx.at s.size i) (Tx.at s.size j) = ⟨#[]⟩) := Tx.extract_none s h
    go_enter Try.func14, Try.ntmps14
    go_wp2_with (go_at_call 24; refine (place_any _ _ _ hs').mono ?_; rintro e w' ⟨rfl, rfl⟩)
    go_ret
    exact ⟨ret_str H.out.symm, rfl⟩
  · go_enter Try.func14, Try.ntmps14
    go_wp2_with (go_at_call 24; refine (place_any _ _ _ hs').mono ?_; rintro e w' ⟨rfl, rfl⟩)
    go_ret
    exact ⟨rfl, rfl⟩

end Go.Proofs.Ytmcjcgodapkkpaa
