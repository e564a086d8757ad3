/- The walk of NamesSorts: for any text and byte it returns true, and nothing that lay has turned. -/
import Derived.Deep.CutRange
import Derived.Laws.IdiomStrings
import Derived.Test.YtcccmbiocknknabDoorSortsP
import Derived.Test.YtcccmbiocknknabDoorAlive
namespace Go.Proofs.YtcccmbiocknknabDoor
open Go.RowKit Go.Shelf
set_option linter.unusedVariables false

theorem sorts_cells (b : UInt8) (w : World) (j : Nat) (hj : j < [b].length) : (w.alloc (.cells #[.int .u8 (b.toNat : Int)] 5)).cell? (Addr.add ⟨w.heap.size, 0, none⟩ j) = some (.int .u8 ([b][j].toNat : Int)) := by
  have e : j = 0 := by simpa using hj
  subst e
  exact cell_one_new _ _ _ 0 _ rfl
theorem sorts_conv (b : UInt8) (w : World) : (convert 30 9 (.slice (some ⟨w.heap.size, 0, none⟩) 1 1)).run Tryd.prog (w.alloc (.cells #[.int .u8 (b.toNat : Int)] 5)) = .ok (.string ⟨#[b]⟩) (w.alloc (.cells #[.int .u8 (b.toNat : Int)] 5)) :=
  run_convert_bytes_back (P := Tryd.prog) (w.alloc (.cells #[.int .u8 (b.toNat : Int)] 5)) 30 9 5 ⟨w.heap.size, 0, none⟩ 1 [b] Tryd.underlying30 Tryd.underlying5 Tryd.underlying9 (sorts_cells b w)

set_option maxRecDepth 100000 in
set_option maxHeartbeats 4000000 in
theorem sorts_no_name (s : ByteArray) (b : UInt8) (hs : s.size ≤ 140737488351232) (w : World) (hr : ¬ Nm.right s = 0) (hlo : Nm.lower s = false) (hup : Nm.upper s = false) (q : Bool) (hq : Nm.reserved s = q) : Calls Tryd.prog 4 #[.string s, .int .u8 (b.toNat : Int)] w fun e w' => e = .returned (.bool true) ∧ Below w.heap.size w w' := by
  cases q
  · have ma : s.size ≤ maxLen := by unfold maxLen; omega
    have mt : (s ++ (⟨#[b]⟩ : ByteArray)).size ≤ maxLen := by rw [Nm.more_size]; unfold maxLen; omega
    go_enter Tryd.func4, Tryd.ntmps4
    go_upto_region 3 with (first
      | (go_at_call 11; refine (right_any _ ma _).mono ?_; rintro e w1 ⟨rfl, hw1⟩; rw [hw1]; clear hw1 w1)
      | (go_at_call 6; refine (lower_any _ ma _).mono ?_; rintro e w1 ⟨rfl, hw1⟩; rw [hw1]; clear hw1 w1)
      | (go_at_call 7; refine (upper_any _ ma _).mono ?_; rintro e w1 ⟨rfl, hw1⟩; rw [hw1]; clear hw1 w1)
      | (go_at_call 12; refine (reserved_any _ _).mono ?_; rintro e w1 ⟨rfl, hw1⟩; rw [hw1]; clear hw1 w1))
    go_cut [5] from 7 to 64 (fun v wx => v = .bool (Nm.body (b.toNat : Int)) ∧ wx = w)
    case first =>
      go_wp2
      all_goals go_meet
      all_goals refine ⟨congrArg Value.bool ?_, rfl⟩
      all_goals (unfold Nm.body Nm.letter Nm.low Nm.high Nm.dig; rw [Bool.eq_iff_iff]; simp; omega)
    case rest =>
      obtain ⟨rfl, rfl⟩ := hcut
      have hcv := sorts_conv b wc
      have hbig : ¬ ((s.size + 1 : Nat) : Int) > 9223372036854775807 := by omega
      cases hbd : Nm.body (b.toNat : Int) with
      | true =>
        go_wp2_with (first
            | (go_at_call 11; refine (right_any _ (by assumption) _).mono ?_; rintro e w1 ⟨rfl, hw1⟩; rw [hw1]; clear hw1 w1)
            | (go_at_call 12; refine (reserved_any _ _).mono ?_; rintro e w1 ⟨rfl, hw1⟩; rw [hw1]; clear hw1 w1)
            | (go_at_call 10; refine (alive_any _).mono ?_; rintro e w2 ⟨rfl, hbe⟩))
        go_ret
        exact ⟨rfl, btr ((Below.refl _ wc).alloc (Nat.le_refl _) _) hbe⟩
      | false =>
        go_wp2_with (first
            | (go_at_call 11; refine (right_any _ (by assumption) _).mono ?_; rintro e w1 ⟨rfl, hw1⟩; rw [hw1]; clear hw1 w1)
            | (go_at_call 12; refine (reserved_any _ _).mono ?_; rintro e w1 ⟨rfl, hw1⟩; rw [hw1]; clear hw1 w1)
            | (go_at_call 10; refine (alive_any _).mono ?_; rintro e w2 ⟨rfl, hbe⟩))
        go_ret
        exact ⟨rfl, btr ((Below.refl _ wc).alloc (Nat.le_refl _) _) hbe⟩
  · have ma : s.size ≤ maxLen := by unfold maxLen; omega
    have mt : (s ++ (⟨#[b]⟩ : ByteArray)).size ≤ maxLen := by rw [Nm.more_size]; unfold maxLen; omega
    go_enter Tryd.func4, Tryd.ntmps4
    go_upto_region 3 with (first
      | (go_at_call 11; refine (right_any _ ma _).mono ?_; rintro e w1 ⟨rfl, hw1⟩; rw [hw1]; clear hw1 w1)
      | (go_at_call 6; refine (lower_any _ ma _).mono ?_; rintro e w1 ⟨rfl, hw1⟩; rw [hw1]; clear hw1 w1)
      | (go_at_call 7; refine (upper_any _ ma _).mono ?_; rintro e w1 ⟨rfl, hw1⟩; rw [hw1]; clear hw1 w1)
      | (go_at_call 12; refine (reserved_any _ _).mono ?_; rintro e w1 ⟨rfl, hw1⟩; rw [hw1]; clear hw1 w1))
    go_cut [5] from 7 to 64 (fun v wx => v = .bool (Nm.body (b.toNat : Int)) ∧ wx = w)
    case first =>
      go_wp2
      all_goals go_meet
      all_goals refine ⟨congrArg Value.bool ?_, rfl⟩
      all_goals (unfold Nm.body Nm.letter Nm.low Nm.high Nm.dig; rw [Bool.eq_iff_iff]; simp; omega)
    case rest =>
      obtain ⟨rfl, rfl⟩ := hcut
      have hcv := sorts_conv b wc
      have hbig : ¬ ((s.size + 1 : Nat) : Int) > 9223372036854775807 := by omega
      cases hbd : Nm.body (b.toNat : Int) with
      | true =>
        go_wp2_with (first
            | (go_at_call 11; refine (right_any _ (by assumption) _).mono ?_; rintro e w1 ⟨rfl, hw1⟩; rw [hw1]; clear hw1 w1)
            | (go_at_call 12; refine (reserved_any _ _).mono ?_; rintro e w1 ⟨rfl, hw1⟩; rw [hw1]; clear hw1 w1)
            | (go_at_call 10; refine (alive_any _).mono ?_; rintro e w2 ⟨rfl, hbe⟩))
        go_ret
        exact ⟨rfl, btr ((Below.refl _ wc).alloc (Nat.le_refl _) _) hbe⟩
      | false =>
        go_wp2_with (first
            | (go_at_call 11; refine (right_any _ (by assumption) _).mono ?_; rintro e w1 ⟨rfl, hw1⟩; rw [hw1]; clear hw1 w1)
            | (go_at_call 12; refine (reserved_any _ _).mono ?_; rintro e w1 ⟨rfl, hw1⟩; rw [hw1]; clear hw1 w1)
            | (go_at_call 10; refine (alive_any _).mono ?_; rintro e w2 ⟨rfl, hbe⟩))
        go_ret
        exact ⟨rfl, btr ((Below.refl _ wc).alloc (Nat.le_refl _) _) hbe⟩

set_option maxRecDepth 100000 in
set_option maxHeartbeats 4000000 in
theorem sorts_name (s : ByteArray) (b : UInt8) (hs : s.size ≤ 140737488351232) (w : World) (hr : Nm.right s = 0) (hlu : (Nm.lower s == Nm.upper s) = false) (hrs : Nm.reserved s = false) : Calls Tryd.prog 4 #[.string s, .int .u8 (b.toNat : Int)] w fun e w' => e = .returned (.bool true) ∧ Below w.heap.size w w' := by
  have ma : s.size ≤ maxLen := by unfold maxLen; omega
  have mt : (s ++ (⟨#[b]⟩ : ByteArray)).size ≤ maxLen := by rw [Nm.more_size]; unfold maxLen; omega
  go_enter Tryd.func4, Tryd.ntmps4
  go_upto_region 3 with (first
    | (go_at_call 11; refine (right_any _ ma _).mono ?_; rintro e w1 ⟨rfl, hw1⟩; rw [hw1]; clear hw1 w1)
    | (go_at_call 6; refine (lower_any _ ma _).mono ?_; rintro e w1 ⟨rfl, hw1⟩; rw [hw1]; clear hw1 w1)
    | (go_at_call 7; refine (upper_any _ ma _).mono ?_; rintro e w1 ⟨rfl, hw1⟩; rw [hw1]; clear hw1 w1)
    | (go_at_call 12; refine (reserved_any _ _).mono ?_; rintro e w1 ⟨rfl, hw1⟩; rw [hw1]; clear hw1 w1))
  go_cut [5] from 7 to 64 (fun v wx => v = .bool (Nm.body (b.toNat : Int)) ∧ wx = w)
  case first =>
    go_wp2
    all_goals go_meet
    all_goals refine ⟨congrArg Value.bool ?_, rfl⟩
    all_goals (unfold Nm.body Nm.letter Nm.low Nm.high Nm.dig; rw [Bool.eq_iff_iff]; simp; omega)
  case rest =>
    obtain ⟨rfl, rfl⟩ := hcut
    have hcv := sorts_conv b wc
    have hbig : ¬ ((s.size + 1 : Nat) : Int) > 9223372036854775807 := by omega
    have MA : Hid (s.size ≤ maxLen) := ma
    have MT : Hid ((s ++ (⟨#[b]⟩ : ByteArray)).size ≤ maxLen) := mt
    clear hs ma mt
    cases hbd : Nm.body (b.toNat : Int) with
    | false =>
      have ht : Nm.right (s ++ (⟨#[b]⟩ : ByteArray)) = 12 := Nm.more_no hbd
      go_wp2_with (first
          | (go_at_call 11; refine (right_any _ (by first | exact MA.out | exact MT.out) _).mono ?_; rintro e w1 ⟨rfl, hw1⟩; rw [hw1]; clear hw1 w1)
          | (go_at_call 12; refine (reserved_any _ _).mono ?_; rintro e w1 ⟨rfl, hw1⟩; rw [hw1]; clear hw1 w1)
          | (go_at_call 10; refine (alive_any _).mono ?_; rintro e w2 ⟨rfl, hbe⟩))
      go_ret
      exact ⟨rfl, btr ((Below.refl _ wc).alloc (Nat.le_refl _) _) hbe⟩
    | true =>
      by_cases hl0 : s.size < 32
      · have hl : (s.size : Int) < 32 := by omega
        have HL : Hid (s.size < 32) := hl0
        clear hl0
        cases hrt : Nm.reserved (s ++ (⟨#[b]⟩ : ByteArray)) with
        | true =>
          go_wp2_with (first
              | (go_at_call 11; refine (right_any _ (by first | exact MA.out | exact MT.out) _).mono ?_; rintro e w1 ⟨rfl, hw1⟩; rw [hw1]; clear hw1 w1)
              | (go_at_call 12; refine (reserved_any _ _).mono ?_; rintro e w1 ⟨rfl, hw1⟩; rw [hw1]; clear hw1 w1)
              | (go_at_call 10; refine (alive_any _).mono ?_; rintro e w2 ⟨rfl, hbe⟩))
          go_ret
          exact ⟨rfl, btr ((Below.refl _ wc).alloc (Nat.le_refl _) _) hbe⟩
        | false =>
          have ht : Nm.right (s ++ (⟨#[b]⟩ : ByteArray)) = 0 := Nm.more_ok hr hbd HL.out hrt
          go_wp2_with (first
              | (go_at_call 11; refine (right_any _ (by first | exact MA.out | exact MT.out) _).mono ?_; rintro e w1 ⟨rfl, hw1⟩; rw [hw1]; clear hw1 w1)
              | (go_at_call 12; refine (reserved_any _ _).mono ?_; rintro e w1 ⟨rfl, hw1⟩; rw [hw1]; clear hw1 w1)
              | (go_at_call 10; refine (alive_any _).mono ?_; rintro e w2 ⟨rfl, hbe⟩))
          go_ret
          exact ⟨rfl, btr ((Below.refl _ wc).alloc (Nat.le_refl _) _) hbe⟩
      · have h32 : s.size = 32 := by have := (Nm.right_zero hr).2.1; omega
        have hl' : ((s.size : Nat) : Int) = 32 := by omega
        clear hl0 hbig h32
        have hbig : ¬ (((32 : Int) + 1) > 9223372036854775807) := by omega
        go_wp2_with (first
            | (go_at_call 11; refine (right_any _ (by first | exact MA.out | exact MT.out) _).mono ?_; rintro e w1 ⟨rfl, hw1⟩; rw [hw1]; clear hw1 w1)
            | (go_at_call 12; refine (reserved_any _ _).mono ?_; rintro e w1 ⟨rfl, hw1⟩; rw [hw1]; clear hw1 w1)
            | (go_at_call 10; refine (alive_any _).mono ?_; rintro e w2 ⟨rfl, hbe⟩))
        go_ret
        exact ⟨rfl, btr ((Below.refl _ wc).alloc (Nat.le_refl _) _) hbe⟩

theorem sorts_walk (s : ByteArray) (b : UInt8) (hs : s.size ≤ 140737488351232) (w : World) : Calls Tryd.prog 4 #[.string s, .int .u8 (b.toNat : Int)] w fun e w' => e = .returned (.bool true) ∧ Below w.heap.size w w' := by
  by_cases h : Nm.right s = 0
  · exact sorts_name s b hs w h (Nm.sorts_ok h) (Nm.right_zero h).2.2
  · exact sorts_no_name s b hs w h (Nm.sorts_no h).1 (Nm.sorts_no h).2 _ rfl
end Go.Proofs.YtcccmbiocknknabDoor
