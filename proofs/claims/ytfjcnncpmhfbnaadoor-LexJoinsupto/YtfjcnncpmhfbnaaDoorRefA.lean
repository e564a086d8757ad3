/- What the document's small functions on bytes come to: low, high, digit, blank, two. -/
import Derived.Test.YtfjcnncpmhfbnaaDoorLexSkip
namespace Go.Proofs.YtfjcnncpmhfbnaaDoor
open Go.RowKit
set_option linter.unusedVariables false

theorem rfLow_any (c : Int) (w : World) : Calls Tryd.prog 35 #[.int .u8 c] w fun e w' => e = .returned (.bool (Nm.low c)) ∧ w' = w := by
  go_enter Tryd.func35, Tryd.ntmps35
  go_wp2
  all_goals go_ret
  all_goals refine ⟨ret_bool ?_, rfl⟩
  all_goals (unfold Nm.low; first | (simp [*]; done) | (simp; omega))

theorem rfHigh_any (c : Int) (w : World) : Calls Tryd.prog 36 #[.int .u8 c] w fun e w' => e = .returned (.bool (Nm.high c)) ∧ w' = w := by
  go_enter Tryd.func36, Tryd.ntmps36
  go_wp2
  all_goals go_ret
  all_goals refine ⟨ret_bool ?_, rfl⟩
  all_goals (unfold Nm.high; first | (simp [*]; done) | (simp; omega))

theorem rfDigit_any (c : Int) (w : World) : Calls Tryd.prog 39 #[.int .u8 c] w fun e w' => e = .returned (.bool (Nm.dig c)) ∧ w' = w := by
  go_enter Tryd.func39, Tryd.ntmps39
  go_wp2
  all_goals go_ret
  all_goals refine ⟨ret_bool ?_, rfl⟩
  all_goals (unfold Nm.dig; first | (simp [*]; done) | (simp; omega))

theorem rfBlank_any (c : Int) (w : World) : Calls Tryd.prog 32 #[.int .u8 c] w fun e w' => e = .returned (.bool (Lx.blank c)) ∧ w' = w := by
  go_enter Tryd.func32, Tryd.ntmps32
  go_wp2
  all_goals go_ret
  all_goals refine ⟨ret_bool ?_, rfl⟩
  all_goals (unfold Lx.blank; first | (simp [*]; done) | (rw [Bool.eq_iff_iff]; simp only [Bool.or_eq_true, decide_eq_true_eq, beq_iff_eq]; first | done | omega | (simp; omega) | (simp [*]; done)))

def Lx.two (s : ByteArray) (k : Nat) (x y : Int) : Bool := decide (Lx.b s k = x) && decide (Lx.b s (k + 1) = y)

theorem rfTwo_40_42 (s : ByteArray) (k : Nat) (hs : s.size ≤ 4096) (hk : k ≤ s.size) (w : World) : Calls Tryd.prog 33 #[.string s, .int .i64 k, .string ⟨#[40, 42]⟩] w fun e w' => e = .returned (.bool (Lx.two s k 40 42)) ∧ w' = w := by
  by_cases h1 : k + 1 < s.size
  · have t := Lx.two_eq s k h1 40 42 (by decide) (by decide)
    have h2 : k + 2 ≤ s.size := by omega
    cases hc : ((s.extract k (k + 2)).toList == [40, 42]) with
    | true =>
      have H : Hid (Lx.two s k 40 42 = true) := by show _ = _; rw [← hc]; exact t.symm
      clear t h1
      go_enter Tryd.func33, Tryd.ntmps33
      go_wp2
      go_ret
      exact ⟨ret_bool H.out.symm, rfl⟩
    | false =>
      have H : Hid (Lx.two s k 40 42 = false) := by show _ = _; rw [← hc]; exact t.symm
      clear t h1
      go_enter Tryd.func33, Tryd.ntmps33
      go_wp2
      go_ret
      exact ⟨ret_bool H.out.symm, rfl⟩
  · have H : Hid (Lx.two s k 40 42 = false) := by show _ = _; unfold Lx.two; rw [Lx.b_ge h1]; simp
    have h2 : ¬ k + 2 ≤ s.size := by omega
    clear h1
    go_enter Tryd.func33, Tryd.ntmps33
    go_wp2
    go_ret
    exact ⟨ret_bool H.out.symm, rfl⟩

theorem rfTwo_42_41 (s : ByteArray) (k : Nat) (hs : s.size ≤ 4096) (hk : k ≤ s.size) (w : World) : Calls Tryd.prog 33 #[.string s, .int .i64 k, .string ⟨#[42, 41]⟩] w fun e w' => e = .returned (.bool (Lx.two s k 42 41)) ∧ w' = w := by
  by_cases h1 : k + 1 < s.size
  · have t := Lx.two_eq s k h1 42 41 (by decide) (by decide)
    have h2 : k + 2 ≤ s.size := by omega
    cases hc : ((s.extract k (k + 2)).toList == [42, 41]) with
    | true =>
      have H : Hid (Lx.two s k 42 41 = true) := by show _ = _; rw [← hc]; exact t.symm
      clear t h1
      go_enter Tryd.func33, Tryd.ntmps33
      go_wp2
      go_ret
      exact ⟨ret_bool H.out.symm, rfl⟩
    | false =>
      have H : Hid (Lx.two s k 42 41 = false) := by show _ = _; rw [← hc]; exact t.symm
      clear t h1
      go_enter Tryd.func33, Tryd.ntmps33
      go_wp2
      go_ret
      exact ⟨ret_bool H.out.symm, rfl⟩
  · have H : Hid (Lx.two s k 42 41 = false) := by show _ = _; unfold Lx.two; rw [Lx.b_ge h1]; simp
    have h2 : ¬ k + 2 ≤ s.size := by omega
    clear h1
    go_enter Tryd.func33, Tryd.ntmps33
    go_wp2
    go_ret
    exact ⟨ret_bool H.out.symm, rfl⟩

theorem rfTwo_58_62 (s : ByteArray) (k : Nat) (hs : s.size ≤ 4096) (hk : k ≤ s.size) (w : World) : Calls Tryd.prog 33 #[.string s, .int .i64 k, .string ⟨#[58, 62]⟩] w fun e w' => e = .returned (.bool (Lx.two s k 58 62)) ∧ w' = w := by
  by_cases h1 : k + 1 < s.size
  · have t := Lx.two_eq s k h1 58 62 (by decide) (by decide)
    have h2 : k + 2 ≤ s.size := by omega
    cases hc : ((s.extract k (k + 2)).toList == [58, 62]) with
    | true =>
      have H : Hid (Lx.two s k 58 62 = true) := by show _ = _; rw [← hc]; exact t.symm
      clear t h1
      go_enter Tryd.func33, Tryd.ntmps33
      go_wp2
      go_ret
      exact ⟨ret_bool H.out.symm, rfl⟩
    | false =>
      have H : Hid (Lx.two s k 58 62 = false) := by show _ = _; rw [← hc]; exact t.symm
      clear t h1
      go_enter Tryd.func33, Tryd.ntmps33
      go_wp2
      go_ret
      exact ⟨ret_bool H.out.symm, rfl⟩
  · have H : Hid (Lx.two s k 58 62 = false) := by show _ = _; unfold Lx.two; rw [Lx.b_ge h1]; simp
    have h2 : ¬ k + 2 ≤ s.size := by omega
    clear h1
    go_enter Tryd.func33, Tryd.ntmps33
    go_wp2
    go_ret
    exact ⟨ret_bool H.out.symm, rfl⟩

theorem rfTwo_61_62 (s : ByteArray) (k : Nat) (hs : s.size ≤ 4096) (hk : k ≤ s.size) (w : World) : Calls Tryd.prog 33 #[.string s, .int .i64 k, .string ⟨#[61, 62]⟩] w fun e w' => e = .returned (.bool (Lx.two s k 61 62)) ∧ w' = w := by
  by_cases h1 : k + 1 < s.size
  · have t := Lx.two_eq s k h1 61 62 (by decide) (by decide)
    have h2 : k + 2 ≤ s.size := by omega
    cases hc : ((s.extract k (k + 2)).toList == [61, 62]) with
    | true =>
      have H : Hid (Lx.two s k 61 62 = true) := by show _ = _; rw [← hc]; exact t.symm
      clear t h1
      go_enter Tryd.func33, Tryd.ntmps33
      go_wp2
      go_ret
      exact ⟨ret_bool H.out.symm, rfl⟩
    | false =>
      have H : Hid (Lx.two s k 61 62 = false) := by show _ = _; rw [← hc]; exact t.symm
      clear t h1
      go_enter Tryd.func33, Tryd.ntmps33
      go_wp2
      go_ret
      exact ⟨ret_bool H.out.symm, rfl⟩
  · have H : Hid (Lx.two s k 61 62 = false) := by show _ = _; unfold Lx.two; rw [Lx.b_ge h1]; simp
    have h2 : ¬ k + 2 ≤ s.size := by omega
    clear h1
    go_enter Tryd.func33, Tryd.ntmps33
    go_wp2
    go_ret
    exact ⟨ret_bool H.out.symm, rfl⟩

theorem rfTwo_45_62 (s : ByteArray) (k : Nat) (hs : s.size ≤ 4096) (hk : k ≤ s.size) (w : World) : Calls Tryd.prog 33 #[.string s, .int .i64 k, .string ⟨#[45, 62]⟩] w fun e w' => e = .returned (.bool (Lx.two s k 45 62)) ∧ w' = w := by
  by_cases h1 : k + 1 < s.size
  · have t := Lx.two_eq s k h1 45 62 (by decide) (by decide)
    have h2 : k + 2 ≤ s.size := by omega
    cases hc : ((s.extract k (k + 2)).toList == [45, 62]) with
    | true =>
      have H : Hid (Lx.two s k 45 62 = true) := by show _ = _; rw [← hc]; exact t.symm
      clear t h1
      go_enter Tryd.func33, Tryd.ntmps33
      go_wp2
      go_ret
      exact ⟨ret_bool H.out.symm, rfl⟩
    | false =>
      have H : Hid (Lx.two s k 45 62 = false) := by show _ = _; rw [← hc]; exact t.symm
      clear t h1
      go_enter Tryd.func33, Tryd.ntmps33
      go_wp2
      go_ret
      exact ⟨ret_bool H.out.symm, rfl⟩
  · have H : Hid (Lx.two s k 45 62 = false) := by show _ = _; unfold Lx.two; rw [Lx.b_ge h1]; simp
    have h2 : ¬ k + 2 ≤ s.size := by omega
    clear h1
    go_enter Tryd.func33, Tryd.ntmps33
    go_wp2
    go_ret
    exact ⟨ret_bool H.out.symm, rfl⟩

def Lx.remI (s : ByteArray) (k : Nat) : Int := match Lx.rem (s.data.toList.drop k) 0 with
  | none => -1
  | some r => ((s.size - r.length : Nat) : Int)
theorem Lx.two_true {s : ByteArray} {k : Nat} {x y : Int} (h : Lx.b s k = x ∧ Lx.b s (k + 1) = y) : Lx.two s k x y = true := by unfold Lx.two; rw [h.1, h.2]; simp
theorem Lx.two_false {s : ByteArray} {k : Nat} {x y : Int} (h : ¬ (Lx.b s k = x ∧ Lx.b s (k + 1) = y)) : Lx.two s k x y = false := by
  unfold Lx.two
  cases h2 : (decide (Lx.b s k = x) && decide (Lx.b s (k + 1) = y)) with
  | false => rfl
  | true => exact absurd (by simpa using h2) h

set_option maxHeartbeats 1000000 in
theorem rfRemark_any (s : ByteArray) (p : Nat) (ho : Lx.b s p = 40 ∧ Lx.b s (p + 1) = 42) (hs : s.size ≤ 4096) (hp : p ≤ s.size) (w : World) : Calls Tryd.prog 34 #[.string s, .int .i64 p] w fun e w' => e = .returned (.int .i64 (Lx.remI s p)) ∧ w' = w := by
  have hn0 : Hid (∀ k d, Lx.rem (s.data.toList.drop p) 0 = Lx.rem (s.data.toList.drop k) d → s.size ≤ k + 1 → Lx.remI s p = -1) := by
    intro k d h h2
    unfold Lx.remI; rw [h, Lx.rem_end s k d h2]
  go_enter Tryd.func34, Tryd.ntmps34
  go_wp2
  go_loop [1, 5] (fun x v => ∃ k d : Nat, v = .int .i64 d ∧ x = .int .i64 k ∧ p ≤ k ∧ k ≤ s.size ∧ d ≤ k ∧ (k = p ∨ 1 ≤ d) ∧ Hid (Lx.rem (s.data.toList.drop p) 0 = Lx.rem (s.data.toList.drop k) d)) (fun x v => s.size - (intOf x).toNat)
  case atStart => exact ⟨p, 0, rfl, rfl, Nat.le_refl _, hp, Nat.zero_le _, .inl rfl, rfl⟩
  case round =>
    obtain ⟨k, d, rfl, rfl, hpk, hk, hdk, hd, hx⟩ := hrel
    have t1 := fun w => rfTwo_40_42 s k hs hk w
    have t2 := fun w => rfTwo_42_41 s k hs hk w
    by_cases hlt : k + 1 < s.size
    · have hx2 := hx.out
      rw [Lx.rem_at s k d hlt] at hx2
      have hlt2 : k < s.size := by omega
      by_cases c1 : Lx.b s k = 40 ∧ Lx.b s (k + 1) = 42
      · rw [if_pos c1] at hx2
        have HX : Hid (Lx.rem (s.data.toList.drop p) 0 = Lx.rem (s.data.toList.drop (k + 2)) (d + 1)) := hx2
        rw [Lx.two_true c1] at t1
        clear hx hx2 c1 hn0 ho
        go_wp2_with (first | (go_at_call 33; have _ := m1; refine (t2 _).mono ?_; rintro e w' ⟨rfl, rfl⟩) | (go_at_call 33; refine (t1 _).mono ?_; rintro e w' ⟨rfl, rfl⟩; have m1 := True.intro))
        go_round
        case rel => exact ⟨k + 2, d + 1, by go_num, by go_num, by omega, by omega, by omega, by omega, HX⟩
        case measure => simp [intOf]; omega
      · rw [if_neg c1] at hx2
        rw [Lx.two_false c1] at t1
        by_cases c2 : Lx.b s k = 42 ∧ Lx.b s (k + 1) = 41
        · rw [if_pos c2] at hx2
          rw [Lx.two_true c2] at t2
          have hd1 : 1 ≤ d := by
            rcases hd with rfl | hd
            · exact absurd ho c1
            · exact hd
          by_cases hd2 : d ≤ 1
          · rw [if_pos hd2] at hx2
            obtain rfl : d = 1 := by omega
            have HX : Hid (Lx.remI s p = ((k + 2 : Nat) : Int)) := by
              show _ = _; unfold Lx.remI; rw [hx2]
              show ((s.size - (s.data.toList.drop (k + 2)).length : Nat) : Int) = _
              rw [List.length_drop, Nm.len]; omega
            clear hx hx2 c1 c2 hn0 ho hd hd1 hd2
            go_wp2_with (first | (go_at_call 33; have _ := m1; refine (t2 _).mono ?_; rintro e w' ⟨rfl, rfl⟩) | (go_at_call 33; refine (t1 _).mono ?_; rintro e w' ⟨rfl, rfl⟩; have m1 := True.intro))
            go_ret
            exact ⟨ret_int (by rw [HX.out]; first | rfl | go_num), rfl⟩
          · rw [if_neg hd2] at hx2
            have HX : Hid (Lx.rem (s.data.toList.drop p) 0 = Lx.rem (s.data.toList.drop (k + 2)) (d - 1)) := hx2
            have hd3 : (d : Int) - 1 = ((d - 1 : Nat) : Int) := by omega
            have hd4 : 1 ≤ d - 1 := by omega
            have hd5 : d - 1 ≤ k := by omega
            clear hx hx2 c1 c2 hn0 ho hd hd1 hd2
            generalize d - 1 = r at *
            go_wp2_with (first | (go_at_call 33; have _ := m1; refine (t2 _).mono ?_; rintro e w' ⟨rfl, rfl⟩) | (go_at_call 33; refine (t1 _).mono ?_; rintro e w' ⟨rfl, rfl⟩; have m1 := True.intro))
            go_round
            case rel => exact ⟨k + 2, r, by rw [← hd3], by go_num, by omega, by omega, by omega, by omega, HX⟩
            case measure => simp [intOf]; omega
        · rw [if_neg c2] at hx2
          rw [Lx.two_false c2] at t2
          have HX : Hid (Lx.rem (s.data.toList.drop p) 0 = Lx.rem (s.data.toList.drop (k + 1)) d) := hx2
          have hd1 : 1 ≤ d := by
            rcases hd with rfl | hd
            · exact absurd ho c1
            · exact hd
          clear hx hx2 c1 c2 hn0 ho hd
          go_wp2_with (first | (go_at_call 33; have _ := m1; refine (t2 _).mono ?_; rintro e w' ⟨rfl, rfl⟩) | (go_at_call 33; refine (t1 _).mono ?_; rintro e w' ⟨rfl, rfl⟩; have m1 := True.intro))
          go_round
          case rel => exact ⟨k + 1, d, rfl, by go_num, by omega, by omega, by omega, by omega, HX⟩
          case measure => simp [intOf]; omega
    · by_cases hend : k < s.size
      · have HX : Hid (Lx.rem (s.data.toList.drop p) 0 = Lx.rem (s.data.toList.drop (k + 1)) d) := by
          show _ = _; rw [hx.out, Lx.rem_end s k d (by omega), Lx.rem_end s (k + 1) d (by omega)]
        have hb1 : Lx.b s (k + 1) = -1 := Lx.b_ge hlt
        have hd1 : 1 ≤ d := by
          rcases hd with rfl | hd
          · have := ho.2; omega
          · exact hd
        rw [Lx.two_false (fun h => by have := h.2; omega)] at t1 t2
        clear hx hn0 ho hd hb1 hlt
        go_wp2_with (first | (go_at_call 33; have _ := m1; refine (t2 _).mono ?_; rintro e w' ⟨rfl, rfl⟩) | (go_at_call 33; refine (t1 _).mono ?_; rintro e w' ⟨rfl, rfl⟩; have m1 := True.intro))
        go_round
        case rel => exact ⟨k + 1, d, rfl, by go_num, by omega, by omega, by omega, by omega, HX⟩
        case measure => simp [intOf]; omega
      · have HX : Hid (Lx.remI s p = -1) := hn0.out k d hx.out (by omega)
        clear hn0 hx ho
        go_wp2
        go_ret
        exact ⟨ret_int HX.out.symm, rfl⟩

set_option maxHeartbeats 1000000 in
theorem rfSkip_any (s : ByteArray) (p : Nat) (hs : s.size ≤ 4096) (hp : p ≤ s.size) (w : World) : Calls Tryd.prog 20 #[.string s, .int .i64 p] w fun e w' => e = .returned (.tuple #[.int .i64 ((s.size - (Lx.skip (s.data.toList.drop p)).1.length : Nat) : Int), .bool (Lx.skip (s.data.toList.drop p)).2]) ∧ w' = w := by
  go_enter Tryd.func20, Tryd.ntmps20
  go_wp2
  go_loop [1] (fun x => ∃ k : Nat, x = .int .i64 k ∧ p ≤ k ∧ k ≤ s.size ∧ Hid (Lx.skip (s.data.toList.drop p) = Lx.skip (s.data.toList.drop k))) (fun x => s.size - (intOf x).toNat)
  case atStart => exact ⟨p, rfl, Nat.le_refl _, hp, rfl⟩
  case round =>
    obtain ⟨k, rfl, hpk, hk, hx⟩ := hrel
    by_cases hlt : k < s.size
    · have hx2 := hx.out
      rw [Lx.skip_at s k hlt] at hx2
      have hb := Lx.b_lt hlt
      cases hbl : Lx.blank (Lx.b s k) with
      | true =>
        rw [if_pos hbl] at hx2
        have HX : Hid (Lx.skip (s.data.toList.drop p) = Lx.skip (s.data.toList.drop (k + 1))) := hx2
        clear hx hx2
        go_wp2_with (go_at_call 32; refine (rfBlank_any _ _).mono ?_; rintro e w' ⟨rfl, rfl⟩)
        go_round
        case rel => exact ⟨k + 1, by go_num, by omega, by omega, HX⟩
        case measure => simp [intOf]; omega
      | false =>
        rw [if_neg (by rw [hbl]; simp)] at hx2
        have t1 := fun w => rfTwo_40_42 s k hs hk w
        by_cases c1 : Lx.b s k = 40 ∧ Lx.b s (k + 1) = 42
        · rw [if_pos (show (decide (Lx.b s k = 40) && decide (Lx.b s (k + 1) = 42)) = true from Lx.two_true c1)] at hx2
          rw [Lx.two_true c1] at t1
          have hrm := fun w => rfRemark_any s k c1 hs hk w
          cases hR : Lx.rem (s.data.toList.drop k) 0 with
          | none =>
            rw [hR] at hx2
            have HX : Hid (Lx.skip (s.data.toList.drop p) = (s.data.toList.drop k, false)) := hx2
            have hn : Lx.remI s k = -1 := by unfold Lx.remI; rw [hR]
            rw [hn] at hrm
            clear hx hx2 hR hn c1
            go_wp2_with (first | (go_at_call 32; refine (rfBlank_any _ _).mono ?_; rintro e w' ⟨rfl, rfl⟩) | (go_at_call 33; refine (t1 _).mono ?_; rintro e w' ⟨rfl, rfl⟩) | (go_at_call 34; refine (hrm _).mono ?_; rintro e w' ⟨rfl, rfl⟩))
            go_ret2
            refine ⟨?_, rfl⟩
            rw [HX.out]
            show _ = Ending.returned (.tuple #[.int .i64 ((s.size - (s.data.toList.drop k).length : Nat) : Int), .bool false])
            rw [List.length_drop, Nm.len, show s.size - (s.size - k) = k by omega]; rfl
          | some r =>
            rw [hR] at hx2
            have hlen := Lx.rem_lt _ _ _ hR
            rw [List.length_drop, Nm.len] at hlen
            have hr := Lx.rem_drop hR
            rw [List.length_drop, Nm.len, List.drop_drop, show k + (s.size - k - r.length) = s.size - r.length by omega] at hr
            have hn : Lx.remI s k = ((s.size - r.length : Nat) : Int) := by unfold Lx.remI; rw [hR]
            have HX : Hid (Lx.skip (s.data.toList.drop p) = Lx.skip (s.data.toList.drop (s.size - r.length))) := by show _ = _; rw [← hr]; exact hx2
            have hj1 : k + 2 ≤ s.size - r.length := by omega
            have hj2 : s.size - r.length ≤ s.size := by omega
            rw [hn] at hrm
            clear hx hx2 hR hr hlen hn c1
            generalize s.size - r.length = j at *
            have hj3 : ¬ ((j : Int) < 0) := by omega
            go_wp2_with (first | (go_at_call 32; refine (rfBlank_any _ _).mono ?_; rintro e w' ⟨rfl, rfl⟩) | (go_at_call 33; refine (t1 _).mono ?_; rintro e w' ⟨rfl, rfl⟩) | (go_at_call 34; refine (hrm _).mono ?_; rintro e w' ⟨rfl, rfl⟩))
            go_round
            case rel => exact ⟨j, by first | rfl | go_num, by omega, hj2, HX⟩
            case measure => simp [intOf]; omega
        · rw [if_neg (by rw [show (decide (Lx.b s k = 40) && decide (Lx.b s (k + 1) = 42)) = false from Lx.two_false c1]; simp)] at hx2
          rw [Lx.two_false c1] at t1
          have HX : Hid (Lx.skip (s.data.toList.drop p) = (s.data.toList.drop k, true)) := hx2
          clear hx hx2 c1
          go_wp2_with (first | (go_at_call 32; refine (rfBlank_any _ _).mono ?_; rintro e w' ⟨rfl, rfl⟩) | (go_at_call 33; refine (t1 _).mono ?_; rintro e w' ⟨rfl, rfl⟩))
          go_ret2
          refine ⟨?_, rfl⟩
          rw [HX.out]
          show _ = Ending.returned (.tuple #[.int .i64 ((s.size - (s.data.toList.drop k).length : Nat) : Int), .bool true])
          rw [List.length_drop, Nm.len, show s.size - (s.size - k) = k by omega]; rfl
    · have HX : Hid (Lx.skip (s.data.toList.drop p) = ([], true)) := by
        show _ = _
        rw [hx.out, List.drop_eq_nil_of_le (by rw [Nm.len]; omega)]; exact Lx.skip_nil
      have hks : k = s.size := by omega
      subst hks
      clear hx
      go_wp2
      go_ret2
      refine ⟨?_, rfl⟩
      rw [HX.out]; rfl
end Go.Proofs.YtfjcnncpmhfbnaaDoor
