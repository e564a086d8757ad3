/- What the program's remark and skip come to. -/
import Derived.WalkMore
import Derived.Test.YtfjcnncpmhfbnaaDoorLexLeaf
import Derived.Test.YtfjcnncpmhfbnaaDoorLexQ
namespace Go.Proofs.YtfjcnncpmhfbnaaDoor
open Go.RowKit
set_option linter.unusedVariables false

theorem Lx.two_eq (s : ByteArray) (k : Nat) (h : k + 1 < s.size) (x y : Nat) (hx : x < 256) (hy : y < 256) : ((s.extract k (k + 2)).toList == [UInt8.ofNat x, UInt8.ofNat y]) = (decide (Lx.b s k = x) && decide (Lx.b s (k + 1) = y)) := by
  have h0 : k < s.size := by omega
  have e : (s.extract k (k + 2)).toList = [s[k], s[k + 1]] := by
    rw [Lib.toList_data, ByteArray.data_extract, Array.toList_extract, List.extract_eq_take_drop, Nm.drop_cons s k h0, Nm.drop_cons s (k + 1) h, show k + 2 - k = 2 by omega]
    rfl
  rw [e, ← Lx.b_lt h0, ← Lx.b_lt h, Bool.eq_iff_iff]
  have a1 := Lx.u8 s[k] x hx
  have a2 := Lx.u8 s[k + 1] y hy
  simp [a1, a2]
def Lx.remN (s : ByteArray) : Nat := match Lx.rem s.data.toList 0 with
  | none => 0
  | some r => s.size - r.length

set_option maxHeartbeats 1000000 in
theorem lxRemark_any (s : ByteArray) (ho : Lx.opens s.data.toList = true) (hs : s.size ≤ 4096) (w : World) : Calls Tryd.prog 27 #[.string s] w fun e w' => e = .returned (.int .i64 (Lx.remN s)) ∧ w' = w := by
  have ho2 : Lx.b s 0 = 40 ∧ Lx.b s 1 = 42 := by
    have := Lx.opens_at s 0
    rw [List.drop_zero, ho] at this
    simpa using this.symm
  have h12 : 1 < s.size := by
    rcases Nat.lt_or_ge 1 s.size with h | h
    · exact h
    · have := ho2.2; rw [Lx.b_ge (by omega)] at this; omega
  have hn0 : Hid (∀ k d, Lx.rem s.data.toList 0 = Lx.rem (s.data.toList.drop k) d → s.size ≤ k + 1 → Lx.remN s = 0) := by
    intro k d h h2
    unfold Lx.remN; rw [h, Lx.rem_end s k d h2]
  go_enter Tryd.func27, Tryd.ntmps27
  go_wp2
  go_step3
  go_wp2
  go_step3
  go_wp2
  go_loop [3, 4, 5] (fun u v x => ∃ k d : Nat, u = .int .i64 0 ∧ v = .int .i64 d ∧ x = .int .i64 k ∧ k ≤ s.size ∧ d ≤ k ∧ (k = 0 ∨ 1 ≤ d) ∧ Hid (Lx.rem s.data.toList 0 = Lx.rem (s.data.toList.drop k) d)) (fun u v x => s.size - (intOf x).toNat)
  case atStart => exact ⟨0, 0, rfl, rfl, rfl, Nat.zero_le _, Nat.zero_le _, .inl rfl, rfl⟩
  case round =>
    obtain ⟨k, d, rfl, rfl, rfl, hk, hdk, hd, hx⟩ := hrel
    by_cases hlt : k + 1 < s.size
    · have hx2 := hx.out
      rw [Lx.rem_at s k d hlt] at hx2
      have t1 := Lx.two_eq s k hlt 40 42 (by decide) (by decide)
      have t2 := Lx.two_eq s k hlt 42 41 (by decide) (by decide)
      by_cases c1 : Lx.b s k = 40 ∧ Lx.b s (k + 1) = 42
      · rw [if_pos c1] at hx2
        have HX : Hid (Lx.rem s.data.toList 0 = Lx.rem (s.data.toList.drop (k + 2)) (d + 1)) := hx2
        have t3 : ((s.extract k (k + 2)).toList == [40, 42]) = true := by rw [show ((s.extract k (k + 2)).toList == [40, 42]) = _ from t1, c1.1, c1.2]; rfl
        clear hx hx2 t1 t2 c1 hn0 ho2 ho
        go_wp2
        go_round
        case rel => exact ⟨k + 2, d + 1, rfl, by go_num, by go_num, by omega, by omega, by omega, HX⟩
        case measure => simp [intOf]; omega
      · have t3 : ((s.extract k (k + 2)).toList == [40, 42]) = false := by
          rw [show ((s.extract k (k + 2)).toList == [40, 42]) = _ from t1]
          cases h : (decide (Lx.b s k = ((40 : Nat) : Int)) && decide (Lx.b s (k + 1) = ((42 : Nat) : Int))) with
          | false => rfl
          | true => exact absurd (by simpa using h) c1
        rw [if_neg c1] at hx2
        by_cases c2 : Lx.b s k = 42 ∧ Lx.b s (k + 1) = 41
        · have t4 : ((s.extract k (k + 2)).toList == [42, 41]) = true := by rw [show ((s.extract k (k + 2)).toList == [42, 41]) = _ from t2, c2.1, c2.2]; rfl
          rw [if_pos c2] at hx2
          have hd1 : 1 ≤ d := by
            rcases hd with rfl | hd
            · exact absurd ho2 c1
            · exact hd
          by_cases hd2 : d ≤ 1
          · rw [if_pos hd2] at hx2
            obtain rfl : d = 1 := by omega
            have HX : Hid (Lx.remN s = k + 2) := by
              show _ = _; unfold Lx.remN; rw [hx2]
              show s.size - (s.data.toList.drop (k + 2)).length = _
              rw [List.length_drop, Nm.len]; omega
            clear hx hx2 t1 t2 c1 c2 hn0 ho2 ho hd hd1 hd2
            go_wp2
            go_ret
            exact ⟨ret_int (by rw [HX.out]; go_num), rfl⟩
          · rw [if_neg hd2] at hx2
            have HX : Hid (Lx.rem s.data.toList 0 = Lx.rem (s.data.toList.drop (k + 2)) (d - 1)) := hx2
            have hd3 : (d : Int) - 1 = ((d - 1 : Nat) : Int) := by omega
            have hd4 : 1 ≤ d - 1 := by omega
            have hd5 : d - 1 ≤ k := by omega
            clear hx hx2 t1 t2 c1 c2 hn0 ho2 ho hd hd1 hd2
            generalize d - 1 = r at *
            go_wp2
            go_round
            case rel => exact ⟨k + 2, r, rfl, by rw [← hd3], by go_num, by omega, by omega, by omega, HX⟩
            case measure => simp [intOf]; omega
        · have t4 : ((s.extract k (k + 2)).toList == [42, 41]) = false := by
            rw [show ((s.extract k (k + 2)).toList == [42, 41]) = _ from t2]
            cases h : (decide (Lx.b s k = ((42 : Nat) : Int)) && decide (Lx.b s (k + 1) = ((41 : Nat) : Int))) with
            | false => rfl
            | true => exact absurd (by simpa using h) c2
          rw [if_neg c2] at hx2
          have HX : Hid (Lx.rem s.data.toList 0 = Lx.rem (s.data.toList.drop (k + 1)) d) := hx2
          have hd1 : 1 ≤ d := by
            rcases hd with rfl | hd
            · exact absurd ho2 c1
            · exact hd
          clear hx hx2 t1 t2 c1 c2 hn0 ho2 ho hd
          go_wp2
          go_round
          case rel => exact ⟨k + 1, d, rfl, rfl, by go_num, by omega, by omega, by omega, HX⟩
          case measure => simp [intOf]; omega
    · have HX : Hid (Lx.remN s = 0) := hn0.out k d hx.out (by omega)
      clear hn0 hx ho2 ho
      go_wp2
      try rw [Exit.noGoto_ret]
      go_ret
      exact ⟨ret_int (by rw [HX.out]; rfl), rfl⟩

theorem lxPrefix0_any (s : ByteArray) (hs : s.size ≤ maxLen) (w : World) : Calls Tryd.prog 45 #[.string s, .string ⟨#[40, 42]⟩] w fun e w' => e = .returned (.bool (Lx.opens s.data.toList)) ∧ w' = w := by
  unfold maxLen at hs
  have ho := Lx.opens_at s 0
  rw [List.drop_zero] at ho
  by_cases h1 : 1 < s.size
  · have t := Lx.two_eq s 0 (by omega) 40 42 (by decide) (by decide)
    have H : Hid (Lx.opens s.data.toList = ((s.extract 0 2).toList == [40, 42])) := by
      show _ = _; rw [ho]; exact t.symm
    clear ho t
    have h2 : 2 ≤ s.size := by omega
    cases hc : ((s.extract 0 2).toList == [40, 42]) with
    | true =>
      go_enter Tryd.func45, Tryd.ntmps45
      go_wp2
      go_ret
      exact ⟨ret_bool (by rw [H.out]; exact hc.symm), rfl⟩
    | false =>
      go_enter Tryd.func45, Tryd.ntmps45
      go_wp2
      go_ret
      exact ⟨ret_bool (by rw [H.out]; exact hc.symm), rfl⟩
  · have H : Hid (Lx.opens s.data.toList = false) := by show _ = _; rw [ho, Lx.b_ge (k := 0 + 1) (by omega)]; simp
    clear ho
    go_enter Tryd.func45, Tryd.ntmps45
    go_wp2
    go_ret
    exact ⟨ret_bool H.out.symm, rfl⟩

theorem lxPrefix_any (s : ByteArray) (hs : s.size ≤ maxLen) (w : World) : Calls Tryd.prog 26 #[.string s, .string ⟨#[40, 42]⟩] w fun e w' => e = .returned (.bool (Lx.opens s.data.toList)) ∧ w' = w := by
  go_enter Tryd.func26, Tryd.ntmps26
  go_wp2_with (go_at_call 45; refine (lxPrefix0_any _ hs _).mono ?_; rintro e w' ⟨rfl, rfl⟩)
  go_ret
  exact ⟨rfl, rfl⟩

theorem Lx.rem_drop {l r : List UInt8} {d : Nat} (h : Lx.rem l d = some r) : r = l.drop (l.length - r.length) := by
  obtain ⟨q, e, -, -⟩ := Lx.rem_cut l d r h
  have : l.length - r.length = q.length := by rw [e, List.length_append]; omega
  rw [this, e, List.drop_left]

set_option maxHeartbeats 1000000 in
theorem lxSkip_any (s : ByteArray) (hs : s.size ≤ 4096) (w : World) : Calls Tryd.prog 18 #[.string s] w fun e w' => e = .returned (.tuple #[.int .i64 ((s.size - (Lx.skip s.data.toList).1.length : Nat) : Int), .bool (Lx.skip s.data.toList).2]) ∧ w' = w := by
  go_enter Tryd.func18, Tryd.ntmps18
  go_wp2
  go_loop [4] (fun x => ∃ k : Nat, x = .int .i64 k ∧ k ≤ s.size ∧ Hid (Lx.skip s.data.toList = Lx.skip (s.data.toList.drop k))) (fun x => s.size - (intOf x).toNat)
  case atStart => exact ⟨0, rfl, Nat.zero_le _, rfl⟩
  case round =>
    obtain ⟨k, rfl, hk, hx⟩ := hrel
    by_cases hlt : k < s.size
    · have hx2 := hx.out
      rw [Lx.skip_at s k hlt] at hx2
      have hb := Lx.b_lt hlt
      cases hbl : Lx.blank (Lx.b s k) with
      | true =>
        rw [if_pos hbl] at hx2
        have HX : Hid (Lx.skip s.data.toList = Lx.skip (s.data.toList.drop (k + 1))) := hx2
        clear hx hx2
        go_wp2_with (go_at_call 25; refine (lxBlank_any _ _).mono ?_; rintro e w' ⟨rfl, rfl⟩)
        go_round
        case rel => exact ⟨k + 1, by go_num, by omega, HX⟩
        case measure => simp [intOf]; omega
      | false =>
        rw [if_neg (by rw [hbl]; simp), ← Lx.opens_at] at hx2
        have hsz := Lx.rest_size s k
        have hso : Lx.opens (s.extract k s.size).data.toList = Lx.opens (s.data.toList.drop k) := by rw [Lx.rest]
        have hs4 : (s.extract k s.size).size ≤ 4096 := by rw [hsz]; omega
        have hsm : (s.extract k s.size).size ≤ maxLen := by rw [hsz]; unfold maxLen; omega
        cases ho : Lx.opens (s.data.toList.drop k) with
        | false =>
          rw [if_neg (by rw [ho]; simp)] at hx2
          have HX : Hid (Lx.skip s.data.toList = (s.data.toList.drop k, true)) := hx2
          rw [ho] at hso
          clear hx hx2 ho hsz
          go_wp2_with (first | (go_at_call 25; refine (lxBlank_any _ _).mono ?_; rintro e w' ⟨rfl, rfl⟩) | (go_at_call 26; refine (lxPrefix_any _ hsm _).mono ?_; rw [hso]; rintro e w' ⟨rfl, rfl⟩))
          go_ret2
          refine ⟨?_, rfl⟩
          rw [HX.out]
          show _ = Ending.returned (.tuple #[.int .i64 ((s.size - (s.data.toList.drop k).length : Nat) : Int), .bool true])
          rw [List.length_drop, Nm.len, show s.size - (s.size - k) = k by omega]; rfl
        | true =>
          rw [if_pos ho] at hx2
          rw [ho] at hso
          cases hR : Lx.rem (s.data.toList.drop k) 0 with
          | none =>
            rw [hR] at hx2
            have HX : Hid (Lx.skip s.data.toList = (s.data.toList.drop k, false)) := hx2
            have hn : Lx.remN (s.extract k s.size) = 0 := by unfold Lx.remN; rw [Lx.rest, hR]
            clear hx hx2 ho hsz hR
            go_wp2_with (first | (go_at_call 25; refine (lxBlank_any _ _).mono ?_; rintro e w' ⟨rfl, rfl⟩) | (go_at_call 26; refine (lxPrefix_any _ hsm _).mono ?_; rw [hso]; rintro e w' ⟨rfl, rfl⟩) | (go_at_call 27; refine (lxRemark_any _ hso hs4 _).mono ?_; rw [hn]; rintro e w' ⟨rfl, rfl⟩))
            go_ret2
            refine ⟨?_, rfl⟩
            rw [HX.out]
            show _ = Ending.returned (.tuple #[.int .i64 ((s.size - (s.data.toList.drop k).length : Nat) : Int), .bool false])
            rw [List.length_drop, Nm.len, show s.size - (s.size - k) = k by omega]; rfl
          | some r =>
            rw [hR] at hx2
            have hlen := Lx.rem_lt _ _ _ hR
            rw [List.length_drop, Nm.len] at hlen
            have hr := Lx.rem_drop hR
            rw [List.length_drop, Nm.len, List.drop_drop, show k + (s.size - k - r.length) = s.size - r.length by omega] at hr
            have hn : Lx.remN (s.extract k s.size) = s.size - r.length - k := by unfold Lx.remN; rw [Lx.rest, hR]; show _ - r.length = _; rw [hsz]; omega
            have HX : Hid (Lx.skip s.data.toList = Lx.skip (s.data.toList.drop (s.size - r.length))) := by show _ = _; rw [← hr]; exact hx2
            have hj1 : k + 2 ≤ s.size - r.length := by omega
            have hj2 : s.size - r.length ≤ s.size := by omega
            clear hx hx2 ho hsz hR hr hlen
            generalize s.size - r.length = j at *
            have hj3 : ¬ (((j - k : Nat) : Int) = 0) := by omega
            go_wp2_with (first | (go_at_call 25; refine (lxBlank_any _ _).mono ?_; rintro e w' ⟨rfl, rfl⟩) | (go_at_call 26; refine (lxPrefix_any _ hsm _).mono ?_; rw [hso]; rintro e w' ⟨rfl, rfl⟩) | (go_at_call 27; refine (lxRemark_any _ hso hs4 _).mono ?_; rw [hn]; rintro e w' ⟨rfl, rfl⟩))
            go_round
            case rel => exact ⟨j, by go_num, hj2, HX⟩
            case measure => simp [intOf]; omega
    · have HX : Hid (Lx.skip s.data.toList = ([], true)) := by
        show _ = _
        rw [hx.out, List.drop_eq_nil_of_le (by rw [Nm.len]; omega)]; exact Lx.skip_nil
      clear hx
      go_wp2
      go_ret2
      refine ⟨?_, rfl⟩
      rw [HX.out]; rfl
end Go.Proofs.YtfjcnncpmhfbnaaDoor
