/- What the document's run, number and mark come to. -/
import Derived.Test.YtfjcnncpmhfbnaaDoorRefA
import Derived.Test.YtfjcnncpmhfbnaaDoorLexRead
namespace Go.Proofs.YtfjcnncpmhfbnaaDoor
open Go.RowKit
set_option linter.unusedVariables false

/-- The place behind what goes on from a place. -/
def Lx.runN (s : ByteArray) (K p : Nat) : Nat := p + ((s.data.toList.drop p).takeWhile (Lx.goes K)).length
theorem Lx.runN_on {s : ByteArray} {K k : Nat} (h : k < s.size) (hg : Lx.goes K s[k] = true) : Lx.runN s K k = Lx.runN s K (k + 1) := by
  unfold Lx.runN
  rw [Lx.run_at s K k h, if_pos hg, List.length_cons]; omega
theorem Lx.runN_off {s : ByteArray} {K k : Nat} (h : k < s.size) (hg : Lx.goes K s[k] = false) : Lx.runN s K k = k := by
  unfold Lx.runN
  rw [Lx.run_at s K k h, if_neg (by rw [hg]; simp)]; rfl
theorem Lx.runN_end {s : ByteArray} {K k : Nat} (h : ¬ k < s.size) : Lx.runN s K k = k := by
  unfold Lx.runN
  rw [List.drop_eq_nil_of_le (by rw [Nm.len]; omega)]; rfl
theorem Lx.goes_1 (c : UInt8) : Lx.goes 1 c = (Nm.low (c.toNat : Int) || Nm.high (c.toNat : Int) || Nm.dig (c.toNat : Int) || decide ((c.toNat : Int) = 95)) := rfl
theorem Lx.goes_2 (c : UInt8) : Lx.goes 2 c = Lx.goes 1 c := rfl
theorem Lx.goes_5 (c : UInt8) : Lx.goes 5 c = (Nm.low (c.toNat : Int) || Nm.dig (c.toNat : Int)) := rfl
theorem Lx.goes_4 (c : UInt8) : Lx.goes 4 c = Nm.dig (c.toNat : Int) := rfl

set_option maxHeartbeats 2000000 in
theorem rfRun_wide (s : ByteArray) (p : Nat) (hs : s.size ≤ 4096) (hp : p ≤ s.size) (w : World) : Calls Tryd.prog 37 #[.string s, .int .i64 p, .bool true] w fun e w' => e = .returned (.int .i64 (Lx.runN s 1 p)) ∧ w' = w := by
  go_enter Tryd.func37, Tryd.ntmps37
  go_wp2
  go_loop [1] (fun x => ∃ k : Nat, x = .int .i64 k ∧ p ≤ k ∧ k ≤ s.size ∧ Hid (Lx.runN s 1 p = Lx.runN s 1 k)) (fun x => s.size - (intOf x).toNat)
  case atStart => exact ⟨p, rfl, Nat.le_refl _, hp, rfl⟩
  case round =>
    obtain ⟨k, rfl, hpk, hk, hx⟩ := hrel
    by_cases hlt : k < s.size
    · have hg := Lx.goes_1 s[k]
      have hon := fun h => (hx.out).trans (Lx.runN_on (K := 1) hlt h)
      have hoff := fun h => (hx.out).trans (Lx.runN_off (K := 1) hlt h)
      have hb := Lx.b_lt hlt
      rw [hb] at hg
      clear hx
      cases hl : Nm.low (Lx.b s k) with
      | true =>
        have HX : Hid (Lx.runN s 1 p = Lx.runN s 1 (k + 1)) := hon (by rw [hg, hl]; rfl)
        clear hon hoff hg
        go_wp2_with (go_at_call 35; refine (rfLow_any _ _).mono ?_; rintro e w' ⟨rfl, rfl⟩)
        go_round
        case rel => exact ⟨k + 1, by go_num, by omega, by omega, HX⟩
        case measure => simp [intOf]; omega
      | false =>
        cases hd : Nm.dig (Lx.b s k) with
        | true =>
          have HX : Hid (Lx.runN s 1 p = Lx.runN s 1 (k + 1)) := hon (by rw [hg, hd]; simp)
          clear hon hoff hg
          go_wp2_with (first | (go_at_call 35; refine (rfLow_any _ _).mono ?_; rintro e w' ⟨rfl, rfl⟩) | (go_at_call 39; refine (rfDigit_any _ _).mono ?_; rintro e w' ⟨rfl, rfl⟩))
          go_round
          case rel => exact ⟨k + 1, by go_num, by omega, by omega, HX⟩
          case measure => simp [intOf]; omega
        | false =>
          cases hh : Nm.high (Lx.b s k) with
          | true =>
            have HX : Hid (Lx.runN s 1 p = Lx.runN s 1 (k + 1)) := hon (by rw [hg, hh]; simp)
            clear hon hoff hg
            go_wp2_with (first | (go_at_call 35; refine (rfLow_any _ _).mono ?_; rintro e w' ⟨rfl, rfl⟩) | (go_at_call 39; refine (rfDigit_any _ _).mono ?_; rintro e w' ⟨rfl, rfl⟩) | (go_at_call 36; refine (rfHigh_any _ _).mono ?_; rintro e w' ⟨rfl, rfl⟩))
            go_round
            case rel => exact ⟨k + 1, by go_num, by omega, by omega, HX⟩
            case measure => simp [intOf]; omega
          | false =>
            by_cases h95 : Lx.b s k = 95
            · have HX : Hid (Lx.runN s 1 p = Lx.runN s 1 (k + 1)) := hon (by rw [hg, h95]; simp)
              have h95' : (Lx.b s k == 95) = true := by rw [h95]; rfl
              clear hon hoff hg h95
              go_wp2_with (first | (go_at_call 35; refine (rfLow_any _ _).mono ?_; rintro e w' ⟨rfl, rfl⟩) | (go_at_call 39; refine (rfDigit_any _ _).mono ?_; rintro e w' ⟨rfl, rfl⟩) | (go_at_call 36; refine (rfHigh_any _ _).mono ?_; rintro e w' ⟨rfl, rfl⟩))
              go_round
              case rel => exact ⟨k + 1, by go_num, by omega, by omega, HX⟩
              case measure => simp [intOf]; omega
            · have HX : Hid (Lx.runN s 1 p = k) := hoff (by rw [hg, hl, hd, hh, decide_eq_false h95]; rfl)
              have h95' : (Lx.b s k == 95) = false := by rw [beq_eq_false_iff_ne]; exact h95
              clear hon hoff hg h95
              go_wp2_with (first | (go_at_call 35; refine (rfLow_any _ _).mono ?_; rintro e w' ⟨rfl, rfl⟩) | (go_at_call 39; refine (rfDigit_any _ _).mono ?_; rintro e w' ⟨rfl, rfl⟩) | (go_at_call 36; refine (rfHigh_any _ _).mono ?_; rintro e w' ⟨rfl, rfl⟩))
              go_ret
              exact ⟨ret_int (by rw [HX.out]), rfl⟩
    · have HX : Hid (Lx.runN s 1 p = k) := hx.out.trans (Lx.runN_end hlt)
      clear hx
      go_wp2
      go_ret
      exact ⟨ret_int (by rw [HX.out]), rfl⟩

set_option maxHeartbeats 2000000 in
theorem rfRun_slim (s : ByteArray) (p : Nat) (hs : s.size ≤ 4096) (hp : p ≤ s.size) (w : World) : Calls Tryd.prog 37 #[.string s, .int .i64 p, .bool false] w fun e w' => e = .returned (.int .i64 (Lx.runN s 5 p)) ∧ w' = w := by
  go_enter Tryd.func37, Tryd.ntmps37
  go_wp2
  go_loop [1] (fun x => ∃ k : Nat, x = .int .i64 k ∧ p ≤ k ∧ k ≤ s.size ∧ Hid (Lx.runN s 5 p = Lx.runN s 5 k)) (fun x => s.size - (intOf x).toNat)
  case atStart => exact ⟨p, rfl, Nat.le_refl _, hp, rfl⟩
  case round =>
    obtain ⟨k, rfl, hpk, hk, hx⟩ := hrel
    by_cases hlt : k < s.size
    · have hg := Lx.goes_5 s[k]
      have hon := fun h => (hx.out).trans (Lx.runN_on (K := 5) hlt h)
      have hoff := fun h => (hx.out).trans (Lx.runN_off (K := 5) hlt h)
      have hb := Lx.b_lt hlt
      rw [hb] at hg
      clear hx
      cases hl : Nm.low (Lx.b s k) with
      | true =>
        have HX : Hid (Lx.runN s 5 p = Lx.runN s 5 (k + 1)) := hon (by rw [hg, hl]; rfl)
        clear hon hoff hg
        go_wp2_with (go_at_call 35; refine (rfLow_any _ _).mono ?_; rintro e w' ⟨rfl, rfl⟩)
        go_round
        case rel => exact ⟨k + 1, by go_num, by omega, by omega, HX⟩
        case measure => simp [intOf]; omega
      | false =>
        cases hd : Nm.dig (Lx.b s k) with
        | true =>
          have HX : Hid (Lx.runN s 5 p = Lx.runN s 5 (k + 1)) := hon (by rw [hg, hd]; simp)
          clear hon hoff hg
          go_wp2_with (first | (go_at_call 35; refine (rfLow_any _ _).mono ?_; rintro e w' ⟨rfl, rfl⟩) | (go_at_call 39; refine (rfDigit_any _ _).mono ?_; rintro e w' ⟨rfl, rfl⟩))
          go_round
          case rel => exact ⟨k + 1, by go_num, by omega, by omega, HX⟩
          case measure => simp [intOf]; omega
        | false =>
          have HX : Hid (Lx.runN s 5 p = k) := hoff (by rw [hg, hl, hd]; rfl)
          clear hon hoff hg
          go_wp2_with (first | (go_at_call 35; refine (rfLow_any _ _).mono ?_; rintro e w' ⟨rfl, rfl⟩) | (go_at_call 39; refine (rfDigit_any _ _).mono ?_; rintro e w' ⟨rfl, rfl⟩))
          go_ret
          exact ⟨ret_int (by rw [HX.out]), rfl⟩
    · have HX : Hid (Lx.runN s 5 p = k) := hx.out.trans (Lx.runN_end hlt)
      clear hx
      go_wp2
      go_ret
      exact ⟨ret_int (by rw [HX.out]), rfl⟩

/-- What is told of digits: their number, or that it is too great. -/
def Lx.numV (l : List UInt8) : Value := if Lx.num 0 l ≤ 9223372036854775807 then .tuple #[.int .i64 (Lx.num 0 l : Int), .bool true] else .tuple #[.int .i64 0, .bool false]

set_option maxHeartbeats 2000000 in
theorem rfNumber_any (s : ByteArray) (hs : s.size ≤ 4096) (hd : (s.data.toList.all fun c => Nm.dig (c.toNat : Int)) = true) (w : World) : Calls Tryd.prog 40 #[.string s] w fun e w' => e = .returned (Lx.numV s.data.toList) ∧ w' = w := by
  have HD : Hid (∀ k (h : k < s.size), 48 ≤ s[k].toNat ∧ s[k].toNat ≤ 57) := fun k h => by
    have := List.all_eq_true.1 hd s[k] (List.mem_of_mem_drop (i := k) (by rw [Nm.drop_cons s k h]; exact List.mem_cons_self))
    unfold Nm.dig at this; simp at this; omega
  clear hd
  go_enter Tryd.func40, Tryd.ntmps40
  go_wp2
  go_loop [4, 5] (fun x y => ∃ v k : Nat, x = .int .u64 v ∧ y = .int .i64 k ∧ k ≤ s.size ∧ v ≤ 9223372036854775807 ∧ Hid (Lx.num 0 s.data.toList = Lx.num v (s.data.toList.drop k))) (fun _ y => s.size - (intOf y).toNat)
  case atStart => exact ⟨0, 0, rfl, rfl, Nat.zero_le _, by decide, rfl⟩
  case round =>
    obtain ⟨v, k, rfl, rfl, hk, hv, hx⟩ := hrel
    by_cases hlt : k < s.size
    · have h1 := HD.out k hlt
      obtain ⟨d, hdd⟩ : ∃ d : Nat, s[k].toNat = d + 48 := ⟨s[k].toNat - 48, by omega⟩
      have hd9 : d ≤ 9 := by omega
      have hb : (s[k].toNat : Int) = (d : Int) + 48 := by omega
      have hx2 := hx.out
      rw [Nm.drop_cons s k hlt] at hx2
      have hx3 : Lx.num 0 s.data.toList = Lx.num (10 * v + d) (s.data.toList.drop (k + 1)) := by
        rw [hx2]; show Lx.num (10 * v + (s[k].toNat - 48)) _ = _; rw [hdd, Nat.add_sub_cancel]
      have hw1 : IntKind.u8.wrap ((d : Int) + 48 - 48) = (d : Int) := by simp [IntKind.wrap, IntKind.bits, IntKind.signed]; omega
      clear hx hx2 h1 hdd HD
      by_cases hc : 10 * v + d ≤ 9223372036854775807
      · have HX : Hid (Lx.num 0 s.data.toList = Lx.num (10 * v + d) (s.data.toList.drop (k + 1))) := hx3
        clear hx3
        go_wp2
        go_round
        case rel => exact ⟨10 * v + d, k + 1, by go_num, by go_num, by omega, hc, HX⟩
        case measure => simp [intOf]; omega
      · have HX : Hid (Lx.numV s.data.toList = .tuple #[.int .i64 0, .bool false]) := by
          show _ = _
          unfold Lx.numV
          have := Lx.num_ge (s.data.toList.drop (k + 1)) (10 * v + d)
          rw [if_neg (by omega)]
        clear hx3
        go_wp2
        go_ret2
        exact ⟨by rw [HX.out]; rfl, rfl⟩
    · have HX : Hid (Lx.numV s.data.toList = .tuple #[.int .i64 (v : Int), .bool true]) := by
        show _ = _
        have := hx.out
        rw [List.drop_eq_nil_of_le (by rw [Nm.len]; omega)] at this
        unfold Lx.numV
        rw [this]; exact if_pos hv
      clear hx HD
      go_wp2
      go_ret2
      exact ⟨by rw [HX.out]; first | rfl | go_num, rfl⟩
end Go.Proofs.YtfjcnncpmhfbnaaDoor
