/- What the document's own functions on names come to: Has, Reserved, Right, Lower, Upper, Tyvar. -/
import Derived.Test.YtcccmbiocknknaaDoorRight
import Derived.Test.YtcccmbiocknknaaDoorAlive
namespace Go.Proofs.YtcccmbiocknknaaDoor
open Go.RowKit Go.Shelf
set_option linter.unusedVariables false

theorem refLow_any (c : Int) (w : World) : Calls Tryd.prog 40 #[.int .u8 c] w fun e w' => e = .returned (.bool (Nm.low c)) ∧ w' = w := by
  go_enter Tryd.func40, Tryd.ntmps40
  go_wp2
  all_goals go_ret
  all_goals refine ⟨ret_bool ?_, rfl⟩
  all_goals (unfold Nm.low; first | (simp [*]; done) | (simp; omega))

theorem refHigh_any (c : Int) (w : World) : Calls Tryd.prog 41 #[.int .u8 c] w fun e w' => e = .returned (.bool (Nm.high c)) ∧ w' = w := by
  go_enter Tryd.func41, Tryd.ntmps41
  go_wp2
  all_goals go_ret
  all_goals refine ⟨ret_bool ?_, rfl⟩
  all_goals (unfold Nm.high; first | (simp [*]; done) | (simp; omega))

theorem refDigit_any (c : Int) (w : World) : Calls Tryd.prog 42 #[.int .u8 c] w fun e w' => e = .returned (.bool (Nm.dig c)) ∧ w' = w := by
  go_enter Tryd.func42, Tryd.ntmps42
  go_wp2
  all_goals go_ret
  all_goals refine ⟨ret_bool ?_, rfl⟩
  all_goals (unfold Nm.dig; first | (simp [*]; done) | (simp; omega))

/-- Does a list have a text? -/
def Nm.has (xs : List ByteArray) (s : ByteArray) : Bool := xs.any fun x => decide (x = s)
theorem Nm.has_true {xs : List ByteArray} {s : ByteArray} : Nm.has xs s = true ↔ s ∈ xs := by
  unfold Nm.has
  rw [List.any_eq_true]
  constructor
  · rintro ⟨x, hx, h⟩; rw [← of_decide_eq_true h]; exact hx
  · intro h; exact ⟨s, h, decide_eq_true rfl⟩

set_option maxHeartbeats 1000000 in
theorem has_any (v : Value) (xs : List ByteArray) (s : ByteArray) (w : World) (hv : Strs w v xs) (hl : xs.length ≤ maxLen) :
    Calls Tryd.prog 46 #[v, .string s] w fun e w' => e = .returned (.bool (Nm.has xs s)) ∧ w' = w := by
  unfold maxLen at hl
  rcases hv with ⟨b, o, c, rfl, hc⟩ | ⟨rfl, p, c, rfl⟩
  · go_enter Tryd.func46, Tryd.ntmps46
    go_wp2
    go_loop [5] (fun v => ∃ k : Nat, v = .int .i64 k ∧ k ≤ xs.length ∧ Hid (∀ j, j < k → xs[j]? ≠ some s)) (fun v => xs.length - (intOf v).toNat)
    case atStart => exact ⟨0, rfl, Nat.zero_le _, fun j hj => absurd hj (Nat.not_lt_zero _)⟩
    case round =>
      obtain ⟨k, rfl, hk, hall⟩ := hrel
      by_cases hlt : k < xs.length
      · obtain ⟨x, hxk⟩ : ∃ x, xs[k]? = some x := ⟨_, List.getElem?_eq_getElem hlt⟩
        have d := hc k x hxk
        by_cases he : x = s
        · subst he
          have HX : Hid (Nm.has xs x = true) := Nm.has_true.2 (List.mem_of_getElem? hxk)
          have h3 : (x.toList == x.toList) = true := beq_self_eq_true _
          clear hall hc hxk
          go_wp2
          go_ret
          exact ⟨ret_bool HX.out.symm, rfl⟩
        · have HX : Hid (∀ j, j < k + 1 → xs[j]? ≠ some s) := fun j hj => by
            by_cases e : j = k
            · subst e; rw [hxk]; intro e; exact he (Option.some.inj e)
            · exact hall.out j (by omega)
          have h3 : (x.toList == s.toList) = false := by rw [Nm.str_eq, decide_eq_false he]
          clear hall hc hxk he
          go_wp2
          go_round
          case rel => exact ⟨k + 1, by go_num, by omega, HX⟩
          case measure => simp [intOf]; omega
      · have HX : Hid (Nm.has xs s = false) := by
          refine Bool.eq_false_iff.2 fun hh => ?_
          have hm := Nm.has_true.1 hh
          obtain ⟨j, hj⟩ := List.mem_iff_getElem?.1 hm
          have := (List.getElem?_eq_some_iff.1 hj).1
          exact hall.out j (by omega) hj
        clear hall hc
        go_wp2
        go_ret
        exact ⟨ret_bool HX.out.symm, rfl⟩
  · go_enter Tryd.func46, Tryd.ntmps46
    go_wp2
    go_loop [5] (fun v => v = .int .i64 0) (fun v => 0)
    case atStart => rfl
    case round =>
      subst hrel
      go_wp2
      go_ret
      exact ⟨rfl, rfl⟩

theorem Nm.mem_words (s : ByteArray) : Nm.has Nm.wordsB s = Nm.reserved s := by
  unfold Nm.reserved
  rw [Nm.wordsB_eq]
  apply Bool.eq_iff_iff.2
  rw [Nm.has_true, List.contains_iff_mem, List.mem_map]
  constructor
  · rintro ⟨l, hl, rfl⟩; exact hl
  · intro h; exact ⟨_, h, rfl⟩

theorem refReserved_any (s : ByteArray) (w : World) : Calls Tryd.prog 21 #[.string s] w fun e w' => e = .returned (.bool (Nm.reserved s)) ∧ Below w.heap.size w w' := by
  have hst := Strs.new w Nm.wordsB 24 24 rfl
  have H : Hid (Nm.has Nm.wordsB s = Nm.reserved s) := Nm.mem_words s
  go_enter Tryd.func21, Tryd.ntmps21
  go_wp2_with (first | (go_at_call 11; refine (refWords_any _).mono ?_; rintro e w1 ⟨rfl, rfl⟩) | (go_at_call 46; refine (has_any _ _ _ _ hst (by decide)).mono ?_; rintro e w2 ⟨rfl, rfl⟩))
  go_ret
  exact ⟨ret_bool H.out, (Below.refl _ w).alloc (Nat.le_refl _) _⟩

set_option maxHeartbeats 2000000 in
theorem refRight_any (s : ByteArray) (hs : s.size ≤ maxLen) (w : World) : Calls Tryd.prog 13 #[.string s] w fun e w' => e = .returned (.int .i64 (Nm.right s)) ∧ Below w.heap.size w w' := by
  unfold maxLen at hs
  rcases Nat.eq_zero_or_pos s.size with h0 | h0
  · obtain rfl := Nm.empty_of h0
    go_enter Tryd.func13, Tryd.ntmps13
    go_wp2
    go_ret
    exact ⟨rfl, Below.refl _ _⟩
  · have he : ((s.size : Int) == 0) = false := by rw [beq_eq_false_iff_ne]; omega
    cases hl0 : Nm.low (s[0].toNat : Int) with
    | true =>
      have hh0 : True := trivial
      have H : Hid (Nm.spelt s = (s.data.toList.drop 0).all fun b => Nm.body (b.toNat : Int)) := by show _ = _; rw [Nm.spelt_eq0 s h0]; simp [Nm.letter, hl0]
      go_enter Tryd.func13, Tryd.ntmps13
      go_wp2_with (first | (go_at_call 40; refine (refLow_any _ _).mono ?_; rintro e w' ⟨rfl, rfl⟩) | (go_at_call 41; refine (refHigh_any _ _).mono ?_; rintro e w' ⟨rfl, rfl⟩) | (go_at_call 42; refine (refDigit_any _ _).mono ?_; rintro e w' ⟨rfl, rfl⟩))
      go_loop [3] (fun v => ∃ k : Nat, v = .int .i64 k ∧ k ≤ s.size ∧ Hid (Nm.spelt s = (s.data.toList.drop k).all fun b => Nm.body (b.toNat : Int))) (fun v => s.size - (intOf v).toNat)
      case atStart => exact ⟨0, rfl, Nat.zero_le _, H⟩
      case round =>
        obtain ⟨k, rfl, hk, hx⟩ := hrel
        clear H hl0 hh0
        by_cases hlt : k < s.size
        · have hx2 := hx.out
          rw [Nm.all_at s _ k hlt] at hx2
          have hbd : Nm.body (s[k].toNat : Int) = (Nm.low (s[k].toNat : Int) || Nm.high (s[k].toNat : Int) || Nm.dig (s[k].toNat : Int) || decide ((s[k].toNat : Int) = 95)) := rfl
          cases hl : Nm.low (s[k].toNat : Int) with
          | true =>
            have HX : Hid (Nm.spelt s = (s.data.toList.drop (k + 1)).all fun b => Nm.body (b.toNat : Int)) := by show _ = _; rw [hx2]; simp [hbd, hl]
            clear hx hx2 hbd
            go_wp2_with (first | (go_at_call 40; refine (refLow_any _ _).mono ?_; rintro e w' ⟨rfl, rfl⟩) | (go_at_call 41; refine (refHigh_any _ _).mono ?_; rintro e w' ⟨rfl, rfl⟩) | (go_at_call 42; refine (refDigit_any _ _).mono ?_; rintro e w' ⟨rfl, rfl⟩))
            go_round
            case rel => exact ⟨k + 1, by go_num, by omega, HX⟩
            case measure => simp [intOf]; omega
          | false =>
            cases hh : Nm.high (s[k].toNat : Int) with
            | true =>
              have HX : Hid (Nm.spelt s = (s.data.toList.drop (k + 1)).all fun b => Nm.body (b.toNat : Int)) := by show _ = _; rw [hx2]; simp [hbd, hl, hh]
              clear hx hx2 hbd
              go_wp2_with (first | (go_at_call 40; refine (refLow_any _ _).mono ?_; rintro e w' ⟨rfl, rfl⟩) | (go_at_call 41; refine (refHigh_any _ _).mono ?_; rintro e w' ⟨rfl, rfl⟩) | (go_at_call 42; refine (refDigit_any _ _).mono ?_; rintro e w' ⟨rfl, rfl⟩))
              go_round
              case rel => exact ⟨k + 1, by go_num, by omega, HX⟩
              case measure => simp [intOf]; omega
            | false =>
              cases hd : Nm.dig (s[k].toNat : Int) with
              | true =>
                have HX : Hid (Nm.spelt s = (s.data.toList.drop (k + 1)).all fun b => Nm.body (b.toNat : Int)) := by show _ = _; rw [hx2]; simp [hbd, hl, hh, hd]
                clear hx hx2 hbd
                go_wp2_with (first | (go_at_call 40; refine (refLow_any _ _).mono ?_; rintro e w' ⟨rfl, rfl⟩) | (go_at_call 41; refine (refHigh_any _ _).mono ?_; rintro e w' ⟨rfl, rfl⟩) | (go_at_call 42; refine (refDigit_any _ _).mono ?_; rintro e w' ⟨rfl, rfl⟩))
                go_round
                case rel => exact ⟨k + 1, by go_num, by omega, HX⟩
                case measure => simp [intOf]; omega
              | false =>
                by_cases h95 : (s[k].toNat : Int) = 95
                · have h95' : ((s[k].toNat : Int) == 95) = true := by rw [h95]; rfl
                  have HX : Hid (Nm.spelt s = (s.data.toList.drop (k + 1)).all fun b => Nm.body (b.toNat : Int)) := by show _ = _; rw [hx2, hbd, hl, hh, hd, decide_eq_true h95]; rfl
                  clear hx hx2 hbd h95
                  go_wp2_with (first | (go_at_call 40; refine (refLow_any _ _).mono ?_; rintro e w' ⟨rfl, rfl⟩) | (go_at_call 41; refine (refHigh_any _ _).mono ?_; rintro e w' ⟨rfl, rfl⟩) | (go_at_call 42; refine (refDigit_any _ _).mono ?_; rintro e w' ⟨rfl, rfl⟩))
                  go_round
                  case rel => exact ⟨k + 1, by go_num, by omega, HX⟩
                  case measure => simp [intOf]; omega
                · have HX : Hid (Nm.right s = 12) := Nm.right_spelt (by rw [hx2]; simp [hbd, hl, hh, hd, h95])
                  have h95' : ((s[k].toNat : Int) == 95) = false := by rw [beq_eq_false_iff_ne]; exact h95
                  clear hx hx2 hbd h95
                  go_wp2_with (first | (go_at_call 40; refine (refLow_any _ _).mono ?_; rintro e w' ⟨rfl, rfl⟩) | (go_at_call 41; refine (refHigh_any _ _).mono ?_; rintro e w' ⟨rfl, rfl⟩) | (go_at_call 42; refine (refDigit_any _ _).mono ?_; rintro e w' ⟨rfl, rfl⟩))
                  go_ret
                  exact ⟨ret_int HX.out.symm, Below.refl _ _⟩
        · have hsp : Nm.spelt s = true := by rw [hx.out, Nm.all_end s _ k (by omega)]
          clear hx
          by_cases h2 : 32 < s.size
          · have HX : Hid (Nm.right s = 3) := Nm.right_big hsp h2
            clear hsp
            go_wp2_with (first | (go_at_call 40; refine (refLow_any _ _).mono ?_; rintro e w' ⟨rfl, rfl⟩) | (go_at_call 41; refine (refHigh_any _ _).mono ?_; rintro e w' ⟨rfl, rfl⟩) | (go_at_call 42; refine (refDigit_any _ _).mono ?_; rintro e w' ⟨rfl, rfl⟩) | (go_at_call 21; refine (refReserved_any _ _).mono ?_; rintro e w5 ⟨rfl, hb5⟩))
            go_ret
            exact ⟨ret_int HX.out.symm, Below.refl _ _⟩
          · cases h3 : Nm.reserved s with
            | true =>
              have HX : Hid (Nm.right s = 12) := Nm.right_word hsp h2 h3
              clear hsp
              go_wp2_with (first | (go_at_call 40; refine (refLow_any _ _).mono ?_; rintro e w' ⟨rfl, rfl⟩) | (go_at_call 41; refine (refHigh_any _ _).mono ?_; rintro e w' ⟨rfl, rfl⟩) | (go_at_call 42; refine (refDigit_any _ _).mono ?_; rintro e w' ⟨rfl, rfl⟩) | (go_at_call 21; refine (refReserved_any _ _).mono ?_; rintro e w5 ⟨rfl, hb5⟩))
              go_ret
              exact ⟨ret_int HX.out.symm, hb5⟩
            | false =>
              have HX : Hid (Nm.right s = 0) := Nm.right_ok hsp h2 h3
              clear hsp
              go_wp2_with (first | (go_at_call 40; refine (refLow_any _ _).mono ?_; rintro e w' ⟨rfl, rfl⟩) | (go_at_call 41; refine (refHigh_any _ _).mono ?_; rintro e w' ⟨rfl, rfl⟩) | (go_at_call 42; refine (refDigit_any _ _).mono ?_; rintro e w' ⟨rfl, rfl⟩) | (go_at_call 21; refine (refReserved_any _ _).mono ?_; rintro e w5 ⟨rfl, hb5⟩))
              go_ret
              exact ⟨ret_int HX.out.symm, hb5⟩
    | false =>
      cases hh0 : Nm.high (s[0].toNat : Int) with
      | true =>
        have H : Hid (Nm.spelt s = (s.data.toList.drop 0).all fun b => Nm.body (b.toNat : Int)) := by show _ = _; rw [Nm.spelt_eq0 s h0]; simp [Nm.letter, hl0, hh0]
        go_enter Tryd.func13, Tryd.ntmps13
        go_wp2_with (first | (go_at_call 40; refine (refLow_any _ _).mono ?_; rintro e w' ⟨rfl, rfl⟩) | (go_at_call 41; refine (refHigh_any _ _).mono ?_; rintro e w' ⟨rfl, rfl⟩) | (go_at_call 42; refine (refDigit_any _ _).mono ?_; rintro e w' ⟨rfl, rfl⟩))
        go_loop [3] (fun v => ∃ k : Nat, v = .int .i64 k ∧ k ≤ s.size ∧ Hid (Nm.spelt s = (s.data.toList.drop k).all fun b => Nm.body (b.toNat : Int))) (fun v => s.size - (intOf v).toNat)
        case atStart => exact ⟨0, rfl, Nat.zero_le _, H⟩
        case round =>
          obtain ⟨k, rfl, hk, hx⟩ := hrel
          clear H hl0 hh0
          by_cases hlt : k < s.size
          · have hx2 := hx.out
            rw [Nm.all_at s _ k hlt] at hx2
            have hbd : Nm.body (s[k].toNat : Int) = (Nm.low (s[k].toNat : Int) || Nm.high (s[k].toNat : Int) || Nm.dig (s[k].toNat : Int) || decide ((s[k].toNat : Int) = 95)) := rfl
            cases hl : Nm.low (s[k].toNat : Int) with
            | true =>
              have HX : Hid (Nm.spelt s = (s.data.toList.drop (k + 1)).all fun b => Nm.body (b.toNat : Int)) := by show _ = _; rw [hx2]; simp [hbd, hl]
              clear hx hx2 hbd
              go_wp2_with (first | (go_at_call 40; refine (refLow_any _ _).mono ?_; rintro e w' ⟨rfl, rfl⟩) | (go_at_call 41; refine (refHigh_any _ _).mono ?_; rintro e w' ⟨rfl, rfl⟩) | (go_at_call 42; refine (refDigit_any _ _).mono ?_; rintro e w' ⟨rfl, rfl⟩))
              go_round
              case rel => exact ⟨k + 1, by go_num, by omega, HX⟩
              case measure => simp [intOf]; omega
            | false =>
              cases hh : Nm.high (s[k].toNat : Int) with
              | true =>
                have HX : Hid (Nm.spelt s = (s.data.toList.drop (k + 1)).all fun b => Nm.body (b.toNat : Int)) := by show _ = _; rw [hx2]; simp [hbd, hl, hh]
                clear hx hx2 hbd
                go_wp2_with (first | (go_at_call 40; refine (refLow_any _ _).mono ?_; rintro e w' ⟨rfl, rfl⟩) | (go_at_call 41; refine (refHigh_any _ _).mono ?_; rintro e w' ⟨rfl, rfl⟩) | (go_at_call 42; refine (refDigit_any _ _).mono ?_; rintro e w' ⟨rfl, rfl⟩))
                go_round
                case rel => exact ⟨k + 1, by go_num, by omega, HX⟩
                case measure => simp [intOf]; omega
              | false =>
                cases hd : Nm.dig (s[k].toNat : Int) with
                | true =>
                  have HX : Hid (Nm.spelt s = (s.data.toList.drop (k + 1)).all fun b => Nm.body (b.toNat : Int)) := by show _ = _; rw [hx2]; simp [hbd, hl, hh, hd]
                  clear hx hx2 hbd
                  go_wp2_with (first | (go_at_call 40; refine (refLow_any _ _).mono ?_; rintro e w' ⟨rfl, rfl⟩) | (go_at_call 41; refine (refHigh_any _ _).mono ?_; rintro e w' ⟨rfl, rfl⟩) | (go_at_call 42; refine (refDigit_any _ _).mono ?_; rintro e w' ⟨rfl, rfl⟩))
                  go_round
                  case rel => exact ⟨k + 1, by go_num, by omega, HX⟩
                  case measure => simp [intOf]; omega
                | false =>
                  by_cases h95 : (s[k].toNat : Int) = 95
                  · have h95' : ((s[k].toNat : Int) == 95) = true := by rw [h95]; rfl
                    have HX : Hid (Nm.spelt s = (s.data.toList.drop (k + 1)).all fun b => Nm.body (b.toNat : Int)) := by show _ = _; rw [hx2, hbd, hl, hh, hd, decide_eq_true h95]; rfl
                    clear hx hx2 hbd h95
                    go_wp2_with (first | (go_at_call 40; refine (refLow_any _ _).mono ?_; rintro e w' ⟨rfl, rfl⟩) | (go_at_call 41; refine (refHigh_any _ _).mono ?_; rintro e w' ⟨rfl, rfl⟩) | (go_at_call 42; refine (refDigit_any _ _).mono ?_; rintro e w' ⟨rfl, rfl⟩))
                    go_round
                    case rel => exact ⟨k + 1, by go_num, by omega, HX⟩
                    case measure => simp [intOf]; omega
                  · have HX : Hid (Nm.right s = 12) := Nm.right_spelt (by rw [hx2]; simp [hbd, hl, hh, hd, h95])
                    have h95' : ((s[k].toNat : Int) == 95) = false := by rw [beq_eq_false_iff_ne]; exact h95
                    clear hx hx2 hbd h95
                    go_wp2_with (first | (go_at_call 40; refine (refLow_any _ _).mono ?_; rintro e w' ⟨rfl, rfl⟩) | (go_at_call 41; refine (refHigh_any _ _).mono ?_; rintro e w' ⟨rfl, rfl⟩) | (go_at_call 42; refine (refDigit_any _ _).mono ?_; rintro e w' ⟨rfl, rfl⟩))
                    go_ret
                    exact ⟨ret_int HX.out.symm, Below.refl _ _⟩
          · have hsp : Nm.spelt s = true := by rw [hx.out, Nm.all_end s _ k (by omega)]
            clear hx
            by_cases h2 : 32 < s.size
            · have HX : Hid (Nm.right s = 3) := Nm.right_big hsp h2
              clear hsp
              go_wp2_with (first | (go_at_call 40; refine (refLow_any _ _).mono ?_; rintro e w' ⟨rfl, rfl⟩) | (go_at_call 41; refine (refHigh_any _ _).mono ?_; rintro e w' ⟨rfl, rfl⟩) | (go_at_call 42; refine (refDigit_any _ _).mono ?_; rintro e w' ⟨rfl, rfl⟩) | (go_at_call 21; refine (refReserved_any _ _).mono ?_; rintro e w5 ⟨rfl, hb5⟩))
              go_ret
              exact ⟨ret_int HX.out.symm, Below.refl _ _⟩
            · cases h3 : Nm.reserved s with
              | true =>
                have HX : Hid (Nm.right s = 12) := Nm.right_word hsp h2 h3
                clear hsp
                go_wp2_with (first | (go_at_call 40; refine (refLow_any _ _).mono ?_; rintro e w' ⟨rfl, rfl⟩) | (go_at_call 41; refine (refHigh_any _ _).mono ?_; rintro e w' ⟨rfl, rfl⟩) | (go_at_call 42; refine (refDigit_any _ _).mono ?_; rintro e w' ⟨rfl, rfl⟩) | (go_at_call 21; refine (refReserved_any _ _).mono ?_; rintro e w5 ⟨rfl, hb5⟩))
                go_ret
                exact ⟨ret_int HX.out.symm, hb5⟩
              | false =>
                have HX : Hid (Nm.right s = 0) := Nm.right_ok hsp h2 h3
                clear hsp
                go_wp2_with (first | (go_at_call 40; refine (refLow_any _ _).mono ?_; rintro e w' ⟨rfl, rfl⟩) | (go_at_call 41; refine (refHigh_any _ _).mono ?_; rintro e w' ⟨rfl, rfl⟩) | (go_at_call 42; refine (refDigit_any _ _).mono ?_; rintro e w' ⟨rfl, rfl⟩) | (go_at_call 21; refine (refReserved_any _ _).mono ?_; rintro e w5 ⟨rfl, hb5⟩))
                go_ret
                exact ⟨ret_int HX.out.symm, hb5⟩
      | false =>
        have H : Hid (Nm.right s = 12) := Nm.right_spelt (Nm.spelt_head h0 (by simp [Nm.letter, hl0, hh0]))
        go_enter Tryd.func13, Tryd.ntmps13
        go_wp2_with (first | (go_at_call 40; refine (refLow_any _ _).mono ?_; rintro e w' ⟨rfl, rfl⟩) | (go_at_call 41; refine (refHigh_any _ _).mono ?_; rintro e w' ⟨rfl, rfl⟩) | (go_at_call 42; refine (refDigit_any _ _).mono ?_; rintro e w' ⟨rfl, rfl⟩))
        go_ret
        exact ⟨ret_int H.out.symm, Below.refl _ _⟩

theorem ref_lower_any (s : ByteArray) (hs : s.size ≤ maxLen) (w : World) : Calls Tryd.prog 15 #[.string s] w fun e w' => e = .returned (.bool (Nm.lower s)) ∧ Below w.heap.size w w' := by
  by_cases h : Nm.right s = 0
  · have h0 := Nm.spelt_pos (Nm.right_zero h).1
    have hs' := hs
    unfold maxLen at hs'
    have H : Hid (Nm.lower s = Nm.low (s[0].toNat : Int)) := by show _ = _; unfold Nm.lower; rw [Nm.head_eq s h0, decide_eq_true h]; rfl
    have hr : (Nm.right s == 0) = true := by rw [h]; rfl
    clear h
    go_enter Tryd.func15, Tryd.ntmps15
    go_wp2_with (first | (go_at_call 13; refine (refRight_any _ hs _).mono ?_; rintro e w1 ⟨rfl, hb1⟩) | (go_at_call 40; refine (refLow_any _ _).mono ?_; rintro e w' ⟨rfl, rfl⟩))
    go_ret
    exact ⟨ret_bool H.out.symm, hb1⟩
  · have H : Hid (Nm.lower s = false) := by show _ = _; unfold Nm.lower; rw [decide_eq_false h]; rfl
    have hr : (Nm.right s == 0) = false := by rw [beq_eq_false_iff_ne]; exact h
    clear h
    go_enter Tryd.func15, Tryd.ntmps15
    go_wp2_with (first | (go_at_call 13; refine (refRight_any _ hs _).mono ?_; rintro e w1 ⟨rfl, hb1⟩) | (go_at_call 40; refine (refLow_any _ _).mono ?_; rintro e w' ⟨rfl, rfl⟩))
    go_ret
    exact ⟨ret_bool H.out.symm, hb1⟩

theorem ref_upper_any (s : ByteArray) (hs : s.size ≤ maxLen) (w : World) : Calls Tryd.prog 17 #[.string s] w fun e w' => e = .returned (.bool (Nm.upper s)) ∧ Below w.heap.size w w' := by
  by_cases h : Nm.right s = 0
  · have h0 := Nm.spelt_pos (Nm.right_zero h).1
    have hs' := hs
    unfold maxLen at hs'
    have H : Hid (Nm.upper s = Nm.high (s[0].toNat : Int)) := by show _ = _; unfold Nm.upper; rw [Nm.head_eq s h0, decide_eq_true h]; rfl
    have hr : (Nm.right s == 0) = true := by rw [h]; rfl
    clear h
    go_enter Tryd.func17, Tryd.ntmps17
    go_wp2_with (first | (go_at_call 13; refine (refRight_any _ hs _).mono ?_; rintro e w1 ⟨rfl, hb1⟩) | (go_at_call 41; refine (refHigh_any _ _).mono ?_; rintro e w' ⟨rfl, rfl⟩))
    go_ret
    exact ⟨ret_bool H.out.symm, hb1⟩
  · have H : Hid (Nm.upper s = false) := by show _ = _; unfold Nm.upper; rw [decide_eq_false h]; rfl
    have hr : (Nm.right s == 0) = false := by rw [beq_eq_false_iff_ne]; exact h
    clear h
    go_enter Tryd.func17, Tryd.ntmps17
    go_wp2_with (first | (go_at_call 13; refine (refRight_any _ hs _).mono ?_; rintro e w1 ⟨rfl, hb1⟩) | (go_at_call 41; refine (refHigh_any _ _).mono ?_; rintro e w' ⟨rfl, rfl⟩))
    go_ret
    exact ⟨ret_bool H.out.symm, hb1⟩

end Go.Proofs.YtcccmbiocknknaaDoor
