/- What Path comes to. -/
import Derived.Test.YtgiegjghldhppabGreatLists
import Derived.Test.YtgiegjghldhppabGreatRight
namespace Go.Proofs.YtgiegjghldhppabGreat
open Go.RowKit
set_option linter.unusedVariables false

def Nm.pathL : List ByteArray → Int
  | [] => 0
  | x :: r => if Nm.right x ≠ 0 then Nm.right x else if r ≠ [] ∧ Nm.high (Nm.head x) = false then 12 else Nm.pathL r
def Nm.path (xs : List ByteArray) : Int := if xs.length = 0 then 1 else if 8 < xs.length then 3 else Nm.pathL xs

theorem Nm.drop_at {α : Type} {xs : List α} {k : Nat} {x : α} (h : xs[k]? = some x) : xs.drop k = x :: xs.drop (k + 1) := by
  obtain ⟨h1, h2⟩ := List.getElem?_eq_some_iff.1 h
  rw [List.drop_eq_getElem_cons h1, h2]

set_option maxHeartbeats 1000000 in
theorem path_any (v : Value) (xs : List ByteArray) (w : World) (hv : Strs w v xs) (hx : ∀ x, x ∈ xs → x.size ≤ maxLen) (hl : xs.length ≤ maxLen) :
    Calls Tryz.prog 103 #[v] w fun e w' => e = .returned (.int .i64 (Nm.path xs)) ∧ w' = w := by
  unfold maxLen at hl
  by_cases h0 : xs.length = 0
  · obtain ⟨p1, c1, rfl⟩ : ∃ p1 c1, v = .slice p1 0 c1 := by
      rcases hv with ⟨b2, o2, c2, rfl, hc2⟩ | ⟨rfl, p, c, rfl⟩
      · exact ⟨_, _, by rw [h0]⟩
      · exact ⟨_, _, rfl⟩
    have H : Hid (Nm.path xs = 1) := by show _ = _; unfold Nm.path; rw [if_pos h0]
    clear hx hv
    go_enter Tryz.func103, Tryz.ntmps103
    go_wp2
    go_ret
    exact ⟨ret_int H.out.symm, rfl⟩
  · obtain ⟨b, o, c, rfl, hc⟩ : ∃ b o c, v = .slice (some ⟨b, o, none⟩) xs.length c ∧ ∀ (j : Nat) x, xs[j]? = some x → w.cell? ⟨b, o + j, none⟩ = some (.string x) := by
      rcases hv with h | ⟨rfl, _⟩
      · exact h
      · exact absurd rfl h0
    have h0' : ((xs.length : Int) == 0) = false := by rw [beq_eq_false_iff_ne]; omega
    by_cases h8 : 8 < xs.length
    · have H : Hid (Nm.path xs = 3) := by show _ = _; unfold Nm.path; rw [if_neg h0, if_pos h8]
      clear hx hc h0
      go_enter Tryz.func103, Tryz.ntmps103
      go_wp2
      go_ret
      exact ⟨ret_int H.out.symm, rfl⟩
    · have H : Hid (Nm.path xs = Nm.pathL (xs.drop 0)) := by show _ = _; unfold Nm.path; rw [if_neg h0, if_neg h8]; rfl
      go_enter Tryz.func103, Tryz.ntmps103
      go_wp2
      go_loop [20] (fun v => ∃ k : Nat, v = .int .i64 k ∧ k ≤ xs.length ∧ Hid (Nm.path xs = Nm.pathL (xs.drop k))) (fun v => xs.length - (intOf v).toNat)
      case atStart => exact ⟨0, rfl, Nat.zero_le _, H⟩
      case round =>
        obtain ⟨k, rfl, hk, hp⟩ := hrel
        clear H
        by_cases hlt : k < xs.length
        · obtain ⟨x, hxk⟩ : ∃ x, xs[k]? = some x := ⟨_, List.getElem?_eq_getElem hlt⟩
          have hxm : x.size ≤ maxLen := hx x (List.mem_of_getElem? hxk)
          have d := hc k x hxk
          have hp2 := hp.out
          rw [Nm.drop_at hxk, Nm.pathL] at hp2
          by_cases hr : Nm.right x = 0
          · have hpos := Nm.spelt_pos (Nm.right_zero hr).1
            have hhd := Nm.head_eq x hpos
            have hr' : (Nm.right x == 0) = true := by rw [hr]; rfl
            rw [if_neg (by simpa using hr), hhd] at hp2
            by_cases hla : k + 1 < xs.length
            · have hne : xs.drop (k + 1) ≠ [] := by intro e; have := congrArg List.length e; simp at this; omega
              cases hh : Nm.high (x[0].toNat : Int) with
              | true =>
                have HX : Hid (Nm.path xs = Nm.pathL (xs.drop (k + 1))) := by show _ = _; rw [hp2, if_neg (by simp [hh])]
                clear hp hp2 hc hx hne hxk hhd hr h0
                go_wp2_with (first | (go_at_call 99; refine (right_any _ hxm _).mono ?_; rintro e w' ⟨rfl, rfl⟩) | (go_at_call 101; refine (capital_any _ _).mono ?_; rintro e w' ⟨rfl, rfl⟩))
                go_round
                case rel => exact ⟨k + 1, by go_num, by omega, HX⟩
                case measure => simp [intOf]; omega
              | false =>
                have HX : Hid (Nm.path xs = 12) := by show _ = _; rw [hp2, if_pos ⟨hne, hh⟩]
                clear hp hp2 hc hx hne hxk hhd hr h0
                go_wp2_with (first | (go_at_call 99; refine (right_any _ hxm _).mono ?_; rintro e w' ⟨rfl, rfl⟩) | (go_at_call 101; refine (capital_any _ _).mono ?_; rintro e w' ⟨rfl, rfl⟩))
                go_ret
                exact ⟨ret_int HX.out.symm, rfl⟩
            · have he : xs.drop (k + 1) = [] := List.drop_eq_nil_of_le (by omega)
              have HX : Hid (Nm.path xs = Nm.pathL (xs.drop (k + 1))) := by show _ = _; rw [hp2, if_neg (by simp [he])]
              have hlast : ¬ ((k : Int) < (xs.length : Int) - 1) := by omega
              clear hp hp2 hc hx hxk hhd hr h0 he
              go_wp2_with (go_at_call 99; refine (right_any _ hxm _).mono ?_; rintro e w' ⟨rfl, rfl⟩)
              go_round
              case rel => exact ⟨k + 1, by go_num, by omega, HX⟩
              case measure => simp [intOf]; omega
          · have HX : Hid (Nm.path xs = Nm.right x) := by show _ = _; rw [hp2, if_pos hr]
            have hr' : (Nm.right x == 0) = false := by rw [beq_eq_false_iff_ne]; exact hr
            clear hp hp2 hc hx hxk hr h0
            go_wp2_with (go_at_call 99; refine (right_any _ hxm _).mono ?_; rintro e w' ⟨rfl, rfl⟩)
            go_ret
            exact ⟨ret_int HX.out.symm, rfl⟩
        · have HX : Hid (Nm.path xs = 0) := by show _ = _; rw [hp.out, List.drop_eq_nil_of_le (by omega)]; rfl
          clear hp hc hx h0
          go_wp2
          go_ret
          exact ⟨ret_int HX.out.symm, rfl⟩
end Go.Proofs.YtgiegjghldhppabGreat
