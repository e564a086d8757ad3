/- What the document's Lex comes to: the tokens of a text, or the first place where it has none. -/
import Derived.Test.YtfjcnncpmhfbnaaDoorRefE
import Derived.Test.YtfjcnncpmhfbnaaDoorLexLex
namespace Go.Proofs.YtfjcnncpmhfbnaaDoor
open Go.RowKit
set_option linter.unusedVariables false

set_option maxHeartbeats 2000000 in
theorem rfNext_dig (s : ByteArray) (p : Nat) (hp : p < s.size) (hs : s.size ≤ 4096) (hl : Nm.low (Lx.b s p) = false) (hh : Nm.high (Lx.b s p) = false) (hdg : Nm.dig (Lx.b s p) = true) (w : World) :
    Calls Tryd.prog 21 #[.string s, .int .i64 p] w fun e w' => NextAns (Lx.next (s.data.toList.drop p)) ⟨(Lx.text (s.data.toList.drop p)).toArray⟩ p e ∧ Below w.heap.size w w' := by
  have hb := Lx.b_lt hp
  have hq2 : (Lx.b s p == 39) = false := by rw [beq_eq_false_iff_ne]; intro h; rw [h] at hdg; cases hdg
  have hB : Lx.begin (s.data.toList.drop p) = (4, 1) := by rw [Lx.begin_at s p hp]; unfold Lx.beginI; rw [if_neg (by rw [hl]; simp), if_neg (by rw [hh]; simp), if_pos hdg]
  obtain ⟨j, hj⟩ : ∃ j, Lx.runN s 4 (p + 1) = j := ⟨_, rfl⟩
  have hj0 : Hid (Lx.runN s 4 p = j) := by show _ = _; rw [Lx.runN_on (K := 4) hp (by rw [Lx.goes_4, hb]; exact hdg)]; exact hj
  obtain ⟨hj1, hj2⟩ := (Lx.text_run s p hB hj).resolve_right (by omega)
  have hT := Lx.text_cut s p (by omega) hB hj
  have hTb : (⟨(Lx.text (s.data.toList.drop p)).toArray⟩ : ByteArray) = s.extract p j := by rw [hT, Lx.cut_bytes]
  have hTl : (s.extract p j).data.toList = Lx.text (s.data.toList.drop p) := by rw [← hTb]
  rw [hTb]
  have hsz : (s.extract p j).size ≤ 4096 := by rw [ByteArray.size_extract]; omega
  have hnum := rfNumber_any (s.extract p j) hsz (by rw [hTl]; exact (Lx.text_dig hB).1)
  have hnx := Lx.next_int (l := s.data.toList.drop p) (by rw [hB])
  rw [hTl] at hnum
  unfold Lx.numV at hnum
  by_cases hc : Lx.num 0 (Lx.text (s.data.toList.drop p)) ≤ 9223372036854775807
  · rw [if_pos hc] at hnum hnx
    have HN : Hid (Lx.next (s.data.toList.drop p) = .good 4 (Lx.num 0 (Lx.text (s.data.toList.drop p)))) := hnx
    generalize Lx.num 0 (Lx.text (s.data.toList.drop p)) = n at *
    clear hnx hTl hTb hT hB hj hc
    go_enter Tryd.func21, Tryd.ntmps21
    go_wp2_with (first | (go_at_call 35; refine (rfLow_any _ _).mono ?_; rintro e w1 ⟨rfl, hw1⟩; rw [hw1]; clear hw1 w1) | (go_at_call 36; refine (rfHigh_any _ _).mono ?_; rintro e w1 ⟨rfl, hw1⟩; rw [hw1]; clear hw1 w1) | (go_at_call 39; refine (rfDigit_any _ _).mono ?_; rintro e w1 ⟨rfl, hw1⟩; rw [hw1]; clear hw1 w1))
    go_loop [7] (fun x => ∃ k : Nat, x = .int .i64 k ∧ p ≤ k ∧ k ≤ s.size ∧ Hid (Lx.runN s 4 k = j)) (fun x => s.size - (intOf x).toNat)
    case atStart => exact ⟨p, rfl, Nat.le_refl _, by omega, hj0⟩
    case round =>
      obtain ⟨k, rfl, hpk, hk, hx⟩ := hrel
      by_cases hlt : k < s.size
      · have hbk := Lx.b_lt hlt
        cases hg : Nm.dig (Lx.b s k) with
        | true =>
          have HX : Hid (Lx.runN s 4 (k + 1) = j) := by show _ = _; rw [← Lx.runN_on (K := 4) hlt (by rw [Lx.goes_4, hbk]; exact hg)]; exact hx
          clear hx hj0
          go_wp2_with (go_at_call 39; refine (rfDigit_any _ _).mono ?_; rintro e w1 ⟨rfl, hw1⟩; rw [hw1]; clear hw1 w1)
          go_round
          case rel => exact ⟨k + 1, by go_num, by omega, by omega, HX⟩
          case measure => simp [intOf]; omega
        | false =>
          have hkj : k = j := by rw [← hx.out, Lx.runN_off (K := 4) hlt (by rw [Lx.goes_4, hbk]; exact hg)]
          subst hkj
          clear hx hj0
          go_wp2_with (first | (go_at_call 39; refine (rfDigit_any _ _).mono ?_; rintro e w1 ⟨rfl, hw1⟩; rw [hw1]; clear hw1 w1) | (go_at_call 40; refine (hnum _).mono ?_; rintro e w1 ⟨rfl, hw1⟩; rw [hw1]; clear hw1 w1))
          refine bodyPost_ret (v := .tuple #[.agg #[.int .i64 4, .string (s.extract p k), .int .i64 (n : Int), .int .i64 (p : Int)], .int .i64 0]) (by rw [results_cell_tmp rfl]; simp [go_sem]) rfl ⟨by rw [HN.out]; rfl, lxBa (lxBa (Below.refl _ _) _) _⟩
      · have hkj : k = j := by rw [← hx.out, Lx.runN_end hlt]
        subst hkj
        clear hx hj0
        go_wp2_with (first | (go_at_call 40; refine (hnum _).mono ?_; rintro e w1 ⟨rfl, hw1⟩; rw [hw1]; clear hw1 w1))
        refine bodyPost_ret (v := .tuple #[.agg #[.int .i64 4, .string (s.extract p k), .int .i64 (n : Int), .int .i64 (p : Int)], .int .i64 0]) (by rw [results_cell_tmp rfl]; simp [go_sem]) rfl ⟨by rw [HN.out]; rfl, lxBa (lxBa (Below.refl _ _) _) _⟩
  · rw [if_neg hc] at hnum hnx
    have HN : Hid (Lx.next (s.data.toList.drop p) = .bad 1) := hnx
    clear hnx hTl hTb hT hB hj hc
    go_enter Tryd.func21, Tryd.ntmps21
    go_wp2_with (first | (go_at_call 35; refine (rfLow_any _ _).mono ?_; rintro e w1 ⟨rfl, hw1⟩; rw [hw1]; clear hw1 w1) | (go_at_call 36; refine (rfHigh_any _ _).mono ?_; rintro e w1 ⟨rfl, hw1⟩; rw [hw1]; clear hw1 w1) | (go_at_call 39; refine (rfDigit_any _ _).mono ?_; rintro e w1 ⟨rfl, hw1⟩; rw [hw1]; clear hw1 w1))
    go_loop [7] (fun x => ∃ k : Nat, x = .int .i64 k ∧ p ≤ k ∧ k ≤ s.size ∧ Hid (Lx.runN s 4 k = j)) (fun x => s.size - (intOf x).toNat)
    case atStart => exact ⟨p, rfl, Nat.le_refl _, by omega, hj0⟩
    case round =>
      obtain ⟨k, rfl, hpk, hk, hx⟩ := hrel
      by_cases hlt : k < s.size
      · have hbk := Lx.b_lt hlt
        cases hg : Nm.dig (Lx.b s k) with
        | true =>
          have HX : Hid (Lx.runN s 4 (k + 1) = j) := by show _ = _; rw [← Lx.runN_on (K := 4) hlt (by rw [Lx.goes_4, hbk]; exact hg)]; exact hx
          clear hx hj0
          go_wp2_with (go_at_call 39; refine (rfDigit_any _ _).mono ?_; rintro e w1 ⟨rfl, hw1⟩; rw [hw1]; clear hw1 w1)
          go_round
          case rel => exact ⟨k + 1, by go_num, by omega, by omega, HX⟩
          case measure => simp [intOf]; omega
        | false =>
          have hkj : k = j := by rw [← hx.out, Lx.runN_off (K := 4) hlt (by rw [Lx.goes_4, hbk]; exact hg)]
          subst hkj
          clear hx hj0
          go_wp2_with (first | (go_at_call 39; refine (rfDigit_any _ _).mono ?_; rintro e w1 ⟨rfl, hw1⟩; rw [hw1]; clear hw1 w1) | (go_at_call 40; refine (hnum _).mono ?_; rintro e w1 ⟨rfl, hw1⟩; rw [hw1]; clear hw1 w1))
          refine bodyPost_ret (v := .tuple #[.agg #[.int .i64 0, .string ⟨#[]⟩, .int .i64 0, .int .i64 (p : Int)], .int .i64 1]) (by rw [results_cell_tmp rfl]; simp [go_sem]) rfl ⟨NextAns.bad HN.out _ _ _ _, lxBa (lxBa (Below.refl _ _) _) _⟩
      · have hkj : k = j := by rw [← hx.out, Lx.runN_end hlt]
        subst hkj
        clear hx hj0
        go_wp2_with (first | (go_at_call 40; refine (hnum _).mono ?_; rintro e w1 ⟨rfl, hw1⟩; rw [hw1]; clear hw1 w1))
        refine bodyPost_ret (v := .tuple #[.agg #[.int .i64 0, .string ⟨#[]⟩, .int .i64 0, .int .i64 (p : Int)], .int .i64 1]) (by rw [results_cell_tmp rfl]; simp [go_sem]) rfl ⟨NextAns.bad HN.out _ _ _ _, lxBa (lxBa (Below.refl _ _) _) _⟩

theorem rfNext_any (s : ByteArray) (p : Nat) (hp : p < s.size) (hs : s.size ≤ 4096) (w : World) :
    Calls Tryd.prog 21 #[.string s, .int .i64 p] w fun e w' => NextAns (Lx.next (s.data.toList.drop p)) ⟨(Lx.text (s.data.toList.drop p)).toArray⟩ p e ∧ Below w.heap.size w w' := by
  cases hl : Nm.low (Lx.b s p) with
  | true => exact rfNext_low s p hp hs hl w
  | false =>
    cases hh : Nm.high (Lx.b s p) with
    | true => exact rfNext_high s p hp hs hl hh w
    | false =>
      cases hd : Nm.dig (Lx.b s p) with
      | true => exact rfNext_dig s p hp hs hl hh hd w
      | false =>
        by_cases hq : Lx.b s p = 39
        · cases h1 : Nm.low (Lx.b s (p + 1)) with
          | true =>
            have : p + 1 < s.size := by
              rcases Nat.lt_or_ge (p + 1) s.size with h | h
              · exact h
              · rw [Lx.b_ge (by omega)] at h1; cases h1
            exact rfNext_var s p this hs hq h1 w
          | false => exact rfNext_quote s p hp hs hq h1 w
        · exact rfNext_mark s p hp hs hl hh hd hq w
end Go.Proofs.YtfjcnncpmhfbnaaDoor
