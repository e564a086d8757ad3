/- What the document's next comes to where a mark, a number or nothing begins. -/
import Derived.Test.YtfjcnncpmhfbnaaDoorRefD
namespace Go.Proofs.YtfjcnncpmhfbnaaDoor
open Go.RowKit
set_option linter.unusedVariables false

set_option maxHeartbeats 2000000 in
theorem rfNext_mark (s : ByteArray) (p : Nat) (hp : p < s.size) (hs : s.size ≤ 4096) (hl : Nm.low (Lx.b s p) = false) (hh : Nm.high (Lx.b s p) = false) (hdg : Nm.dig (Lx.b s p) = false) (hq : ¬ Lx.b s p = 39) (w : World) :
    Calls Tryd.prog 21 #[.string s, .int .i64 p] w fun e w' => NextAns (Lx.next (s.data.toList.drop p)) ⟨(Lx.text (s.data.toList.drop p)).toArray⟩ p e ∧ Below w.heap.size w w' := by
  have hb := Lx.b_lt hp
  have hB : Lx.begin (s.data.toList.drop p) = if Lx.markI (Lx.b s p) (Lx.b s (p + 1)) = 0 then (0, 0) else (6, Lx.markI (Lx.b s p) (Lx.b s (p + 1))) := by
    rw [Lx.begin_at s p hp]; unfold Lx.beginI; rw [if_neg (by rw [hl]; simp), if_neg (by rw [hh]; simp), if_neg (by rw [hdg]; simp), if_neg (fun h => hq h.1)]
  have hmk := rfMark_any s p hp hs
  have hq2 : (Lx.b s p == 39) = false := by rw [beq_eq_false_iff_ne]; exact hq
  obtain ⟨m, hm⟩ : ∃ m, Lx.markI (Lx.b s p) (Lx.b s (p + 1)) = m := ⟨_, rfl⟩
  rw [hm] at hB hmk
  clear hm hq
  by_cases hm0 : m = 0
  · subst hm0
    rw [if_pos rfl] at hB
    have HN : Hid (Lx.next (s.data.toList.drop p) = .bad 10) := by show _ = _; unfold Lx.next; simp only [hB]; rfl
    generalize (⟨(Lx.text (s.data.toList.drop p)).toArray⟩ : ByteArray) = T
    clear hB
    go_enter Tryd.func21, Tryd.ntmps21
    go_wp2_with (first | (go_at_call 35; refine (rfLow_any _ _).mono ?_; rintro e w1 ⟨rfl, hw1⟩; rw [hw1]; clear hw1 w1) | (go_at_call 36; refine (rfHigh_any _ _).mono ?_; rintro e w1 ⟨rfl, hw1⟩; rw [hw1]; clear hw1 w1) | (go_at_call 39; refine (rfDigit_any _ _).mono ?_; rintro e w1 ⟨rfl, hw1⟩; rw [hw1]; clear hw1 w1) | (go_at_call 41; refine (hmk _).mono ?_; rintro e w1 ⟨rfl, nm, hw1⟩; rw [hw1]; clear hw1 w1))
    refine bodyPost_ret (v := .tuple #[.agg #[.int .i64 6, .string (ByteArray.empty), .int .i64 0, .int .i64 (p : Int)], .int .i64 10]) (by rw [results_cell_tmp rfl]; simp [go_sem]) rfl ⟨NextAns.bad HN.out _ _ _ _, lxB4 (((lxBd (lxBa (lxBa (Below.refl _ _) _) _) _).setCell (Nat.le_succ _) _).setCell (Nat.le_succ _) _) (Nat.le_refl _) _ _ _ _⟩
  · rw [if_neg hm0] at hB
    have HN : Hid (Lx.next (s.data.toList.drop p) = .good 6 0) := by show _ = _; unfold Lx.next; simp only [hB]; rfl
    obtain ⟨j, hj⟩ : ∃ j, Lx.runN s 6 (p + m) = j := ⟨_, rfl⟩
    obtain ⟨hj1, hj2⟩ := (Lx.text_run s p hB hj).resolve_right (by omega)
    have hjm : j = p + m := by
      rw [← hj]; unfold Lx.runN
      have : ∀ l : List UInt8, l.takeWhile (Lx.goes 6) = [] := fun l => by cases l with
        | nil => rfl
        | cons c t => rw [List.takeWhile_cons]; rfl
      rw [this]; rfl
    have hT := Lx.text_cut s p (by omega) hB hj
    have hTb : (⟨(Lx.text (s.data.toList.drop p)).toArray⟩ : ByteArray) = s.extract p j := by rw [hT, Lx.cut_bytes]
    rw [hTb]
    have hne : ((j : Int) == (p : Int)) = false := by rw [beq_eq_false_iff_ne]; omega
    have hpj : (p : Int) + (m : Int) = (j : Int) := by omega
    clear hB hT hTb hj hjm
    go_enter Tryd.func21, Tryd.ntmps21
    go_wp2_with (first | (go_at_call 35; refine (rfLow_any _ _).mono ?_; rintro e w1 ⟨rfl, hw1⟩; rw [hw1]; clear hw1 w1) | (go_at_call 36; refine (rfHigh_any _ _).mono ?_; rintro e w1 ⟨rfl, hw1⟩; rw [hw1]; clear hw1 w1) | (go_at_call 39; refine (rfDigit_any _ _).mono ?_; rintro e w1 ⟨rfl, hw1⟩; rw [hw1]; clear hw1 w1) | (go_at_call 41; refine (hmk _).mono ?_; rintro e w1 ⟨rfl, nm, hw1⟩; rw [hw1]; clear hw1 w1))
    refine bodyPost_ret (v := .tuple #[.agg #[.int .i64 6, .string (s.extract p j), .int .i64 0, .int .i64 (p : Int)], .int .i64 0]) (by rw [results_cell_tmp rfl]; simp [go_sem]) rfl ⟨by first | exact NextAns.good HN.out | (rw [HN.out]; rfl), lxB4 (((lxBd (lxBa (lxBa (Below.refl _ _) _) _) _).setCell (Nat.le_succ _) _).setCell (Nat.le_succ _) _) (Nat.le_refl _) _ _ _ _⟩
end Go.Proofs.YtfjcnncpmhfbnaaDoor
