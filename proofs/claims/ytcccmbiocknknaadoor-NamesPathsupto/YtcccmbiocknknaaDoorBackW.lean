/- The walk of NamesBack: for any list of texts and any text it returns true, and nothing that lay has turned. -/
import Derived.Test.YtcccmbiocknknaaDoorJoin
namespace Go.Proofs.YtcccmbiocknknaaDoor
open Go.RowKit Go.Shelf
set_option linter.unusedVariables false

theorem texts_same' {w : World} {a b : Value} {xs : List ByteArray} (ha : Strs w a xs) (hb : Strs w b xs) (hl : xs.length ≤ maxLen) : Calls Tryd.prog 10 #[a, b] w fun e w' => e = .returned (.bool true) ∧ Below w.heap.size w w' := by
  refine (texts_any a b xs xs w ha hb hl hl).mono ?_
  rintro e w' ⟨rfl, n, rfl⟩
  exact ⟨by rw [decide_eq_true rfl], bdN (Below.refl _ w) n⟩

set_option maxRecDepth 100000 in
set_option maxHeartbeats 4000000 in
theorem back_walk (v : Value) (p : List ByteArray) (s : ByteArray) (w : World) (hv : Strs w v p) (hcv : CapOk v) (hN : p.length ≤ 140737488355328) (hsz : ∀ x, x ∈ p → x.size ≤ maxLen)
    (hJ : (Nm.join p).size ≤ 140737488355328) (hs : s.size ≤ maxLen) (hs2 : s.size ≤ 140737488355328) :
    Calls Tryd.prog 8 #[v, .string s] w fun e w' => e = .returned (.bool true) ∧ Below w.heap.size w w' := by
  have hL : p.length ≤ maxLen := by unfold maxLen; omega
  have hjs : (Nm.join p).size ≤ maxLen := by unfold maxLen; omega
  have hsm : ∀ x, x ∈ Nm.splitP s → x.size ≤ maxLen := fun x hx => by
    unfold Nm.splitP at hx
    split at hx
    · exact Nat.le_trans (Nm.pieces_size hx) hs
    · cases hx
  have hNm : (Nm.splitP s).length ≤ 140737488355328 := by
    unfold Nm.splitP
    split
    · rename_i h
      have := (Nm.path_ok h).2.1
      omega
    · exact Nat.zero_le _
  have hLm : (Nm.splitP s).length ≤ maxLen := by unfold maxLen; omega
  by_cases hp : Nm.path p = 0
  · obtain ⟨d1, d2⟩ := Nm.back_path hp
    by_cases hf : Nm.splitV s = 0
    · obtain ⟨e1, e2⟩ := Nm.back_text hf
      have hJm : (Nm.join (Nm.splitP s)).size ≤ 140737488355328 := by rw [e1]; exact hs2
      have t1 : ((Nm.join (Nm.splitP s)).toList == s.toList) = true := by rw [e1]; exact beq_self_eq_true _
      clear e1
      go_enter Tryd.func8, Tryd.ntmps8
      go_wp2_with (first
          | (go_at_call 31; have _ := m2; refine (join_any _ _ _ hm hcm hNm hJm).mono ?_; rintro e w6 ⟨rfl, hb6⟩; have m3 := True.intro)
          | (go_at_call 31; refine (join_any v p w hv hcv hN hJ).mono ?_; rintro e w1 ⟨rfl, hb1⟩)
          | (go_at_call 27; have _ := m1; refine (split_any s hs _).mono ?_; rintro e w5 ⟨⟨m, rfl, hm0, hcm⟩, hb5⟩; have hm := hm0; have m2 := True.intro)
          | (go_at_call 27; refine (split_any _ hjs _).mono ?_; rintro e w2 ⟨⟨l, rfl, hl0, hcl⟩, hb2⟩; rw [d2] at hl0; have hl := hl0; have m1 := True.intro; have hv2 := hv.below (btr hb1 hb2) (Nat.le_refl _))
          | (go_at_call 29; have _ := m2; refine (path_any _ _ _ (hm.below hb6 (Nat.le_refl _)) hsm hLm).mono ?_; rintro e w7 ⟨rfl, hw7⟩; rw [hw7]; clear hw7 w7)
          | (go_at_call 29; refine (path_any _ _ _ hv2 hsz hL).mono ?_; rintro e w3 ⟨rfl, hw3⟩; rw [hw3]; clear hw3 w3)
          | (go_at_call 10; refine (texts_same' hl hv2 hL).mono ?_; rintro e w4 ⟨rfl, hb4⟩)
          | (go_at_call 22; refine (alive_any _).mono ?_; rintro e w9 ⟨rfl, hb9⟩))
      go_ret
      exact ⟨rfl, btr (btr (btr (btr (btr hb1 hb2) hb4) hb5) hb6) hb9⟩
    · have e1 : Nm.splitP s = [] := by unfold Nm.splitP; rw [if_neg hf]
      clear hsm hNm hLm
      go_enter Tryd.func8, Tryd.ntmps8
      go_wp2_with (first
          | (go_at_call 31; have _ := m2; refine (join_any _ _ _ hm hcm hNm hJm).mono ?_; rintro e w6 ⟨rfl, hb6⟩; have m3 := True.intro)
          | (go_at_call 31; refine (join_any v p w hv hcv hN hJ).mono ?_; rintro e w1 ⟨rfl, hb1⟩)
          | (go_at_call 27; have _ := m1; refine (split_any s hs _).mono ?_; rintro e w5 ⟨⟨m, rfl, hm0, hcm⟩, hb5⟩; rw [e1] at hm0; obtain ⟨mp, mc, rfl⟩ := hm0.shape; have m2 := True.intro)
          | (go_at_call 27; refine (split_any _ hjs _).mono ?_; rintro e w2 ⟨⟨l, rfl, hl0, hcl⟩, hb2⟩; rw [d2] at hl0; have hl := hl0; have m1 := True.intro; have hv2 := hv.below (btr hb1 hb2) (Nat.le_refl _))
          | (go_at_call 29; have _ := m2; refine (path_any _ _ _ (hm.below hb6 (Nat.le_refl _)) hsm hLm).mono ?_; rintro e w7 ⟨rfl, hw7⟩; rw [hw7]; clear hw7 w7)
          | (go_at_call 29; refine (path_any _ _ _ hv2 hsz hL).mono ?_; rintro e w3 ⟨rfl, hw3⟩; rw [hw3]; clear hw3 w3)
          | (go_at_call 10; refine (texts_same' hl hv2 hL).mono ?_; rintro e w4 ⟨rfl, hb4⟩)
          | (go_at_call 22; refine (alive_any _).mono ?_; rintro e w9 ⟨rfl, hb9⟩))
      go_ret
      exact ⟨rfl, btr (btr (btr (btr hb1 hb2) hb4) hb5) hb9⟩
  · by_cases hf : Nm.splitV s = 0
    · obtain ⟨e1, e2⟩ := Nm.back_text hf
      have hJm : (Nm.join (Nm.splitP s)).size ≤ 140737488355328 := by rw [e1]; exact hs2
      have t1 : ((Nm.join (Nm.splitP s)).toList == s.toList) = true := by rw [e1]; exact beq_self_eq_true _
      clear e1
      go_enter Tryd.func8, Tryd.ntmps8
      go_wp2_with (first
          | (go_at_call 31; have _ := m2; refine (join_any _ _ _ hm hcm hNm hJm).mono ?_; rintro e w6 ⟨rfl, hb6⟩; have m3 := True.intro)
          | (go_at_call 31; refine (join_any v p w hv hcv hN hJ).mono ?_; rintro e w1 ⟨rfl, hb1⟩)
          | (go_at_call 27; have _ := m1; refine (split_any s hs _).mono ?_; rintro e w5 ⟨⟨m, rfl, hm0, hcm⟩, hb5⟩; have hm := hm0; have m2 := True.intro)
          | (go_at_call 27; refine (split_any _ hjs _).mono ?_; rintro e w2 ⟨⟨l, rfl, hl0, hcl⟩, hb2⟩; have hl := hl0; have m1 := True.intro; have hv2 := hv.below (btr hb1 hb2) (Nat.le_refl _))
          | (go_at_call 29; have _ := m2; refine (path_any _ _ _ (hm.below hb6 (Nat.le_refl _)) hsm hLm).mono ?_; rintro e w7 ⟨rfl, hw7⟩; rw [hw7]; clear hw7 w7)
          | (go_at_call 29; refine (path_any _ _ _ hv2 hsz hL).mono ?_; rintro e w3 ⟨rfl, hw3⟩; rw [hw3]; clear hw3 w3)
          | (go_at_call 10; refine (texts_same' hl hv2 hL).mono ?_; rintro e w4 ⟨rfl, hb4⟩)
          | (go_at_call 22; refine (alive_any _).mono ?_; rintro e w9 ⟨rfl, hb9⟩))
      go_ret
      exact ⟨rfl, btr (btr (btr (btr hb1 hb2) hb5) hb6) hb9⟩
    · have e1 : Nm.splitP s = [] := by unfold Nm.splitP; rw [if_neg hf]
      clear hsm hNm hLm
      go_enter Tryd.func8, Tryd.ntmps8
      go_wp2_with (first
          | (go_at_call 31; have _ := m2; refine (join_any _ _ _ hm hcm hNm hJm).mono ?_; rintro e w6 ⟨rfl, hb6⟩; have m3 := True.intro)
          | (go_at_call 31; refine (join_any v p w hv hcv hN hJ).mono ?_; rintro e w1 ⟨rfl, hb1⟩)
          | (go_at_call 27; have _ := m1; refine (split_any s hs _).mono ?_; rintro e w5 ⟨⟨m, rfl, hm0, hcm⟩, hb5⟩; rw [e1] at hm0; obtain ⟨mp, mc, rfl⟩ := hm0.shape; have m2 := True.intro)
          | (go_at_call 27; refine (split_any _ hjs _).mono ?_; rintro e w2 ⟨⟨l, rfl, hl0, hcl⟩, hb2⟩; have hl := hl0; have m1 := True.intro; have hv2 := hv.below (btr hb1 hb2) (Nat.le_refl _))
          | (go_at_call 29; have _ := m2; refine (path_any _ _ _ (hm.below hb6 (Nat.le_refl _)) hsm hLm).mono ?_; rintro e w7 ⟨rfl, hw7⟩; rw [hw7]; clear hw7 w7)
          | (go_at_call 29; refine (path_any _ _ _ hv2 hsz hL).mono ?_; rintro e w3 ⟨rfl, hw3⟩; rw [hw3]; clear hw3 w3)
          | (go_at_call 10; refine (texts_same' hl hv2 hL).mono ?_; rintro e w4 ⟨rfl, hb4⟩)
          | (go_at_call 22; refine (alive_any _).mono ?_; rintro e w9 ⟨rfl, hb9⟩))
      go_ret
      exact ⟨rfl, btr (btr (btr hb1 hb2) hb5) hb9⟩
end Go.Proofs.YtcccmbiocknknaaDoor
