/- How deep; which are right. -/
import Derived.Test.YtfeppchgmobfpaaGreatDoorTgN
namespace Go.Proofs.YtfeppchgmobfpaaGreatDoor
open Go.RowKit
set_option linter.unusedVariables false
set_option linter.unusedSimpArgs false

def DeepOf (n : Nat) : Prop := ∀ (w : World) (b o : Nat) (t : Tt) (d : Int), PAt w Any n b o t → 0 ≤ d → d ≤ 100001 →
  Calls Tryz.prog 23 #[.pointer (some ⟨b, o, none⟩), .int .i64 d] w fun e w' => e = .returned (.bool (decide (100000 < d + t.deepest - 1))) ∧ w' = w
def DeepsOf (n : Nat) : Prop := ∀ (w : World) (v : Value) (l : List Tt) (d : Int), TAtL w Any n v l → 0 ≤ d → d ≤ 100001 →
  Calls Tryz.prog 45 #[v, .int .i64 d] w fun e w' => e = .returned (.bool (decide (100000 < d + Tt.deepestL l - 1))) ∧ w' = w

set_option maxHeartbeats 1000000 in
set_option maxRecDepth 100000 in
theorem deeps_step (n : Nat) (ih : DeepOf n) : DeepsOf n := by
  intro w v l d hL h0 h1
  obtain ⟨a, c, rfl, hm⟩ := hL.form
  unfold maxLen at hm
  have HL : Hid (TAtL w Any n (.slice a l.length c) l) := hL
  clear hL
  go_enter Tryz.func45, Tryz.ntmps45
  go_wp2
  go_loopw [8] (fun v wr => ∃ k : Nat, v = .int .i64 k ∧ k ≤ l.length ∧ Hid (decide (100000 < d + Tt.deepestL l - 1) = decide (100000 < d + Tt.deepestL (l.drop k) - 1)) ∧ wr = w) (fun v _ => l.length - (intOf v).toNat)
  case atStart => exact ⟨0, rfl, Nat.zero_le _, rfl, rfl⟩
  case round =>
    obtain ⟨k, rfl, hkl, hH, rfl⟩ := hrel
    by_cases hlt : k < l.length
    · obtain ⟨x, hxk⟩ : ∃ x, l[k]? = some x := ⟨_, List.getElem?_eq_getElem hlt⟩
      obtain ⟨b, o, rfl, hP⟩ := HL.out.elem hxk
      have HX : Hid (decide (100000 < d + Tt.deepestL l - 1) = decide (100000 < d + (max x.deepest (Tt.deepestL (l.drop (k + 1))) : Nat) - 1)) := by
        show _ = _
        rw [hH.out, Tt.deepestL_drop hxk]
      have HQ : Hid (Calls Tryz.prog 23 #[.pointer (some ⟨b, o + k * 4, none⟩), .int .i64 d] wr fun e w' => e = .returned (.bool (decide (100000 < d + x.deepest - 1))) ∧ w' = wr) := ih wr b _ x d hP h0 h1
      clear hP hH
      generalize hD : l.drop (k + 1) = l' at HX
      have HD : Hid (l.drop (k + 1) = l') := hD
      clear hD
      by_cases hd : 100000 < d + (x.deepest : Int) - 1
      · have e1 : decide (100000 < d + (x.deepest : Int) - 1) = true := decide_eq_true hd
        have e2 : decide (100000 < d + ((max x.deepest (Tt.deepestL l') : Nat) : Int) - 1) = true := decide_eq_true (by omega)
        rw [e1] at HQ
        rw [e2] at HX
        clear e1 e2 hd h0 h1
        go_wp2_with (go_at_call 23; refine (HQ.out).mono ?_; rintro e w3 ⟨rfl, hw⟩; rw [hw]; clear hw w3)
        go_ret
        exact ⟨ret_bool HX.out.symm, rfl⟩
      · have e1 : decide (100000 < d + (x.deepest : Int) - 1) = false := decide_eq_false hd
        have e2 : decide (100000 < d + ((max x.deepest (Tt.deepestL l') : Nat) : Int) - 1) = decide (100000 < d + (Tt.deepestL l' : Int) - 1) := by
          apply decide_eq_decide.2
          omega
        rw [e1] at HQ
        rw [e2, ← HD.out] at HX
        clear e1 e2 hd h0 h1
        go_wp2_with (go_at_call 23; refine (HQ.out).mono ?_; rintro e w3 ⟨rfl, hw⟩; rw [hw]; clear hw w3)
        go_roundw
        case rel => exact ⟨k + 1, by go_num, by omega, HX, trivial⟩
        case measure => simp [intOf]; omega
    · have HX : Hid (decide (100000 < d + Tt.deepestL l - 1) = false) := by
        show _ = _
        rw [hH.out, List.drop_eq_nil_of_le (by omega), Tt.deepestL]
        exact decide_eq_false (by simp; omega)
      clear hH HL h0 h1
      go_wp2
      go_ret
      exact ⟨ret_bool HX.out.symm, rfl⟩

set_option maxHeartbeats 1000000 in
set_option maxRecDepth 100000 in
theorem deep_step (n : Nat) (ih : DeepsOf n) : DeepOf (n + 1) := by
  intro w b o t d hP h0 h1
  obtain ⟨a', c', a, c, e0, e1, e2, e3, hk, hn, hS, hL⟩ := hP.cells
  rw [Tt.deepest_ks]
  by_cases hd : 100000 < d
  · have q : decide (100000 < d + ((Tt.deepestL t.ks + 1 : Nat) : Int) - 1) = true := decide_eq_true (by omega)
    rw [q]
    clear q ih hL hS hP
    go_enter Tryz.func23, Tryz.ntmps23
    go_wp2
    go_ret
    exact ⟨rfl, rfl⟩
  · have HQ : Hid (Calls Tryz.prog 45 #[.slice a t.ks.length c, .int .i64 (d + 1)] w fun e w' => e = .returned (.bool (decide (100000 < (d + 1) + Tt.deepestL t.ks - 1))) ∧ w' = w) := ih w _ t.ks (d + 1) hL (by omega) (by omega)
    have q : decide (100000 < d + ((Tt.deepestL t.ks + 1 : Nat) : Int) - 1) = decide (100000 < (d + 1) + (Tt.deepestL t.ks : Int) - 1) := by
      apply decide_eq_decide.2
      omega
    rw [q]
    clear q ih hL hS hP e0 e1 e2 hk hn
    generalize decide (100000 < (d + 1) + (Tt.deepestL t.ks : Int) - 1) = r at HQ
    go_enter Tryz.func23, Tryz.ntmps23
    go_wp2_with (go_at_call 45; refine (HQ.out).mono ?_; rintro e w3 ⟨rfl, hw⟩; rw [hw]; clear hw w3)
    go_ret
    exact ⟨rfl, rfl⟩
theorem deep_any : ∀ n, DeepOf n
  | 0 => fun w b o t d h => by obtain ⟨m, e⟩ := h.pos; cases e
  | n + 1 => deep_step n (deeps_step n (deep_any n))
end Go.Proofs.YtfeppchgmobfpaaGreatDoor
