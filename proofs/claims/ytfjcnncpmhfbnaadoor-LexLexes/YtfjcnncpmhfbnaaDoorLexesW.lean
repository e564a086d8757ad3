/- The walk of LexLexes. -/
import Derived.Test.YtfjcnncpmhfbnaaDoorTheirsW
import Derived.Test.YtfjcnncpmhfbnaaDoorBlanksW
namespace Go.Proofs.YtfjcnncpmhfbnaaDoor
open Go.RowKit
set_option linter.unusedVariables false

theorem rfLex_good (s : ByteArray) (hs : s.size ≤ maxLen) (w : World) {ts : List Lx.Tok} (hl : Lx.lex s.data.toList = .good ts) :
    Calls Tryd.prog 10 #[.string s] w fun e w' => (∃ v, e = .returned (.tuple #[v, .int .i64 0, .int .i64 0]) ∧ w'.ownsRow w.heap.size 32 4 v ts.length (ts.flatMap (Lx.cells s.size))) ∧ Below w.heap.size w w' := by
  refine (rfLex_any s hs w).mono ?_
  rintro e w' ⟨ha, hb⟩
  rw [hl] at ha
  exact ⟨ha, hb⟩
theorem rfLex_bad (s : ByteArray) (hs : s.size ≤ maxLen) (w : World) {n : Nat} {c : Int} (hl : Lx.lex s.data.toList = .bad n c) :
    Calls Tryd.prog 10 #[.string s] w fun e w' => e = .returned (.tuple #[.slice none 0 0, .int .i64 ((s.size - n : Nat) : Int), .int .i64 c]) ∧ Below w.heap.size w w' := by
  refine (rfLex_any s hs w).mono ?_
  rintro e w' ⟨ha, hb⟩
  rw [hl] at ha
  exact ⟨ha, hb⟩

set_option maxRecDepth 100000 in
set_option maxHeartbeats 4000000 in
theorem lexes_walk (s : ByteArray) (hs : s.size ≤ 140737488351232) (w : World) (hE : Er w) :
    Calls Tryd.prog 3 #[.string s] w fun e w' => e = .returned (.bool true) ∧ Below w.heap.size w w' := by
  have hsm : s.size ≤ maxLen := by unfold maxLen; omega
  cases hR : Lx.lex s.data.toList with
  | bad n c =>
    have c1 := lxLex_bad s hsm w hE hR
    have c2 := fun w => rfLex_bad s hsm w hR
    obtain ⟨p, hp⟩ : ∃ p, p = s.size - n := ⟨_, rfl⟩
    rw [← hp] at c1 c2
    have ht := fun w => theirs_any (.slice none 0 0) [] w (.inl ⟨rfl, none, 0, rfl⟩) (Nat.zero_le _)
    clear hs hsm hR hp
    go_enter Tryd.func3, Tryd.ntmps3
    go_wp2_with (first
      | (go_at_call 9; refine c1.mono ?_; rintro e w1 ⟨rfl, hb1⟩)
      | (go_at_call 10; refine (c2 _).mono ?_; rintro e w2 ⟨rfl, hb2⟩)
      | (go_at_call 11; refine (lxAlive_any _ (hE.below (lxTr hb1 hb2) (Nat.le_refl _))).mono ?_; rintro e w3 ⟨rfl, hb3⟩)
      | (go_at_call 12; refine (ht _).mono ?_; rintro e w4 ⟨⟨v4, rfl, hrow4⟩, hb4⟩; obtain ⟨g4, cap4, hform4⟩ := own_form hrow4; subst hform4))
    have hBw := lxTr (lxTr (lxTr hb1 hb2) hb3) hb4
    go_loopw [10] (fun iv wr => iv = .int .i64 0 ∧ wr = w4) (fun _ _ => 0)
    case atStart => exact ⟨rfl, rfl⟩
    case round =>
      obtain ⟨rfl, rfl⟩ := hrel
      go_wp2
      go_ret
      exact ⟨rfl, hBw⟩
  | good ts =>
    obtain ⟨hL4, hlen, hN⟩ := Lx.lex_good hR
    have c1 := lxLex_good s hsm w hE hR
    have c2 := fun w => rfLex_good s hsm w hR
    clear hs hsm hR hN hL4
    go_enter Tryd.func3, Tryd.ntmps3
    go_wp2_with (first
      | (go_at_call 9; refine c1.mono ?_; rintro e w1 ⟨⟨v1, rfl, hrow1⟩, hb1⟩; obtain ⟨g1, cap1, hform1⟩ := own_form hrow1; subst hform1)
      | (go_at_call 10; refine (c2 _).mono ?_; rintro e w2 ⟨⟨v2, rfl, hrow2⟩, hb2⟩; obtain ⟨g2, cap2, hform2⟩ := own_form hrow2; subst hform2)
      | (go_at_call 11; refine (lxAlive_any _ (hE.below (lxTr hb1 hb2) (Nat.le_refl _))).mono ?_; rintro e w3 ⟨rfl, hb3⟩)
      | (go_at_call 12; refine (theirs_any _ (ts.map (Lx.tv s.size)) _ (((TvAt.of_own hrow1).below hb2 (Nat.le_refl _)).below hb3 (Nat.le_refl _)) (by rw [List.length_map]; omega)).mono ?_; rintro e w4 ⟨⟨v4, rfl, hrow4⟩, hb4⟩; rw [List.length_map] at hrow4; obtain ⟨g4, cap4, hform4⟩ := own_form hrow4; subst hform4))
    have hBw := lxTr (lxTr (lxTr hb1 hb2) hb3) hb4
    have tM : TvAt w4 (.slice g4 ts.length cap4) (ts.map (Lx.tv s.size)) := TvAt.of_row (by rw [List.length_map]; exact hrow4)
    have tK : TvAt w4 (.slice g2 ts.length cap2) (ts.map (Lx.tv s.size)) := ((TvAt.of_row (by rw [List.length_map, ← Lx.flat_tv]; exact hrow2)).below hb3 (Nat.le_refl _)).below hb4 (Nat.le_refl _)
    clear hrow1 hrow2 hrow4 hb1 hb2 hb3 hb4 c1 c2
    go_loopw [10] (fun iv wr => ∃ i : Nat, iv = .int .i64 i ∧ i ≤ ts.length ∧ ∃ n, wr = w4.drewN n) (fun iv _ => ts.length - (intOf iv).toNat)
    case atStart => exact ⟨0, rfl, Nat.zero_le _, 0, rfl⟩
    case round =>
      obtain ⟨i, rfl, hi, n, rfl⟩ := hrel
      by_cases hlt : i < ts.length
      · obtain ⟨t, ht⟩ : ∃ t, ts[i]? = some t := ⟨_, List.getElem?_eq_getElem hlt⟩
        have hne : ¬ ts.map (Lx.tv s.size) = [] := fun h => by have := congrArg List.length h; rw [List.length_map, List.length_nil] at this; omega
        obtain ⟨b4, o4, e4, hv4, hg4, hc4⟩ := tM.resolve_left (fun h => hne h.1)
        obtain ⟨b2, o2, e2, hv2, hg2, hc2⟩ := tK.resolve_left (fun h => hne h.1)
        obtain ⟨hh4, -⟩ : g4 = some ⟨b4, o4, none⟩ ∧ cap4 = e4 := by injection hv4 with q1 q2 q3; exact ⟨q1, q3⟩
        obtain ⟨hh2, -⟩ : g2 = some ⟨b2, o2, none⟩ ∧ cap2 = e2 := by injection hv2 with q1 q2 q3; exact ⟨q1, q3⟩
        subst hh4; subst hh2
        have hx : (ts.map (Lx.tv s.size))[i]? = some (Lx.tv s.size t) := by rw [List.getElem?_map, ht]; rfl
        obtain ⟨x0, x1, x2, x3⟩ := hc4 i _ hx
        obtain ⟨y0, y1, y2, y3⟩ := hc2 i _ hx
        generalize Lx.tv s.size t = x at *
        clear hc4 hc2 hv4 hv2 hne tM tK hx ht
        go_wp2
        go_big_quiet (fail)
        go_wp2
        go_roundw
        case rel => exact ⟨i + 1, by go_num, by omega, _, rfl⟩
        case measure => simp [intOf]; omega
      · clear tM tK
        go_wp2
        go_ret
        exact ⟨rfl, lxBd hBw _⟩
end Go.Proofs.YtfjcnncpmhfbnaaDoor
