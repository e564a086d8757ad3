/- The walk of LexBack. -/
import Derived.Test.YtfjcnncpmhfbnaaDoorBlanksW
import Derived.Test.YtfjcnncpmhfbnaaDoorLexJoin
namespace Go.Proofs.YtfjcnncpmhfbnaaDoor
open Go.RowKit
set_option linter.unusedVariables false

theorem Lx.joinL_eq : ∀ (xs : List (List UInt8)), Lib.join xs [32] = Lx.joinL xs
  | [] => rfl
  | [t] => Lib.join_one _ _
  | t :: u :: r => by
    have ih := Lx.joinL_eq (u :: r)
    rw [Lib.join_cons] at ih ⊢
    show _ = t ++ 32 :: Lx.joinL (u :: r)
    rw [← ih]
    unfold Lib.joinTail
    simp
theorem Lx.join_len : ∀ (ts : List Lx.Tok) (c : Nat) (l : List UInt8), Lx.lexN c l = .good ts → (Lx.joinL (ts.map Lx.Tok.text)).length ≤ 2 * l.length
  | [], c, l, h => by simp [Lx.joinL]
  | [a], c, l, h => by
    obtain ⟨q, r, c0, rfl, e, hm, hl, ha, h2⟩ := Lx.lexN_uncons h
    have : l.length = q.length + (a.text.length + r.length) := by rw [e, List.length_append, List.length_append]
    show a.text.length ≤ _; omega
  | a :: b :: ts, c, l, h => by
    obtain ⟨q, r, c0, rfl, e, hm, hl, ha, h2⟩ := Lx.lexN_uncons h
    have ih := Lx.join_len (b :: ts) c0 r h2
    have : l.length = q.length + (a.text.length + r.length) := by rw [e, List.length_append, List.length_append]
    have hp := ha.pos
    show (a.text ++ 32 :: Lx.joinL ((b :: ts).map Lx.Tok.text)).length ≤ _
    rw [List.length_append, List.length_cons]; omega

set_option maxRecDepth 100000 in
set_option maxHeartbeats 4000000 in
theorem back_walk (s : ByteArray) (hs : s.size ≤ 140737488351232) (w : World) (hE : Er w) :
    Calls Tryd.prog 5 #[.string s] w fun e w' => e = .returned (.bool true) ∧ Below w.heap.size w w' := by
  have hsm : s.size ≤ maxLen := by unfold maxLen; omega
  cases hR : Lx.lex s.data.toList with
  | bad n c =>
    have hc := Lx.lex_codes hR
    have c1 := lxLex_bad s hsm w hE hR
    clear hs hsm hR
    go_enter Tryd.func5, Tryd.ntmps5
    go_wp2_with (first
      | (go_at_call 9; refine c1.mono ?_; rintro e w1 ⟨rfl, hb1⟩)
      | (go_at_call 11; refine (lxAlive_any _ (hE.below hb1 (Nat.le_refl _))).mono ?_; rintro e w2 ⟨rfl, hb2⟩))
    go_ret
    exact ⟨rfl, lxTr hb1 hb2⟩
  | good ts =>
    obtain ⟨hL4, hlen, hN⟩ := Lx.lex_good hR
    have c1 := lxLex_good s hsm w hE hR
    have hjoin : Tv.joined (ts.map (Lx.tv s.size)) = Lx.joinL (ts.map Lx.Tok.text) := by
      unfold Tv.joined
      rw [Lx.joinL_eq, List.map_map]
      congr 1
    have hjl := Lx.join_len ts 1024 _ hN
    obtain ⟨us, hcore, hus⟩ := Lx.back ts 1024 _ hN
    obtain ⟨t, ht⟩ : ∃ t : ByteArray, t = ⟨(Tv.joined (ts.map (Lx.tv s.size))).toArray⟩ := ⟨_, rfl⟩
    have htl : t.data.toList = Lx.joinL (ts.map Lx.Tok.text) := by rw [ht, hjoin]
    have hts : t.size = (Lx.joinL (ts.map Lx.Tok.text)).length := Lx.size_of htl
    have cj := fun v w h => lxJoin_any v (ts.map (Lx.tv s.size)) w h (by rw [List.length_map]; omega) (by rw [hjoin]; omega)
    rw [← ht] at cj
    have htm : t.size ≤ maxLen := by unfold maxLen; omega
    have hul := Lx.core_len hcore
    by_cases hbig : 4096 < t.size
    · clear hs hsm hR hN hjoin hjl hcore hus ht htl hts htm hul
      go_enter Tryd.func5, Tryd.ntmps5
      go_wp2_with (first
        | (go_at_call 9; refine c1.mono ?_; rintro e w1 ⟨⟨v, rfl, hrow⟩, hb1⟩)
        | (go_at_call 13; refine (cj _ _ (TvAt.of_own hrow)).mono ?_; rintro e w2 ⟨rfl, hb2⟩)
        | (go_at_call 11; refine (lxAlive_any _ (hE.below (lxTr hb1 hb2) (Nat.le_refl _))).mono ?_; rintro e w3 ⟨rfl, hb3⟩))
      go_ret
      exact ⟨rfl, lxTr (lxTr hb1 hb2) hb3⟩
    · have hlt : Lx.lex t.data.toList = .good us := Lx.lex_of (by rw [Nm.len]; omega) (by rw [htl]; exact hus) (by rw [hul]; exact hlen)
      have c2 := fun w h => lxLex_good t htm w h hlt
      have hsame := Lx.core_tv hcore s.size t.size
      have hl1 : (ts.map (Lx.tv s.size)).length ≤ maxLen := by rw [List.length_map]; unfold maxLen; omega
      have hl2 : (us.map (Lx.tv t.size)).length ≤ maxLen := by rw [List.length_map, hul]; unfold maxLen; omega
      clear hs hsm hR hN hjoin hjl hcore hus ht htl hts htm hul hlt
      go_enter Tryd.func5, Tryd.ntmps5
      go_wp2_with (first
        | (go_at_call 9; have _ := m1; refine (c2 _ (hE.below (lxTr hb1 hb2) (Nat.le_refl _))).mono ?_; rintro e w3 ⟨⟨v3, rfl, hrow3⟩, hb3⟩)
        | (go_at_call 9; refine c1.mono ?_; rintro e w1 ⟨⟨v, rfl, hrow⟩, hb1⟩; have m1 := True.intro)
        | (go_at_call 13; refine (cj _ _ (TvAt.of_own hrow)).mono ?_; rintro e w2 ⟨rfl, hb2⟩)
        | (go_at_call 16; refine (lxSame_any _ _ _ _ _ (((TvAt.of_own hrow).below hb2 (Nat.le_refl _)).below hb3 (Nat.le_refl _)) (TvAt.of_own hrow3) hl1 hl2).mono ?_; rw [hsame]; rintro e w4 ⟨rfl, hb4⟩)
        | (go_at_call 11; refine (lxAlive_any _ (hE.below (lxTr (lxTr (lxTr hb1 hb2) hb3) hb4) (Nat.le_refl _))).mono ?_; rintro e w5 ⟨rfl, hb5⟩))
      go_ret
      exact ⟨rfl, lxTr (lxTr (lxTr (lxTr hb1 hb2) hb3) hb4) hb5⟩
end Go.Proofs.YtfjcnncpmhfbnaaDoor
