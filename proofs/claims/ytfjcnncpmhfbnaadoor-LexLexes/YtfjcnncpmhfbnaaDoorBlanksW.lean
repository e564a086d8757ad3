/- The walk of LexBlanks. -/
import Derived.Deep.CutRange
import Derived.Test.YtfjcnncpmhfbnaaDoorLexSame
import Derived.Test.YtfjcnncpmhfbnaaDoorLexR
namespace Go.Proofs.YtfjcnncpmhfbnaaDoor
open Go.RowKit
set_option linter.unusedVariables false

theorem Lx.lex_codes {l : List UInt8} {n : Nat} {c : Int} (h : Lx.lex l = .bad n c) : c ≠ 0 := by
  have key : ∀ (k : Nat) (l : List UInt8), Lx.lexN k l = .bad n c → c ≠ 0 := by
    intro k
    induction k with
    | zero =>
      intro l h
      rw [Lx.lexN_eq] at h
      split at h
      · cases h; decide
      · split at h
        · cases h
        · split at h
          · next e he => cases h; have := Lx.bad_codes he; omega
          · cases h; decide
    | succ k ih =>
      intro l h
      rw [Lx.lexN_eq] at h
      split at h
      · cases h; decide
      · split at h
        · cases h
        · split at h
          · next e he => cases h; have := Lx.bad_codes he; omega
          · next a b _ =>
            simp only at h
            cases hR : Lx.lexN k ((Lx.skip l).1.drop (Lx.text (Lx.skip l).1).length) with
            | bad n2 c2 => rw [hR] at h; cases h; exact ih _ hR
            | good ts => rw [hR] at h; cases h
  unfold Lx.lex at h
  split at h
  · cases h; decide
  · exact key _ _ h
theorem Lx.lex_good {l : List UInt8} {ts : List Lx.Tok} (h : Lx.lex l = .good ts) : l.length ≤ 4096 ∧ ts.length ≤ 1024 ∧ Lx.lexN 1024 l = .good ts := by
  unfold Lx.lex at h
  split at h
  · cases h
  · exact ⟨by omega, Lx.lexN_len h, h⟩
theorem Lx.lex_of {l : List UInt8} {ts : List Lx.Tok} {c : Nat} (hl : l.length ≤ 4096) (h : Lx.lexN c l = .good ts) (ht : ts.length ≤ 1024) : Lx.lex l = .good ts := by
  unfold Lx.lex
  rw [if_neg (by omega)]
  exact Lx.lexN_mono h ht
theorem Lx.core_tv {ts us : List Lx.Tok} (h : us.map Lx.Tok.core = ts.map Lx.Tok.core) (S S' : Nat) : Tv.same (ts.map (Lx.tv S)) (us.map (Lx.tv S')) = true := by
  unfold Tv.same
  rw [decide_eq_true_iff, List.map_map, List.map_map]
  have e : ∀ (S : Nat) (l : List Lx.Tok), l.map (Tv.core ∘ Lx.tv S) = (l.map Lx.Tok.core).map fun x => ((x.1 : Int), (⟨x.2.1.toArray⟩ : ByteArray), (x.2.2 : Int)) := fun S l => by
    rw [List.map_map]; rfl
  rw [e, e, h]
theorem Lx.core_len {ts us : List Lx.Tok} (h : us.map Lx.Tok.core = ts.map Lx.Tok.core) : us.length = ts.length := by
  have := congrArg List.length h
  simpa using this
theorem lxApp (a b : ByteArray) : (a ++ b).data.toList = a.data.toList ++ b.data.toList := by rw [ByteArray.data_append, Array.toList_append]
theorem Lx.pre_list (s : ByteArray) (a : Nat) : (s.extract 0 a).data.toList = s.data.toList.take a := by
  rw [ByteArray.data_extract, Array.toList_extract, List.extract_eq_take_drop, List.drop_zero, Nat.sub_zero]
theorem Lx.size_of {s : ByteArray} {l : List UInt8} (h : s.data.toList = l) : s.size = l.length := by rw [← h, Nm.len]

set_option maxRecDepth 100000 in
set_option maxHeartbeats 4000000 in
theorem blanks_walk (s : ByteArray) (i j : Int) (hs : s.size ≤ 140737488351232) (w : World) (hE : Er w) :
    Calls Tryd.prog 7 #[.string s, .int .i64 i, .int .i64 j] w fun e w' => e = .returned (.bool true) ∧ Below w.heap.size w w' := by
  have hsm : s.size ≤ maxLen := by unfold maxLen; omega
  cases hR : Lx.lex s.data.toList with
  | bad n c =>
    have hc := Lx.lex_codes hR
    have c1 := lxLex_bad s hsm w hE hR
    clear hs hsm hR
    go_enter Tryd.func7, Tryd.ntmps7
    go_wp2_with (first
      | (go_at_call 9; refine c1.mono ?_; rintro e w1 ⟨rfl, hb1⟩)
      | (go_at_call 11; refine (lxAlive_any _ (hE.below hb1 (Nat.le_refl _))).mono ?_; rintro e w2 ⟨rfl, hb2⟩))
    go_ret
    exact ⟨rfl, lxTr hb1 hb2⟩
  | good ts =>
    obtain ⟨hL4, hlen0, hN⟩ := Lx.lex_good hR
    have hlen : Hid (ts.length ≤ 1024) := hlen0
    have c1 := lxLex_good s hsm w hE hR
    rw [Nm.len] at hL4
    by_cases hi0 : i < 0
    · clear hs hsm hR hN hL4 hlen0
      go_enter Tryd.func7, Tryd.ntmps7
      go_wp2_with (first
        | (go_at_call 9; refine c1.mono ?_; rintro e w1 ⟨⟨v, rfl, hrow⟩, hb1⟩)
        | (go_at_call 11; refine (lxAlive_any _ (hE.below hb1 (Nat.le_refl _))).mono ?_; rintro e w2 ⟨rfl, hb2⟩))
      go_ret
      exact ⟨rfl, lxTr hb1 hb2⟩
    · by_cases hi1 : (ts.length : Int) ≤ i
      · clear hs hsm hR hN hL4 hlen0
        go_enter Tryd.func7, Tryd.ntmps7
        go_wp2_with (first
          | (go_at_call 9; refine c1.mono ?_; rintro e w1 ⟨⟨v, rfl, hrow⟩, hb1⟩; obtain ⟨g, cap, hform⟩ := own_form hrow; subst hform)
          | (go_at_call 11; refine (lxAlive_any _ (hE.below hb1 (Nat.le_refl _))).mono ?_; rintro e w2 ⟨rfl, hb2⟩))
        go_ret
        exact ⟨rfl, lxTr hb1 hb2⟩
      · obtain ⟨k, rfl⟩ : ∃ k : Nat, i = k := ⟨i.toNat, by omega⟩
        have hkl : k < ts.length := by omega
        obtain ⟨tk, ht⟩ : ∃ tk, ts[k]? = some tk := ⟨_, List.getElem?_eq_getElem hkl⟩
        have hleft0 := (Lx.put_lex hN ht (x := 32) (p := []) (by decide) Lx.put0).1
        rw [Nm.len] at hleft0
        obtain ⟨a, ha⟩ : ∃ a, a = s.size - tk.left := ⟨_, rfl⟩
        have haS : a ≤ s.size := by omega
        have hleft : s.data.toList.length - tk.left = a := by rw [Nm.len]; exact ha.symm
        clear hsm hR hlen0 hi0 hi1
        go_enter Tryd.func7, Tryd.ntmps7
        go_upto_region 4 with (first
          | (go_at_call 9; refine c1.mono ?_; rintro e w1 ⟨⟨v, rfl, hrow⟩, hb1⟩; obtain ⟨g, cap, hform⟩ := own_form hrow; subst hform)
          | (go_at_call 11; refine (lxAlive_any _ (hE.below hb1 (Nat.le_refl _))).mono ?_; rintro e w2 ⟨rfl, hb2⟩))
        have hk2 := (TvAt.of_own hrow).below hb2 (Nat.le_refl _)
        obtain ⟨g1, o1, c9, hv9, hg1, hcell⟩ := hk2.resolve_left (fun h => by have := congrArg List.length h.1; rw [List.length_map, List.length_nil] at this; omega)
        obtain ⟨hg9, hn9, hc9⟩ : g = some ⟨g1, o1, none⟩ ∧ True ∧ cap = c9 := by injection hv9 with e1 e2 e3; exact ⟨e1, trivial, e3⟩
        subst hg9; subst hc9
        obtain ⟨-, -, -, hcA⟩ := hcell k (Lx.tv s.size tk) (by rw [List.getElem?_map, ht]; rfl)
        have hcA2 : w2.cell? ⟨g1, o1 + k * 4 + 3, none⟩ = some (.int .i64 (a : Int)) := by rw [hcA]; show some (Value.int .i64 ((s.size - tk.left : Nat) : Int)) = _; rw [← ha]
        clear hcell hcA hv9 hrow c1 ha hn9
        by_cases hj1 : j = 1
        · subst hj1
          have hT : Hid ((s.extract 0 a ++ ⟨#[10, 9]⟩ ++ s.extract a s.size ++ ⟨#[10, 9]⟩).data.toList = s.data.toList.take a ++ ((10 : UInt8) :: ([9] : List UInt8)) ++ s.data.toList.drop a ++ ((10 : UInt8) :: ([9] : List UInt8))) := by
            show _ = _
            rw [lxApp, lxApp, lxApp, Lx.pre_list, Lx.rest]
          obtain ⟨hle, us, hcore, hus⟩ := Lx.put_lex hN ht (x := 10) (p := [9]) (by decide) Lx.put1
          rw [hleft] at hus
          have HUS : Hid (us.map Lx.Tok.core = ts.map Lx.Tok.core ∧ Lx.lexN ts.length (s.extract 0 a ++ ⟨#[10, 9]⟩ ++ s.extract a s.size ++ ⟨#[10, 9]⟩).data.toList = .good us) := ⟨hcore, by rw [hT.out]; exact hus⟩
          clear hcore hus hN ht hleft hT hle
          go_wp2
          go_quiet (fail)
          have hB3 := lxBd (lxTr hb1 hb2) nq
          have hE3 := hE.below hB3 (Nat.le_refl _)
          have hk3 := hk2.below (lxBd (Below.refl _ _) nq) (Nat.le_refl _)
          generalize hG : s.extract 0 a ++ ⟨#[10, 9]⟩ ++ s.extract a s.size ++ ⟨#[10, 9]⟩ = t at *
          by_cases hbig : 4096 < t.size
          · clear HUS hk2 hk3 hG
            go_wp2
            go_ret
            exact ⟨rfl, hB3⟩
          · have hlt : Lx.lex t.data.toList = .good us := Lx.lex_of (by rw [Nm.len]; omega) HUS.out.2 (by rw [Lx.core_len HUS.out.1]; exact hlen.out)
            have hsm := Lx.core_tv HUS.out.1 s.size t.size
            have hul := Lx.core_len HUS.out.1
            have hlm : (ts.map (Lx.tv s.size)).length ≤ maxLen := by rw [List.length_map]; have := hlen.out; unfold maxLen; omega
            have hum : (us.map (Lx.tv t.size)).length ≤ maxLen := by rw [List.length_map, hul]; have := hlen.out; unfold maxLen; omega
            have htm : t.size ≤ maxLen := by unfold maxLen; omega
            clear HUS hG hul
            go_wp2_with (first
              | (go_at_call 16; refine (lxSame_any _ _ _ _ _ (hk3.below hb4 (Nat.le_refl _)) (TvAt.of_own hrow4) hlm hum).mono ?_; rw [hsm]; rintro e w5 ⟨rfl, hb5⟩)
              | (go_at_call 9; refine (lxLex_good _ htm _ hE3 hlt).mono ?_; rintro e w4 ⟨⟨v4, rfl, hrow4⟩, hb4⟩))
            go_ret
            exact ⟨rfl, lxTr (lxTr hB3 hb4) hb5⟩
        · by_cases hj2 : j = 2
          · subst hj2
            have hT : Hid ((s.extract 0 a ++ ⟨#[32, 40, 42, 32, 97, 32, 40, 42, 32, 98, 32, 42, 41, 32, 39, 32, 42, 41, 32]⟩ ++ s.extract a s.size ++ ⟨#[32, 40, 42, 32, 97, 32, 40, 42, 32, 98, 32, 42, 41, 32, 39, 32, 42, 41, 32]⟩).data.toList = s.data.toList.take a ++ ((32 : UInt8) :: ([40, 42, 32, 97, 32, 40, 42, 32, 98, 32, 42, 41, 32, 39, 32, 42, 41, 32] : List UInt8)) ++ s.data.toList.drop a ++ ((32 : UInt8) :: ([40, 42, 32, 97, 32, 40, 42, 32, 98, 32, 42, 41, 32, 39, 32, 42, 41, 32] : List UInt8))) := by
              show _ = _
              rw [lxApp, lxApp, lxApp, Lx.pre_list, Lx.rest]
            obtain ⟨hle, us, hcore, hus⟩ := Lx.put_lex hN ht (x := 32) (p := [40, 42, 32, 97, 32, 40, 42, 32, 98, 32, 42, 41, 32, 39, 32, 42, 41, 32]) (by decide) Lx.put2
            rw [hleft] at hus
            have HUS : Hid (us.map Lx.Tok.core = ts.map Lx.Tok.core ∧ Lx.lexN ts.length (s.extract 0 a ++ ⟨#[32, 40, 42, 32, 97, 32, 40, 42, 32, 98, 32, 42, 41, 32, 39, 32, 42, 41, 32]⟩ ++ s.extract a s.size ++ ⟨#[32, 40, 42, 32, 97, 32, 40, 42, 32, 98, 32, 42, 41, 32, 39, 32, 42, 41, 32]⟩).data.toList = .good us) := ⟨hcore, by rw [hT.out]; exact hus⟩
            clear hcore hus hN ht hleft hT hle
            go_wp2
            go_quiet (fail)
            have hB3 := lxBd (lxTr hb1 hb2) nq
            have hE3 := hE.below hB3 (Nat.le_refl _)
            have hk3 := hk2.below (lxBd (Below.refl _ _) nq) (Nat.le_refl _)
            generalize hG : s.extract 0 a ++ ⟨#[32, 40, 42, 32, 97, 32, 40, 42, 32, 98, 32, 42, 41, 32, 39, 32, 42, 41, 32]⟩ ++ s.extract a s.size ++ ⟨#[32, 40, 42, 32, 97, 32, 40, 42, 32, 98, 32, 42, 41, 32, 39, 32, 42, 41, 32]⟩ = t at *
            by_cases hbig : 4096 < t.size
            · clear HUS hk2 hk3 hG
              go_wp2
              go_ret
              exact ⟨rfl, hB3⟩
            · have hlt : Lx.lex t.data.toList = .good us := Lx.lex_of (by rw [Nm.len]; omega) HUS.out.2 (by rw [Lx.core_len HUS.out.1]; exact hlen.out)
              have hsm := Lx.core_tv HUS.out.1 s.size t.size
              have hul := Lx.core_len HUS.out.1
              have hlm : (ts.map (Lx.tv s.size)).length ≤ maxLen := by rw [List.length_map]; have := hlen.out; unfold maxLen; omega
              have hum : (us.map (Lx.tv t.size)).length ≤ maxLen := by rw [List.length_map, hul]; have := hlen.out; unfold maxLen; omega
              have htm : t.size ≤ maxLen := by unfold maxLen; omega
              clear HUS hG hul
              go_wp2_with (first
                | (go_at_call 16; refine (lxSame_any _ _ _ _ _ (hk3.below hb4 (Nat.le_refl _)) (TvAt.of_own hrow4) hlm hum).mono ?_; rw [hsm]; rintro e w5 ⟨rfl, hb5⟩)
                | (go_at_call 9; refine (lxLex_good _ htm _ hE3 hlt).mono ?_; rintro e w4 ⟨⟨v4, rfl, hrow4⟩, hb4⟩))
              go_ret
              exact ⟨rfl, lxTr (lxTr hB3 hb4) hb5⟩
          · have hj3 := hj1
            have hT : Hid ((s.extract 0 a ++ ⟨#[32]⟩ ++ s.extract a s.size ++ ⟨#[32]⟩).data.toList = s.data.toList.take a ++ ((32 : UInt8) :: ([] : List UInt8)) ++ s.data.toList.drop a ++ ((32 : UInt8) :: ([] : List UInt8))) := by
              show _ = _
              rw [lxApp, lxApp, lxApp, Lx.pre_list, Lx.rest]
            obtain ⟨hle, us, hcore, hus⟩ := Lx.put_lex hN ht (x := 32) (p := []) (by decide) Lx.put0
            rw [hleft] at hus
            have HUS : Hid (us.map Lx.Tok.core = ts.map Lx.Tok.core ∧ Lx.lexN ts.length (s.extract 0 a ++ ⟨#[32]⟩ ++ s.extract a s.size ++ ⟨#[32]⟩).data.toList = .good us) := ⟨hcore, by rw [hT.out]; exact hus⟩
            clear hcore hus hN ht hleft hT hle
            go_wp2
            go_quiet (fail)
            have hB3 := lxBd (lxTr hb1 hb2) nq
            have hE3 := hE.below hB3 (Nat.le_refl _)
            have hk3 := hk2.below (lxBd (Below.refl _ _) nq) (Nat.le_refl _)
            generalize hG : s.extract 0 a ++ ⟨#[32]⟩ ++ s.extract a s.size ++ ⟨#[32]⟩ = t at *
            by_cases hbig : 4096 < t.size
            · clear HUS hk2 hk3 hG
              go_wp2
              go_ret
              exact ⟨rfl, hB3⟩
            · have hlt : Lx.lex t.data.toList = .good us := Lx.lex_of (by rw [Nm.len]; omega) HUS.out.2 (by rw [Lx.core_len HUS.out.1]; exact hlen.out)
              have hsm := Lx.core_tv HUS.out.1 s.size t.size
              have hul := Lx.core_len HUS.out.1
              have hlm : (ts.map (Lx.tv s.size)).length ≤ maxLen := by rw [List.length_map]; have := hlen.out; unfold maxLen; omega
              have hum : (us.map (Lx.tv t.size)).length ≤ maxLen := by rw [List.length_map, hul]; have := hlen.out; unfold maxLen; omega
              have htm : t.size ≤ maxLen := by unfold maxLen; omega
              clear HUS hG hul
              go_wp2_with (first
                | (go_at_call 16; refine (lxSame_any _ _ _ _ _ (hk3.below hb4 (Nat.le_refl _)) (TvAt.of_own hrow4) hlm hum).mono ?_; rw [hsm]; rintro e w5 ⟨rfl, hb5⟩)
                | (go_at_call 9; refine (lxLex_good _ htm _ hE3 hlt).mono ?_; rintro e w4 ⟨⟨v4, rfl, hrow4⟩, hb4⟩))
              go_ret
              exact ⟨rfl, lxTr (lxTr hB3 hb4) hb5⟩
end Go.Proofs.YtfjcnncpmhfbnaaDoor
