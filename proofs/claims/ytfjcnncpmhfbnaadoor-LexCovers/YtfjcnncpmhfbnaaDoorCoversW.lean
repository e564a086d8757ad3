/- The walk of LexCovers. -/
import Derived.Test.YtfjcnncpmhfbnaaDoorBlanksW
namespace Go.Proofs.YtfjcnncpmhfbnaaDoor
open Go.RowKit
set_option linter.unusedVariables false

theorem Lx.lex_le {l : List UInt8} {n : Nat} {c : Int} (h : Lx.lex l = .bad n c) : n ≤ l.length := by
  have key : ∀ (k : Nat) (l : List UInt8), Lx.lexN k l = .bad n c → n ≤ l.length := by
    intro k
    induction k with
    | zero =>
      intro l h
      have hl := Lx.skip_len _ l (Nat.le_refl _)
      rw [Lx.lexN_eq] at h
      split at h
      · cases h; exact hl
      · split at h
        · cases h
        · split at h
          · cases h; exact hl
          · cases h; exact hl
    | succ k ih =>
      intro l h
      have hl := Lx.skip_len _ l (Nat.le_refl _)
      rw [Lx.lexN_eq] at h
      split at h
      · cases h; exact hl
      · split at h
        · cases h
        · split at h
          · cases h; exact hl
          · simp only at h
            cases hR : Lx.lexN k ((Lx.skip l).1.drop (Lx.text (Lx.skip l).1).length) with
            | bad n2 c2 =>
              rw [hR] at h; cases h
              have := ih _ hR
              rw [List.length_drop] at this; omega
            | good ts => rw [hR] at h; cases h
  unfold Lx.lex at h
  split at h
  · cases h; exact Nat.le_refl _
  · exact key _ _ h
/-- What lies ahead of the first token has none, and the token is the text at its place. -/
theorem Lx.cover {c : Nat} {l : List UInt8} {a : Lx.Tok} {ts : List Lx.Tok} (h : Lx.lexN c l = .good (a :: ts)) :
    a.left ≤ l.length ∧ a.text.length ≤ a.left ∧ 1 ≤ a.text.length ∧ (l.drop (l.length - a.left)).take a.text.length = a.text ∧ 1 ≤ a.kind ∧ a.kind ≤ 6 ∧ (a.kind ≠ 4 → a.n = 0) ∧ a.n ≤ 9223372036854775807 ∧
    (∀ m, Lx.skip (l.take (l.length - a.left) ++ m) = Lx.skip m) ∧ Lx.lexN (c - 1) (l.drop (l.length - a.left + a.text.length)) = .good ts := by
  obtain ⟨q, r, c0, rfl, e, hm, hl, ha, h2⟩ := Lx.lexN_uncons h
  have hk := Lx.next_kind ha.next
  have hlen : l.length = q.length + a.left := by rw [e, List.length_append, hl]
  have hq : l.length - a.left = q.length := by omega
  have hat : a.left = a.text.length + r.length := by rw [hl, List.length_append]
  refine ⟨by omega, by omega, ha.pos, ?_, hk.2.1, hk.2.2.1, hk.2.2.2.1, hk.2.2.2.2, ?_, ?_⟩
  · rw [hq, e, List.drop_left, List.take_left]
  · rw [hq, e, List.take_left]; exact hm
  · rw [hq, e, ← List.append_assoc, ← List.length_append, List.drop_left]; exact h2
theorem Lx.gap (s : ByteArray) (f a : Nat) : (s.extract f a).data.toList = (s.data.toList.drop f).take (a - f) := by
  rw [ByteArray.data_extract, Array.toList_extract, List.extract_eq_take_drop]

set_option maxRecDepth 100000 in
set_option maxHeartbeats 4000000 in
theorem covers_walk (s : ByteArray) (hs : s.size ≤ 140737488351232) (w : World) (hE : Er w) :
    Calls Tryd.prog 6 #[.string s] w fun e w' => e = .returned (.bool true) ∧ Below w.heap.size w w' := by
  have hsm : s.size ≤ maxLen := by unfold maxLen; omega
  cases hR : Lx.lex s.data.toList with
  | bad n c =>
    have hc := Lx.lex_codes hR
    have c1 := lxLex_bad s hsm w hE hR
    obtain ⟨p, hp⟩ : ∃ p, p = s.size - n := ⟨_, rfl⟩
    rw [← hp] at c1
    have hp2 : (p : Int) ≤ (s.size : Int) := by omega
    clear hs hsm hR hp
    go_enter Tryd.func6, Tryd.ntmps6
    go_wp2_with (first
      | (go_at_call 9; refine c1.mono ?_; rintro e w1 ⟨rfl, hb1⟩)
      | (go_at_call 11; refine (lxAlive_any _ (hE.below hb1 (Nat.le_refl _))).mono ?_; rintro e w2 ⟨rfl, hb2⟩))
    go_ret
    exact ⟨rfl, lxTr hb1 hb2⟩
  | good ts =>
    obtain ⟨hL4, hlen0, hN⟩ := Lx.lex_good hR
    have hlen : Hid (ts.length ≤ 1024) := hlen0
    have c1 := lxLex_good s hsm w hE hR
    rw [Nm.len] at hL4
    have HN : Hid (Lx.lexN 1024 s.data.toList = .good ts) := hN
    clear hs hsm hR hN
    go_enter Tryd.func6, Tryd.ntmps6
    go_upto_region 4 with (go_at_call 9; refine c1.mono ?_; rintro e w1 ⟨⟨v, rfl, hrow⟩, hb1⟩; obtain ⟨g, cap, hform⟩ := own_form hrow; subst hform)
    go_wp2
    go_loopw [6, 7] (fun fv iv wr => ∃ f i : Nat, fv = .int .i64 f ∧ iv = .int .i64 i ∧ f ≤ s.size ∧ i ≤ ts.length ∧ Hid (∃ c, Lx.lexN c (s.data.toList.drop f) = .good (ts.drop i)) ∧ Below w1.heap.size w1 wr) (fun _ iv _ => ts.length - (intOf iv).toNat)
    case atStart => exact ⟨0, 0, rfl, rfl, Nat.zero_le _, Nat.zero_le _, ⟨1024, HN.out⟩, Below.refl _ _⟩
    case round =>
      obtain ⟨f, i, rfl, rfl, hf, hi, hH, hB⟩ := hrel
      have hBw := lxTr hb1 hB
      have hEr := hE.below hBw (Nat.le_refl _)
      by_cases hlt : i < ts.length
      · obtain ⟨t, ht⟩ : ∃ t, ts[i]? = some t := ⟨_, List.getElem?_eq_getElem hlt⟩
        have hd : ts.drop i = t :: ts.drop (i + 1) := by
          obtain ⟨h1, e1⟩ := List.getElem?_eq_some_iff.1 ht
          rw [List.drop_eq_getElem_cons h1, e1]
        obtain ⟨c0, hc0⟩ := hH.out
        rw [hd] at hc0
        obtain ⟨q1, q2, q3, q4, q5, q6, q7, q8, q9, q10⟩ := Lx.cover hc0
        rw [List.length_drop, Nm.len] at q1 q4 q9 q10
        obtain ⟨a, ha⟩ : ∃ a, a = s.size - t.left := ⟨_, rfl⟩
        have ha2 : s.size - f - t.left = a - f := by omega
        rw [ha2] at q4 q9 q10
        have hfa : f ≤ a := by omega
        rw [List.drop_drop, show f + (a - f) = a by omega] at q4
        rw [List.drop_drop, show f + (a - f + t.text.length) = a + t.text.length by omega] at q10
        obtain ⟨T, hT⟩ : ∃ T : ByteArray, T = ⟨t.text.toArray⟩ := ⟨_, rfl⟩
        have hTs : T.size = t.text.length := by rw [hT]; show t.text.toArray.size = _; simp
        have haT : a + T.size ≤ s.size := by omega
        have hT1 : 1 ≤ T.size := by omega
        have heq : s.extract a (a + T.size) = T := by
          have e : (s.extract a (a + T.size)).data.toList = t.text := by rw [Lx.gap, show a + T.size - a = t.text.length by omega]; exact q4
          have e2 : (⟨t.text.toArray⟩ : ByteArray) = s.extract a (a + T.size) := by rw [← e]
          exact e2.symm.trans hT.symm
        have hgap : Lx.lex (s.extract f a).data.toList = .good [] := by
          rw [Lx.gap]
          exact Lx.lex_of (c := 0) (by rw [List.length_take, List.length_drop, Nm.len]; omega) (Lx.lexN_nil q9 0) (by simp)
        have hgm : (s.extract f a).size ≤ maxLen := by rw [ByteArray.size_extract]; unfold maxLen; omega
        have HX : Hid (∃ c, Lx.lexN c (s.data.toList.drop (a + T.size)) = .good (ts.drop (i + 1))) := ⟨_, by rw [hTs]; exact q10⟩
        have hk2 := (TvAt.of_own hrow).below hB (Nat.le_refl _)
        obtain ⟨g1, o1, c9, hv9, hg1, hcell⟩ := hk2.resolve_left (fun h => by have := congrArg List.length h.1; rw [List.length_map, List.length_nil] at this; omega)
        obtain ⟨hg9, hc9⟩ : g = some ⟨g1, o1, none⟩ ∧ cap = c9 := by injection hv9 with e1 e2 e3; exact ⟨e1, e3⟩
        subst hg9; subst hc9
        obtain ⟨k0, k1, k2, k3⟩ := hcell i (Lx.tv s.size t) (by rw [List.getElem?_map, ht]; rfl)
        have l0 : wr.cell? ⟨g1, o1 + i * 4, none⟩ = some (.int .i64 (t.kind : Int)) := k0
        have l1 : wr.cell? ⟨g1, o1 + i * 4 + 1, none⟩ = some (.string T) := by rw [k1, hT]; rfl
        have l2 : wr.cell? ⟨g1, o1 + i * 4 + 2, none⟩ = some (.int .i64 (t.n : Int)) := k2
        have l3 : wr.cell? ⟨g1, o1 + i * 4 + 3, none⟩ = some (.int .i64 (a : Int)) := by rw [k3, ha]; rfl
        have c2 := fun w h => lxLex_good (s.extract f a) hgm w h hgap
        obtain ⟨en, hen⟩ : ∃ en, en = a + T.size := ⟨_, rfl⟩
        have hen2 : (a : Int) + (T.size : Int) = (en : Int) := by omega
        have hen3 : a ≤ en := by omega
        have hen4 : IntKind.i64.wrap (en : Int) = (en : Int) := by simp [IntKind.wrap, IntKind.bits, IntKind.signed]; omega
        rw [← hen] at haT heq HX
        have teq : ((s.extract a en).toList == T.toList) = true := by rw [heq]; exact beq_self_eq_true _
        clear heq
        have f1 : (((T.size : Nat) : Int) == 0) = false := by rw [beq_eq_false_iff_ne]; omega
        have f2 : decide ((a : Int) < (f : Int)) = false := by rw [decide_eq_false_iff_not]; omega
        obtain ⟨r, hr⟩ : ∃ r, r = s.size - T.size := ⟨_, rfl⟩
        have hr2 : IntKind.i64.wrap ((s.size : Int) - (T.size : Int)) = (r : Int) := by
          simp [IntKind.wrap, IntKind.bits, IntKind.signed]; omega
        have f3 : decide ((r : Int) < (a : Int)) = false := by rw [decide_eq_false_iff_not]; omega
        have f3n : decide (r < a) = false := by rw [decide_eq_false_iff_not]; omega
        have f2n : decide (a < f) = false := by rw [decide_eq_false_iff_not]; omega
        have f4n : ¬ t.kind = 0 := by omega
        have f5n : ¬ 6 < t.kind := by omega
        have f4 : decide ((t.kind : Int) < 1) = false := by rw [decide_eq_false_iff_not]; omega
        have f5 : decide ((6 : Int) < (t.kind : Int)) = false := by rw [decide_eq_false_iff_not]; omega
        clear hcell k0 k1 k2 k3 hv9 hk2 HN hH hd hc0 q1 q2 q3 q4 q9 q10 ha ha2 hTs hT hgap hgm ht c1 hr hen
        by_cases hk4 : t.kind = 4
        · have hk4' : ((t.kind : Int)) = 4 := by omega
          rw [hk4'] at l0
          clear q7 q5 q6 hk4 hk4' f4 f5 f4n f5n
          go_wp2
          dsimp only [List.append]
          go_big_quiet (fail)
          go_wp2_with (go_at_call 9; refine (c2 _ (hEr.below (lxBd (Below.refl _ _) nq) (Nat.le_refl _))).mono ?_; rintro e w3 ⟨⟨v3, rfl, hrow3⟩, hb3⟩; obtain ⟨g3, cap3, hform3⟩ := own_form hrow3; subst hform3; have l3' := ((lxBd (Below.refl wr.heap.size wr) nq).trans (hb3.mono (Nat.le_refl _))).cell (p := ⟨g1, o1 + i * 4 + 3, none⟩) hg1; rw [l3] at l3')
          go_roundw
          case rel => exact ⟨en, i + 1, by first | rfl | go_num, by go_num, haT, by omega, HX, lxTr (lxBd hB nq) hb3⟩
          case measure => simp [intOf]; omega
        · have hn0 : ((t.n : Nat) : Int) = 0 := by have := q7 hk4; omega
          have hk4' : ((t.kind : Int) == 4) = false := by rw [beq_eq_false_iff_ne]; omega
          rw [hn0] at l2
          obtain ⟨kd, hkd⟩ : ∃ kd : Int, (t.kind : Int) = kd := ⟨_, rfl⟩
          rw [hkd] at l0 f4 f5 hk4'
          have hk4b : (kd != 4) = true := by simp only [bne, hk4']; rfl
          clear q7 q5 q6 hn0 hkd f4n f5n hk4
          go_wp2
          dsimp only [List.append]
          go_big_quiet (fail)
          go_wp2_with (go_at_call 9; refine (c2 _ (hEr.below (lxBd (Below.refl _ _) nq) (Nat.le_refl _))).mono ?_; rintro e w3 ⟨⟨v3, rfl, hrow3⟩, hb3⟩; obtain ⟨g3, cap3, hform3⟩ := own_form hrow3; subst hform3; have l3' := ((lxBd (Below.refl wr.heap.size wr) nq).trans (hb3.mono (Nat.le_refl _))).cell (p := ⟨g1, o1 + i * 4 + 3, none⟩) hg1; rw [l3] at l3')
          go_roundw
          case rel => exact ⟨en, i + 1, by first | rfl | go_num, by go_num, haT, by omega, HX, lxTr (lxBd hB nq) hb3⟩
          case measure => simp [intOf]; omega
      · have hfin : ts.drop i = [] := List.drop_eq_nil_of_le (by omega)
        obtain ⟨c0, hc0⟩ := hH.out
        rw [hfin] at hc0
        have hend : Lx.lex (s.extract f s.size).data.toList = .good [] := by
          rw [Lx.rest]
          exact Lx.lex_of (by rw [List.length_drop, Nm.len]; omega) hc0 (by simp)
        have hem : (s.extract f s.size).size ≤ maxLen := by rw [ByteArray.size_extract]; unfold maxLen; omega
        have c2 := fun w h => lxLex_good (s.extract f s.size) hem w h hend
        clear HN hH hc0 hfin hend hem c1
        go_wp2_with (first
          | (go_at_call 9; refine (c2 _ hEr).mono ?_; rintro e w3 ⟨⟨v3, rfl, hrow3⟩, hb3⟩; obtain ⟨g3, cap3, hform3⟩ := own_form hrow3; subst hform3)
          | (go_at_call 11; refine (lxAlive_any _ (hEr.below hb3 (Nat.le_refl _))).mono ?_; rintro e w4 ⟨rfl, hb4⟩))
        go_ret
        exact ⟨rfl, lxTr (lxTr hBw hb3) hb4⟩
end Go.Proofs.YtfjcnncpmhfbnaaDoor
