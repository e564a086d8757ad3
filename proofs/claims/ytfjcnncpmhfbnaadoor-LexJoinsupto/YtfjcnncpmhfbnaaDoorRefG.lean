/- What the document's Lex comes to: the tokens of a text, or the first place where it has none. -/
import Derived.Test.YtfjcnncpmhfbnaaDoorRefF
namespace Go.Proofs.YtfjcnncpmhfbnaaDoor
open Go.RowKit
set_option linter.unusedVariables false

theorem info_rtok : (Tryd.prog.info? 32).map (fun i => (i.zero, i.size, i.bytes)) = some (some (.agg #[.int .i64 0, .string ⟨#[]⟩, .int .i64 0, .int .i64 0]), 4, 40) := by kernel_rfl
/-- What the document's Lex hands back. -/
def RLexAns (R : Lx.Res) (S B : Nat) (e : Ending) (w' : World) : Prop := match R with
  | .bad n c => e = .returned (.tuple #[.slice none 0 0, .int .i64 ((S - n : Nat) : Int), .int .i64 c])
  | .good ts => ∃ v, e = .returned (.tuple #[v, .int .i64 0, .int .i64 0]) ∧ w'.ownsRow B 32 4 v ts.length (ts.flatMap (Lx.cells S))
theorem RLexAns.bad {R : Lx.Res} {S B n : Nat} {c : Int} (h : R = .bad n c) {p : Int} (hp : p = ((S - n : Nat) : Int)) (w' : World) : RLexAns R S B (.returned (.tuple #[.slice none 0 0, .int .i64 p, .int .i64 c])) w' := by rw [h, hp]; rfl
theorem rfNext_bad {s : ByteArray} {p : Nat} (hp : p < s.size) (hs : s.size ≤ 4096) {c : Int} (h : Lx.next (s.data.toList.drop p) = .bad c) (w : World) :
    Calls Tryd.prog 21 #[.string s, .int .i64 p] w fun e w' => (∃ (k : Int) (t : ByteArray) (n a : Int), e = .returned (.tuple #[.agg #[.int .i64 k, .string t, .int .i64 n, .int .i64 a], .int .i64 c])) ∧ Below w.heap.size w w' := by
  refine (rfNext_any s p hp hs w).mono ?_
  rintro e w' ⟨ha, hb⟩
  rw [h] at ha
  exact ⟨ha, hb⟩
theorem rfNext_good {s : ByteArray} {p : Nat} (hp : p < s.size) (hs : s.size ≤ 4096) {k n : Nat} (h : Lx.next (s.data.toList.drop p) = .good k n) {T : ByteArray} (hT : (⟨(Lx.text (s.data.toList.drop p)).toArray⟩ : ByteArray) = T) (w : World) :
    Calls Tryd.prog 21 #[.string s, .int .i64 p] w fun e w' => e = .returned (.tuple #[.agg #[.int .i64 (k : Int), .string T, .int .i64 (n : Int), .int .i64 (p : Int)], .int .i64 0]) ∧ Below w.heap.size w w' := by
  refine (rfNext_any s p hp hs w).mono ?_
  rintro e w' ⟨ha, hb⟩
  rw [h, hT] at ha
  exact ⟨ha, hb⟩

set_option maxRecDepth 100000 in
set_option maxHeartbeats 4000000 in
theorem rfLex_any (s : ByteArray) (hs : s.size ≤ maxLen) (w : World) :
    Calls Tryd.prog 10 #[.string s] w fun e w' => RLexAns (Lx.lex s.data.toList) s.size w.heap.size e w' ∧ Below w.heap.size w w' := by
  unfold maxLen at hs
  by_cases hbig : 4096 < s.size
  · have H : Hid (Lx.lex s.data.toList = .bad s.size 3) := by show _ = _; unfold Lx.lex; rw [Nm.len, if_pos hbig]
    have hb0 : Hid (s.size - s.size = 0) := by show _ = _; omega
    have hb2 : (4096 : Int) < (s.size : Int) := by omega
    clear hbig hs
    go_enter Tryd.func10, Tryd.ntmps10
    go_wp2
    go_ret3
    exact ⟨RLexAns.bad H.out (by rw [hb0.out]; rfl) _, Below.refl _ _⟩
  · have hs4 : s.size ≤ 4096 := by omega
    have H : Hid (Lx.lex s.data.toList = Lx.lexN 1024 s.data.toList) := by show _ = _; unfold Lx.lex; rw [Nm.len, if_neg hbig]
    obtain ⟨i0, hi, hz0, hz1, hz2⟩ := info_parts info_rtok
    have hsk0 : ∀ w, Calls Tryd.prog 20 #[.string s, .int .i64 0] w fun e w' => e = .returned (.tuple #[.int .i64 ((s.size - (Lx.skip (s.data.toList.drop 0)).1.length : Nat) : Int), .bool (Lx.skip (s.data.toList.drop 0)).2]) ∧ w' = w := fun w => rfSkip_any s 0 hs4 (Nat.zero_le _) w
    have hsk := fun (p : Nat) (hp : p ≤ s.size) w => rfSkip_any s p hs4 hp w
    clear hs
    generalize hA0 : ((s.size - (Lx.skip (s.data.toList.drop 0)).1.length : Nat) : Int) = A0 at hsk0
    generalize hB0 : (Lx.skip (s.data.toList.drop 0)).2 = B0 at hsk0
    have HA0 : Hid (A0 = ((s.size - (Lx.skip (s.data.toList.drop 0)).1.length : Nat) : Int)) := hA0.symm
    have HB0 : Hid (B0 = (Lx.skip (s.data.toList.drop 0)).2) := hB0.symm
    have HSK : Hid (∀ (p : Nat) (hp : p ≤ s.size) w, Calls Tryd.prog 20 #[.string s, .int .i64 (p : Int)] w fun e w' => e = .returned (.tuple #[.int .i64 ((s.size - (Lx.skip (s.data.toList.drop p)).1.length : Nat) : Int), .bool (Lx.skip (s.data.toList.drop p)).2]) ∧ w' = w) := hsk
    clear hA0 hB0 hsk
    go_enter Tryd.func10, Tryd.ntmps10
    go_wp2_with (go_at_call 20; refine (hsk0 _).mono ?_; rintro e w1 ⟨rfl, hw1⟩; rw [hw1]; clear hw1 w1)
    clear hsk0
    go_loopw [5, 6, 7] (fun lv av kv wr => ∃ (pre : List Lx.Tok) (k : Nat), k ≤ s.size ∧ pre.length ≤ 1024 ∧ Hid (av = .int .i64 ((s.size - (Lx.skip (s.data.toList.drop k)).1.length : Nat) : Int)) ∧ Hid (kv = .bool (Lx.skip (s.data.toList.drop k)).2) ∧ Hid (Lx.lexN 1024 s.data.toList = (Lx.lexN (1024 - pre.length) (s.data.toList.drop k)).puts pre) ∧ wr.ownsRow w.heap.size 32 4 lv pre.length (pre.flatMap (Lx.cells s.size)) ∧ Below w.heap.size w wr) (fun _ av _ _ => s.size - (intOf av).toNat)
    case atStart => exact ⟨[], 0, Nat.zero_le _, Nat.zero_le _, by rw [HA0.out]; rfl, by rw [HB0.out]; rfl, (Lx.puts_nil _).symm, World.ownsRow_nil _ _ _ _, Below.refl _ _⟩
    case round =>
      obtain ⟨pre, k, hk, hpl, hav, hkv, hx, hrow, hB⟩ := hrel
      clear HA0 HB0
      have hx2 := hx.out
      rw [Lx.lexN_eq (1024 - pre.length)] at hx2
      have hlen := Lx.skip_len _ (s.data.toList.drop k) (Nat.le_refl _)
      have hdrop := Lx.skip_drop _ (s.data.toList.drop k) (Nat.le_refl _)
      rw [List.length_drop, Nm.len] at hlen hdrop
      rw [List.drop_drop, show k + (s.size - k - (Lx.skip (s.data.toList.drop k)).1.length) = s.size - (Lx.skip (s.data.toList.drop k)).1.length by omega] at hdrop
      have hav2 := hav.out
      have hkv2 := hkv.out
      clear hav hkv
      generalize hq : Lx.skip (s.data.toList.drop k) = q at *
      obtain ⟨r, ok⟩ := q
      simp only at hx2 hlen hdrop hav2 hkv2
      clear hx hq
      obtain ⟨a, ha⟩ : ∃ a, a = s.size - r.length := ⟨_, rfl⟩
      have hka : k ≤ a := by omega
      have haS : a ≤ s.size := by omega
      have hra : r.length = s.size - a := by omega
      rw [← ha] at hdrop hav2
      rw [hra] at hx2
      clear hlen ha
      subst hav2
      subst hkv2
      cases ok with
      | false =>
        rw [if_pos rfl] at hx2
        have HX : Hid (Lx.lex s.data.toList = .bad (s.size - a) 10) := by show _ = _; rw [H.out, hx2]; rfl
        clear hx2 H
        go_wp2
        go_ret3
        exact ⟨RLexAns.bad HX.out (by omega) _, hB⟩
      | true =>
        rw [if_neg (by simp)] at hx2
        by_cases haE : a = s.size
        · have hr0 : r = [] := List.eq_nil_of_length_eq_zero (by omega)
          rw [if_pos hr0] at hx2
          have HX : Hid (Lx.lex s.data.toList = .good pre) := by show _ = _; rw [H.out, hx2]; show Lx.Res.good (pre ++ []) = _; rw [List.append_nil]
          subst haE
          clear hx2 H hdrop hr0
          go_wp2
          go_ret3
          refine ⟨?_, hB⟩
          rw [HX.out]
          exact ⟨_, rfl, hrow⟩
        · have hr1 : ¬ r = [] := fun e => by rw [e] at hra; simp at hra; omega
          rw [if_neg hr1] at hx2
          have haL : a < s.size := by omega
          cases hn : Lx.next r with
          | bad c =>
            rw [hn] at hx2
            have HX : Hid (Lx.lex s.data.toList = .bad (s.size - a) c) := by show _ = _; rw [H.out, hx2]; rfl
            have hc := Lx.bad_codes hn
            have hrd := fun w => rfNext_bad haL hs4 (by rw [← hdrop]; exact hn) w
            clear hx2 H hdrop hr1 hn haE
            rcases hc with rfl | rfl | rfl
            · go_wp2_with (go_at_call 21; refine (hrd _).mono ?_; rintro e w2 ⟨⟨v0, v1, v2, v3, hv⟩, hb2⟩; subst hv)
              go_ret3
              exact ⟨RLexAns.bad HX.out (by omega) _, lxBa (lxTr hB hb2) _⟩
            · go_wp2_with (go_at_call 21; refine (hrd _).mono ?_; rintro e w2 ⟨⟨v0, v1, v2, v3, hv⟩, hb2⟩; subst hv)
              go_ret3
              exact ⟨RLexAns.bad HX.out (by omega) _, lxBa (lxTr hB hb2) _⟩
            · go_wp2_with (go_at_call 21; refine (hrd _).mono ?_; rintro e w2 ⟨⟨v0, v1, v2, v3, hv⟩, hb2⟩; subst hv)
              go_ret3
              exact ⟨RLexAns.bad HX.out (by omega) _, lxBa (lxTr hB hb2) _⟩
          | good kd n =>
            rw [hn] at hx2
            obtain ⟨g, cap, hform⟩ := own_form hrow
            subst hform
            have hts : (⟨(Lx.text r).toArray⟩ : ByteArray).size = (Lx.text r).length := by
              show (Lx.text r).toArray.size = _; simp
            generalize hT : (⟨(Lx.text r).toArray⟩ : ByteArray) = T at *
            have hrd := fun w => rfNext_good haL hs4 (T := T) (show Lx.next (s.data.toList.drop a) = .good kd n by rw [← hdrop]; exact hn) (by rw [← hdrop]; exact hT) w
            by_cases hfull : pre.length = 1024
            · rw [hfull] at hx2
              have HX : Hid (Lx.lex s.data.toList = .bad (s.size - a) 3) := by show _ = _; rw [H.out, hx2]; rfl
              clear hx2 H hdrop hr1 hn haE hT hts
              go_wp2_with (go_at_call 21; refine (hrd _).mono ?_; rintro e w2 ⟨rfl, hb2⟩)
              go_ret3
              exact ⟨RLexAns.bad HX.out (by omega) _, lxBa (lxTr hB hb2) _⟩
            · have hc1 : 1024 - pre.length = (1024 - (pre.length + 1)) + 1 := by omega
              rw [hc1] at hx2
              simp only at hx2
              rw [Lx.puts_on, hdrop, List.drop_drop, ← hdrop] at hx2
              have hk1 := Lx.next_kind hn
              have htp := Lx.text_pos r hk1.1
              have htl : (Lx.text r).length ≤ s.size - a := by
                have := congrArg List.length (Lx.text_pre r)
                rw [List.length_append, hra] at this; omega
              have HX : Hid (Lx.lexN 1024 s.data.toList = (Lx.lexN (1024 - (pre ++ [(⟨kd, Lx.text r, n, s.size - a⟩ : Lx.Tok)]).length) (s.data.toList.drop (a + T.size))).puts (pre ++ [(⟨kd, Lx.text r, n, s.size - a⟩ : Lx.Tok)])) := by
                show _ = _
                rw [List.length_append, hts]; exact hx2
              have HC : Hid ((pre ++ [(⟨kd, Lx.text r, n, s.size - a⟩ : Lx.Tok)]).flatMap (Lx.cells s.size) = pre.flatMap (Lx.cells s.size) ++ [.int .i64 (kd : Int), .string T, .int .i64 (n : Int), .int .i64 (a : Int)]) := by
                show _ = _
                rw [List.flatMap_append]
                show _ ++ (Lx.cells s.size _ ++ []) = _
                rw [List.append_nil]
                unfold Lx.cells
                rw [hT, show s.size - (s.size - a) = a by omega]
              have ht1 : 1 ≤ T.size := by omega
              have ht2 : a + T.size ≤ s.size := by omega
              obtain ⟨en, hen⟩ : ∃ en, en = a + T.size := ⟨_, rfl⟩
              have hen2 : (a : Int) + (T.size : Int) = (en : Int) := by omega
              have hsk := HSK.out en (by omega)
              obtain ⟨a2, ha2⟩ : ∃ a2, a2 = s.size - (Lx.skip (s.data.toList.drop en)).1.length := ⟨_, rfl⟩
              have hlen2 := Lx.skip_len _ (s.data.toList.drop en) (Nat.le_refl _)
              rw [List.length_drop, Nm.len] at hlen2
              have hlt2 : a < a2 := by omega
              obtain ⟨b2, hb20⟩ : ∃ b2, b2 = (Lx.skip (s.data.toList.drop en)).2 := ⟨_, rfl⟩
              rw [← ha2, ← hb20] at hsk
              have HA : Hid (a2 = s.size - (Lx.skip (s.data.toList.drop en)).1.length) := ha2
              have HBb : Hid (b2 = (Lx.skip (s.data.toList.drop en)).2) := hb20
              rw [← hen] at HX
              have henS : en ≤ s.size := by omega
              have ha2S : a2 ≤ s.size := by omega
              clear hx2 H hdrop hr1 hn haE hk1 htp htl hts hT hc1 HSK ha2 hb20 hlen2 hen
              go_wp2_with (first
                | (go_at_call 21; refine (hrd _).mono ?_; rintro e w2 ⟨rfl, hb2⟩; have hrow2 := own_below hrow hb2; have hB2 := lxTr hB hb2)
                | (go_at_call 20; refine (hsk _).mono ?_; rintro e w4 ⟨rfl, hw4⟩; rw [hw4]; clear hw4 w4)
                | (at_builtin; refine wpList_append_own _ rfl _ _ 26 rfl w.heap.size 32 i0 (.agg #[.int .i64 0, .string ⟨#[]⟩, .int .i64 0, .int .i64 0]) 4 40 Tryd.underlying26 hi hz0 hz1 hz2 rfl (by decide) _ _ _ rfl ((hrow2.alloc _).alloc _) ⟨w2.heap.size + 1, 0, none⟩ 1 1 [.int .i64 (kd : Int), .string T, .int .i64 (n : Int), .int .i64 (a : Int)] rfl rfl (by simpa using cells_new (w2.alloc _) _ _ _ _ _) (by simp [Value.oneCell']) (by unfold maxLen; omega) (by omega) (by have := hB2.size; simp; omega) ?_; intro v' w3 hown' hgrow _; have ht3 : w3.cell? ⟨w2.heap.size, 1, none⟩ = some (.string T) := hgrow.cell (by simp [go_sem]) (own_ne hrow2)))
              go_roundw
              case rel => exact ⟨pre ++ [(⟨kd, Lx.text r, n, s.size - a⟩ : Lx.Tok)], en, henS, by rw [List.length_append]; show pre.length + 1 ≤ 1024; omega, by rw [← HA.out]; rfl, by rw [← HBb.out]; rfl, HX, by rw [HC.out, List.length_append]; exact hown', (lxBa (lxBa hB2 _) _).grown hgrow (by have := hB2.size; simp; omega) (lxBlock hrow)⟩
              case measure => simp [intOf]; omega
end Go.Proofs.YtfjcnncpmhfbnaaDoor
