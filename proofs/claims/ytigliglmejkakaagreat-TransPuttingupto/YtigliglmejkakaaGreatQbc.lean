/- Types side by side. -/
import Derived.Deep.Cut
import Derived.Deep.DeepCutAuto
import Derived.Test.YtigliglmejkakaaGreatQau
namespace Go.Proofs.YtigliglmejkakaaGreat.Tgt
open Go.RowKit
set_option linter.unusedVariables false
set_option linter.unusedSimpArgs false

def SameOf (M k : Nat) : Prop := ∀ (w : World) (own : Nat → Prop) (e1 e2 : List (Int × Int)) (n b o b' o' : Nat) (t t' : Tt), Tw M w own e1 e2 n → PAt w (fun b => b < M) k b o t → PAt w (fun b => b < M) k b' o' t' → e1.length + t.deepest ≤ 2097152 → e2.length + t.deepest ≤ 2097152 → n + t.cnt * 8388608 ≤ 2305843009213693952 →
  Calls Tryz.prog 26 #[.pointer (some ⟨M, 0, none⟩), .pointer (some ⟨b, o, none⟩), .pointer (some ⟨b', o', none⟩)] w fun r w' => r = .returned (.bool (Tt.same t t' e1 e2)) ∧ ∃ own', Tw M w' own' e1 e2 (n + t.cnt * 8388608) ∧ Ev own w own' w'
def SamesOf (M k : Nat) : Prop := ∀ (w : World) (own : Nat → Prop) (e1 e2 : List (Int × Int)) (n : Nat) (v v' : Value) (l l' : List Tt), Tw M w own e1 e2 n → TAtL w (fun b => b < M) k v l → TAtL w (fun b => b < M) k v' l' → e1.length + Tt.deepestL l ≤ 2097152 → e2.length + Tt.deepestL l ≤ 2097152 → n + Tt.cntL l * 8388608 ≤ 2305843009213693952 →
  Calls Tryz.prog 55 #[.pointer (some ⟨M, 0, none⟩), v, v'] w fun r w' => r = .returned (.bool (Tt.sameL l l' e1 e2)) ∧ ∃ own', Tw M w' own' e1 e2 (n + Tt.cntL l * 8388608) ∧ Ev own w own' w'

set_option maxHeartbeats 2000000 in
set_option maxRecDepth 100000 in
theorem sames_step (M k : Nat) (ih : SameOf M k) : SamesOf M k := by
  intro w own e1 e2 n v v' l l' hT hL hL' h1 h2 h3
  obtain ⟨a, c, rfl, hm⟩ := hL.form
  obtain ⟨a', c', rfl, hm'⟩ := hL'.form
  unfold maxLen at hm hm'
  have HL := hid hL
  have HL' := hid hL'
  have HT := hid hT
  have H1 := hid h1
  have H2 := hid h2
  have H3 := hid h3
  clear hL hL' hT h1 h2 h3
  by_cases hlen : l.length = l'.length
  · have hle : ((l.length : Int) != (l'.length : Int)) = false := by simp [hlen]
    have HLE := hid hlen
    clear hlen
    generalize hR : Tt.sameL l l' e1 e2 = res
    have HR : Hid (Tt.sameL l l' e1 e2 = res) := hR
    clear hR
    go_enter Tryz.func55, Tryz.ntmps55
    go_wp2
    go_loopw [15] (fun v wr => ∃ (i n' : Nat) (own' : Nat → Prop), v = .int .i64 i ∧ i ≤ l.length ∧ Hid (res = Tt.sameL (l.drop i) (l'.drop i) e1 e2) ∧ Hid (n' + Tt.cntL (l.drop i) * 8388608 ≤ n + Tt.cntL l * 8388608 ∧ Tt.cntL (l.drop i) ≤ Tt.cntL l ∧ Tt.deepestL (l.drop i) ≤ Tt.deepestL l) ∧ Hid (Tw M wr own' e1 e2 n') ∧ Hid (Ev own w own' wr)) (fun v _ => l.length - (intOf v).toNat)
    case atStart => exact ⟨0, n, own, rfl, Nat.zero_le _, HR.out.symm, ⟨Nat.le_refl _, Nat.le_refl _, Nat.le_refl _⟩, HT, Ev.refl _ _⟩
    case round =>
      obtain ⟨i, n', own', rfl, hil, hH, hn, hTr, hEr⟩ := hrel
      by_cases hlt : i < l.length
      · obtain ⟨x, hxi⟩ : ∃ x, l[i]? = some x := ⟨_, List.getElem?_eq_getElem hlt⟩
        obtain ⟨y, hyi⟩ : ∃ y, l'[i]? = some y := ⟨_, List.getElem?_eq_getElem (by rw [← HLE.out]; exact hlt)⟩
        obtain ⟨b, o, rfl, hP⟩ := (HL.out.move (HT.out.keeps hEr.out) (fun _ h => h)).elem hxi
        obtain ⟨b', o', rfl, hP'⟩ := (HL'.out.move (HT.out.keeps hEr.out) (fun _ h => h)).elem hyi
        have HX : Hid (res = (Tt.same x y e1 e2 && Tt.sameL (l.drop (i + 1)) (l'.drop (i + 1)) e1 e2)) := hH.out.trans (Tt.sameL_at hxi hyi e1 e2)
        have HC : Hid (Tt.cntL (l.drop i) = x.cnt + Tt.cntL (l.drop (i + 1)) ∧ Tt.deepestL (l.drop i) = max x.deepest (Tt.deepestL (l.drop (i + 1)))) := ⟨Tt.cntL_drop hxi, Tt.deepestL_drop hxi⟩
        have HQ := hid (ih wr.drew own' e1 e2 n' b _ b' _ x y (hTr.out.stays (Below.refl _ _).drew) (hP.move (Keeps.of_below (Below.refl _ _).drew) (fun _ h => h)) (hP'.move (Keeps.of_below (Below.refl _ _).drew) (fun _ h => h)) (by have := H1.out; have := HC.out; have := hn.out; omega) (by have := H2.out; have := HC.out; have := hn.out; omega) (by have := H3.out; have := HC.out; have := hn.out; omega))
        have hlt2 : (i : Int) < l.length := by omega
        have hlt3 : (i : Int) < l'.length := by have := HLE.out; omega
        clear hP hP' hH HL HL' hxi hyi
        cases hs : Tt.same x y e1 e2 with
        | true =>
          rw [hs] at HQ HX
          rw [Bool.true_and] at HX
          go_wp2_with fail
          go_region_with (go_at_call 26; refine (HQ.out).mono ?_; rintro r w3 ⟨rfl, own3, hT3, hE3⟩)
          go_wp2
          go_roundw
          case rel => exact ⟨i + 1, n' + x.cnt * 8388608, own3, by go_num, by omega, HX, hid (by have := hn.out; have := HC.out; refine ⟨?_, ?_, ?_⟩ <;> omega), hid hT3, hid (hEr.out.drew.trans hE3)⟩
          case measure => simp [intOf]; omega
        | false =>
          rw [hs] at HQ HX
          rw [Bool.false_and] at HX
          go_wp2_with fail
          go_region_with (go_at_call 26; refine (HQ.out).mono ?_; rintro r w3 ⟨rfl, own3, hT3, hE3⟩)
          go_wp2
          go_ret
          exact ⟨ret_bool HX.out.symm, own3, hT3.up (by have := hn.out; have := HC.out; omega), hEr.out.drew.trans hE3⟩
      · have HX : Hid (res = true) := by
          show _ = _
          rw [hH.out, List.drop_eq_nil_of_le (by omega), List.drop_eq_nil_of_le (by have := HLE.out; omega), Tt.sameL]
        clear hH HL HL'
        go_wp2
        go_ret
        exact ⟨ret_bool HX.out.symm, own', hTr.out.up (by have := hn.out; omega), hEr.out⟩
  · have hle : ((l.length : Int) != (l'.length : Int)) = true := by simp; omega
    rw [Tt.sameL_len e1 e2 hlen]
    clear hlen HL HL'
    go_enter Tryz.func55, Tryz.ntmps55
    go_wp2
    go_ret
    exact ⟨rfl, own, HT.out.up (by omega), Ev.refl _ _⟩

set_option maxHeartbeats 4000000 in
set_option maxRecDepth 100000 in
theorem same_step (M k : Nat) (ih : SamesOf M k) : SameOf M (k + 1) := by
  intro w own e1 e2 n b o b' o' t t' hT hP hP' h1 h2 h3
  obtain ⟨la, lc, ka, kc, x0, x1, x2, x3, -, -, hS, hL⟩ := hP.cells
  obtain ⟨la', lc', ka', kc', y0, y1, y2, y3, -, -, hS', hL'⟩ := hP'.cells
  obtain ⟨vs, mv, lv, mv', lv', hw1, hw2, hdis, hown⟩ := id hT
  have EQ : Hid (∀ m, Calls Tryz.prog 52 #[.slice la t.ls.length lc, .slice la' t'.ls.length lc'] (w.drewN m) fun e w' => e = .returned (.bool (Tt.eqLs t.ls t'.ls)) ∧ ∃ m', w' = (w.drewN m).drewN m') := fun m => equal_any _ _ _ _ _ (hS.move (Keeps.of_below (bl_drewN _ _)) (fun _ _ => trivial)) (hS'.move (Keeps.of_below (bl_drewN _ _)) (fun _ _ => trivial))
  have NQ : Hid (∀ m, Calls Tryz.prog 53 #[.pointer (some ⟨M, 0, none⟩), .pointer (some ⟨b, o, none⟩), .pointer (some ⟨b', o', none⟩)] (w.drewN m) fun r w' => r = .returned (.bool (Tt.num e1 e2 t t')) ∧ ∃ m', w' = (w.drewN m).drewN m') := fun m => sameNumber_any _ M _ _ TW vs mv lv mv' lv' e1 e2 n n (hw1.stays (bl_drewN _ _)) (hw2.stays (bl_drewN _ _)) (k + 1) b o b' o' t t' (hP.move (Keeps.of_below (bl_drewN _ _)) (fun _ _ => trivial)) (hP'.move (Keeps.of_below (bl_drewN _ _)) (fun _ _ => trivial))
  have HM := hid (Tt.same_mk t t' e1 e2)
  generalize hR : Tt.same t t' e1 e2 = res at HM
  have HR := hid hR
  clear hR
  unfold Tt.alike at HM
  have HPt : Hid (∀ wz own', Ev own w own' wz → PAt wz (fun b => b < M) (k + 1) b o t) := fun wz own' hz => hP.move (hT.keeps hz) (fun _ h => h)
  have HPt' : Hid (∀ wz own', Ev own w own' wz → PAt wz (fun b => b < M) (k + 1) b' o' t') := fun wz own' hz => hP'.move (hT.keeps hz) (fun _ h => h)
  have HX3 : Hid (∀ wz own', Ev own w own' wz → wz.cell? ⟨b, o + 3, none⟩ = some (.slice ka t.ks.length kc) ∧ wz.cell? ⟨b', o' + 3, none⟩ = some (.slice ka' t'.ks.length kc')) := fun wz own' hz => ⟨hT.keeps hz _ _ _ hP.1 x3, hT.keeps hz _ _ _ hP'.1 y3⟩
  have HLs : Hid (∀ wz own', Ev own w own' wz → TAtL wz (fun b => b < M) k (.slice ka t.ks.length kc) t.ks ∧ TAtL wz (fun b => b < M) k (.slice ka' t'.ks.length kc') t'.ks) := fun wz own' hz => ⟨hL.move (hT.keeps hz) (fun _ h => h), hL'.move (hT.keeps hz) (fun _ h => h)⟩
  have hct := And.intro (Tt.cnt_ks t) (Tt.deepest_ks t)
  have HT := hid hT
  have HIH := hid ih
  clear hT hP hP' hS hS' hL hL' hw1 hw2 hdis hown x1 y1 ih
  generalize hc1 : (t.k == t'.k) = c1 at HM
  cases c1 with
  | false =>
    have g1 : (t.k != t'.k) = true := by simp only [bne, hc1]; rfl
    simp only [Bool.false_and] at HM
    clear hc1 EQ NQ HX3 HLs HPt HPt' HIH h1 h2 h3 hct
    go_enter Tryz.func26, Tryz.ntmps26
    go_wp2_with fail
    go_quiet (fail)
    go_wp2
    go_ret
    exact ⟨ret_bool HM.out.symm, own, (HT.out.stays (bl_drewN _ _)).up (by omega), (Ev.of_below (bl_drewN _ _))⟩
  | true =>
    have g1 : (t.k != t'.k) = false := by simp only [bne, hc1]; rfl
    generalize hc2 : ((t.ks.length : Int) == t'.ks.length) = c2 at HM
    cases c2 with
    | false =>
      have g2 : ((t.ks.length : Int) != t'.ks.length) = true := by simp only [bne, hc2]; rfl
      simp only [Bool.true_and, Bool.false_and] at HM
      clear hc1 hc2 EQ NQ HX3 HLs HPt HPt' HIH h1 h2 h3 hct
      go_enter Tryz.func26, Tryz.ntmps26
      go_wp2_with fail
      go_quiet (fail)
      go_wp2
      go_ret
      exact ⟨ret_bool HM.out.symm, own, (HT.out.stays (bl_drewN _ _)).up (by omega), (Ev.of_below (bl_drewN _ _))⟩
    | true =>
      have g2 : ((t.ks.length : Int) != t'.ks.length) = false := by simp only [bne, hc2]; rfl
      cases hc3 : Tt.eqLs t.ls t'.ls with
      | false =>
        rw [hc3] at EQ HM
        simp only [Bool.true_and, Bool.false_and] at HM
        clear hc1 hc2 hc3 NQ HX3 HLs HPt HPt' HIH h1 h2 h3 hct
        go_enter Tryz.func26, Tryz.ntmps26
        go_wp2_with fail
        go_quiet (first | (go_at_call 52; refine Calls.quiet_of (EQ.out _)))
        go_wp2
        go_ret
        exact ⟨ret_bool HM.out.symm, own, (HT.out.stays (bl_drewN _ _)).up (by omega), (Ev.of_below (bl_drewN _ _))⟩
      | true =>
        rw [hc3] at EQ HM
        cases hc4 : Tt.num e1 e2 t t' with
        | false =>
          rw [hc4] at NQ HM
          simp only [Bool.true_and, Bool.false_and] at HM
          clear hc1 hc2 hc3 hc4 HX3 HLs HPt HPt' HIH h1 h2 h3 hct
          go_enter Tryz.func26, Tryz.ntmps26
          go_wp2_with fail
          go_quiet (first | (go_at_call 52; refine Calls.quiet_of (EQ.out _)) | (go_at_call 53; refine Calls.quiet_of (NQ.out _)))
          go_wp2
          go_ret
          exact ⟨ret_bool HM.out.symm, own, (HT.out.stays (bl_drewN _ _)).up (by omega), (Ev.of_below (bl_drewN _ _))⟩
        | true =>
          rw [hc4] at NQ HM
          simp only [Bool.true_and] at HM
          clear hc1 hc2 hc3 hc4
          have H123 := hid (And.intro hct (And.intro h1 (And.intro h2 h3)))
          clear hct h1 h2 h3
          go_enter Tryz.func26, Tryz.ntmps26
          go_wp2_with fail
          go_quiet (first | (go_at_call 52; refine Calls.quiet_of (EQ.out _)) | (go_at_call 53; refine Calls.quiet_of (NQ.out _)))
          go_wp2_with fail
          have TWc := hid (HT.out.stays (bl_drewN w nq))
          have EVc : Hid (Ev own w own (w.drewN nq)) := Ev.of_below (bl_drewN _ _)
          generalize w.drewN nq = W1 at TWc EVc ⊢
          clear EQ NQ x0 x2 x3 y0 y2 y3 g1 g2
          go_cut [7, 8] (fun u7 u8 wx => ∃ (pB7 pB8 : Nat) (own1 : Nat → Prop), u7 = .pointer (some ⟨pB7, 0, none⟩) ∧ u8 = .pointer (some ⟨pB8, 0, none⟩) ∧ Hid (Bx w.heap.size wx own1 pB7 129 [.int .i64 e1.length, .int .i64 0]) ∧ Hid (Bx w.heap.size wx own1 pB8 129 [.int .i64 e2.length, .int .i64 0]) ∧ Hid (Tw M wx own1 (t.env e1) (t'.env e2) (n + 2)) ∧ Hid (Ev own w own1 wx))
          case first =>
            obtain ⟨hct, h1, h2, h3⟩ := H123.out
            have TWc := hid (TWc.out.stays (Below.refl _ _).drew)
            have EVc := hid EVc.out.drew
            refine wp_region_held_drew (S := fun wz => True) (by kernel_rfl) (trivial) (fun hS => ?_)
            generalize W1.drew = wc0 at hS  TWc EVc ⊢
            refine wpAnyH_take (i := 0) (v := ?_) rfl (by kernel_rfl) (by kernel_rfl) (by kernel_rfl) (fun _ _ _ h => h) (Or.inl ⟨by rfl, ?_⟩) hS ?_
            rotate_left
            · intro wz hz; go_simp; try with_reducible rfl
            try simp only [Act.put, List.setIfInBounds_toArray, List.set_cons_zero, List.set_cons_succ, List.getElem_toArray, List.getElem_cons_succ, List.getElem_cons_zero]
            refine wpAnyH_take (i := 1) (v := ?_) rfl (by kernel_rfl) (by kernel_rfl) (by kernel_rfl) (fun _ _ _ h => h) (Or.inl ⟨by rfl, ?_⟩) hS ?_
            rotate_left
            · intro wz hz; go_simp; try with_reducible rfl
            try simp only [Act.put, List.setIfInBounds_toArray, List.set_cons_zero, List.set_cons_succ, List.getElem_toArray, List.getElem_cons_succ, List.getElem_cons_zero]
            refine wpAnyH_take (i := 2) (v := ?_) rfl (by kernel_rfl) (by kernel_rfl) (by kernel_rfl) (fun _ _ _ h => h) (Or.inl ⟨by rfl, ?_⟩) hS ?_
            rotate_left
            · intro wz hz; go_simp; try with_reducible rfl
            try simp only [Act.put, List.setIfInBounds_toArray, List.set_cons_zero, List.set_cons_succ, List.getElem_toArray, List.getElem_cons_succ, List.getElem_cons_zero]
            refine wpAnyH_take (i := 3) (v := ?_) rfl (by kernel_rfl) (by kernel_rfl) (by kernel_rfl) (fun _ _ _ h => h) (Or.inl ⟨by rfl, ?_⟩) hS ?_
            rotate_left
            · intro wz hz; go_simp; try with_reducible rfl
            try simp only [Act.put, List.setIfInBounds_toArray, List.set_cons_zero, List.set_cons_succ, List.getElem_toArray, List.getElem_cons_succ, List.getElem_cons_zero]
            refine wpAnyH_take (i := 5) (v := ?_) rfl (by kernel_rfl) (by kernel_rfl) (by kernel_rfl) (fun _ _ _ h => h) (Or.inl ⟨by rfl, ?_⟩) hS ?_
            rotate_left
            · intro wz hz; go_simp; try with_reducible rfl
            try simp only [Act.put, List.setIfInBounds_toArray, List.set_cons_zero, List.set_cons_succ, List.getElem_toArray, List.getElem_cons_succ, List.getElem_cons_zero]
            refine wpAnyH_take (i := 6) (v := ?_) rfl (by kernel_rfl) (by kernel_rfl) (by kernel_rfl) (fun _ _ _ h => h) (Or.inl ⟨by rfl, ?_⟩) hS ?_
            rotate_left
            · intro wz hz; go_simp; try with_reducible rfl
            try simp only [Act.put, List.setIfInBounds_toArray, List.set_cons_zero, List.set_cons_succ, List.getElem_toArray, List.getElem_cons_succ, List.getElem_cons_zero]
            refine wpAnyH_take (i := 7) (v := ?_) rfl (by kernel_rfl) (by kernel_rfl) (by kernel_rfl) (fun _ _ _ h => h) (Or.inl ⟨by rfl, ?_⟩) hS ?_
            rotate_left
            · intro wz hz; go_simp; try with_reducible rfl
            try simp only [Act.put, List.setIfInBounds_toArray, List.set_cons_zero, List.set_cons_succ, List.getElem_toArray, List.getElem_cons_succ, List.getElem_cons_zero]
            refine wpAnyH_take (i := 8) (v := ?_) rfl (by kernel_rfl) (by kernel_rfl) (by kernel_rfl) (fun _ _ _ h => h) (Or.inl ⟨by rfl, ?_⟩) hS ?_
            rotate_left
            · intro wz hz; go_simp; try with_reducible rfl
            try simp only [Act.put, List.setIfInBounds_toArray, List.set_cons_zero, List.set_cons_succ, List.getElem_toArray, List.getElem_cons_succ, List.getElem_cons_zero]
            refine wpAnyH_ready (rs := [4, 10, 11]) (by kernel_rfl) (by simp) (AllReadyH.cons rfl (fun K hK => ?a1_4) (AllReadyH.cons rfl (fun K hK => ?a1_10) (AllReadyH.cons rfl (fun K hK => ?a1_11) AllReadyH.nil)))
            case' a1_4 =>
              go_simp
              refine (intoL M wc0 _ e1 e2 n (k + 1) _ _ t TWc.out (HPt.out _ _ EVc.out) (by omega) (by omega)).mono ?_
              rintro r wc1 ⟨rfl, own1, tw, ev⟩
              have TWc := hid tw
              have EVc := hid (EVc.out.trans ev)
              clear tw ev
              refine hK.out _ _ (trivial) (fun hSn => ?_)
              clear hK K hS
              have hS := hSn
              clear hSn
              try simp only [Act.put, List.setIfInBounds_toArray, List.set_cons_zero, List.set_cons_succ, List.getElem_toArray, List.getElem_cons_succ, List.getElem_cons_zero]
              refine wpAnyH_ready (rs := [9, 10, 11]) (by kernel_rfl) (by simp) (AllReadyH.cons rfl (fun K hK => ?a2_9) (AllReadyH.cons rfl (fun K hK => ?a2_10) (AllReadyH.cons rfl (fun K hK => ?a2_11) AllReadyH.nil)))
              case' a2_9 =>
                go_simp
                refine (intoR M wc1 _ (t.env e1) e2 (n + 1) (k + 1) _ _ t' TWc.out (HPt'.out _ _ EVc.out) (by omega) (by omega)).mono ?_
                rintro r wc2 ⟨rfl, own2, tw, ev⟩
                have TWc := hid tw
                have EVc := hid (EVc.out.trans ev)
                clear tw ev
                refine hK.out _ _ (trivial) (fun hSn => ?_)
                clear hK K hS
                have hS := hSn
                clear hSn
                try simp only [Act.put, List.setIfInBounds_toArray, List.set_cons_zero, List.set_cons_succ, List.getElem_toArray, List.getElem_cons_succ, List.getElem_cons_zero]
                refine wpAnyH_ready (rs := [10, 11]) (by kernel_rfl) (by simp) (AllReadyH.cons rfl (fun K hK => ?a3_10) (AllReadyH.cons rfl (fun K hK => ?a3_11) AllReadyH.nil))
                case' a3_10 =>
                  go_simp
                  have B7 := hid (Bx.new (n0 := w.heap.size) (w := wc2) 129 [.int .i64 0, .int .i64 0] (fun b hb => (TWc.out.own b hb).2) EVc.out.size)
                  have TWc := hid (TWc.out.stays (bl_alloc (Below.refl _ _) (.cells #[.int .i64 0, .int .i64 0] 129)))
                  have EVc := hid (EVc.out.alloc (.cells #[.int .i64 0, .int .i64 0] 129))
                  generalize wc2.alloc (.cells #[.int .i64 0, .int .i64 0] 129) = wc3 at B7 TWc EVc  ⊢
                  generalize wc2.heap.size = pB7 at B7  ⊢
                  refine hK.out _ _ (trivial) (fun hSn => ?_)
                  clear hK K hS
                  have hS := hSn
                  clear hSn
                  try simp only [Act.put, List.setIfInBounds_toArray, List.set_cons_zero, List.set_cons_succ, List.getElem_toArray, List.getElem_cons_succ, List.getElem_cons_zero]
                  refine wpAnyH_ready (rs := [11]) (by kernel_rfl) (by simp) (AllReadyH.cons rfl (fun K hK => ?a4_11) AllReadyH.nil)
                  case' a4_11 =>
                    go_simp
                    have neB7 : ¬ pB7 = wc3.heap.size := by have := B7.out.arr.lt; omega
                    have B7 := hid (B7.out.stays (bl_alloc (Below.refl _ _) (.cells #[.int .i64 0, .int .i64 0] 129)))
                    have B8 := hid (Bx.new (n0 := w.heap.size) (w := wc3) 129 [.int .i64 0, .int .i64 0] (fun b hb => (TWc.out.own b hb).2) EVc.out.size)
                    have TWc := hid (TWc.out.stays (bl_alloc (Below.refl _ _) (.cells #[.int .i64 0, .int .i64 0] 129)))
                    have EVc := hid (EVc.out.alloc (.cells #[.int .i64 0, .int .i64 0] 129))
                    generalize wc3.alloc (.cells #[.int .i64 0, .int .i64 0] 129) = wc4 at B8 TWc EVc B7 ⊢
                    generalize wc3.heap.size = pB8 at B8 neB7 ⊢
                    refine hK.out _ _ (trivial) (fun hSn => ?_)
                    clear hK K hS
                    have hS := hSn
                    clear hSn
                    try simp only [Act.put, List.setIfInBounds_toArray, List.set_cons_zero, List.set_cons_succ, List.getElem_toArray, List.getElem_cons_succ, List.getElem_cons_zero]
                    refine wpAnyH_ready (rs := [12]) (by kernel_rfl) (by simp) (AllReadyH.cons rfl (fun K hK => ?a5_12) AllReadyH.nil)
                    case' a5_12 =>
                      go_simp
                      have cc := B7.out.arr.cell
                      have cf := B7.out.arr.frozen
                      go_simp
                      clear cc cf
                      have B8 := hid ((B8.out.other (a := ⟨pB7, 0, none⟩) (by show ¬ pB8 = pB7; omega) (.int .i64 e1.length)).other (a := ⟨pB7, 1, none⟩) (by show ¬ pB8 = pB7; omega) (.int .i64 0))
                      have TWc := hid ((TWc.out.other (p := ⟨pB7, 0, none⟩) B7.out.no (.int .i64 e1.length)).other (p := ⟨pB7, 1, none⟩) B7.out.no (.int .i64 0))
                      have EVc := hid (Ev.new (Ev.new EVc.out (p := ⟨pB7, 0, none⟩) B7.out.ge (.int .i64 e1.length)) (p := ⟨pB7, 1, none⟩) B7.out.ge (.int .i64 0))
                      have B7 := hid ((B7.out.set 0 (.int .i64 e1.length)).set 1 (.int .i64 0))
                      simp only [List.set_cons_zero, List.set_cons_succ] at B7
                      generalize ((wc4.setCell ⟨pB7, 0, none⟩ (.int .i64 e1.length)).setCell ⟨pB7, 1, none⟩ (.int .i64 0)) = wc5 at TWc EVc B7 B8 ⊢
                      refine hK.out _ _ (trivial) (fun hSn => ?_)
                      clear hK K hS
                      have hS := hSn
                      clear hSn
                      try simp only [Act.put, List.setIfInBounds_toArray, List.set_cons_zero, List.set_cons_succ, List.getElem_toArray, List.getElem_cons_succ, List.getElem_cons_zero]
                      refine wpAnyH_ready (rs := [13]) (by kernel_rfl) (by simp) (AllReadyH.cons rfl (fun K hK => ?a6_13) AllReadyH.nil)
                      case' a6_13 =>
                        go_simp
                        have cc := B8.out.arr.cell
                        have cf := B8.out.arr.frozen
                        go_simp
                        clear cc cf
                        have B7 := hid ((B7.out.other (a := ⟨pB8, 0, none⟩) (by show ¬ pB7 = pB8; omega) (.int .i64 e2.length)).other (a := ⟨pB8, 1, none⟩) (by show ¬ pB7 = pB8; omega) (.int .i64 0))
                        have TWc := hid ((TWc.out.other (p := ⟨pB8, 0, none⟩) B8.out.no (.int .i64 e2.length)).other (p := ⟨pB8, 1, none⟩) B8.out.no (.int .i64 0))
                        have EVc := hid (Ev.new (Ev.new EVc.out (p := ⟨pB8, 0, none⟩) B8.out.ge (.int .i64 e2.length)) (p := ⟨pB8, 1, none⟩) B8.out.ge (.int .i64 0))
                        have B8 := hid ((B8.out.set 0 (.int .i64 e2.length)).set 1 (.int .i64 0))
                        simp only [List.set_cons_zero, List.set_cons_succ] at B8
                        generalize ((wc5.setCell ⟨pB8, 0, none⟩ (.int .i64 e2.length)).setCell ⟨pB8, 1, none⟩ (.int .i64 0)) = wc6 at TWc EVc B7 B8 ⊢
                        refine hK.out _ _ (trivial) (fun hSn => ?_)
                        clear hK K hS
                        have hS := hSn
                        clear hSn
                        try simp only [Act.put, List.setIfInBounds_toArray, List.set_cons_zero, List.set_cons_succ, List.getElem_toArray, List.getElem_cons_succ, List.getElem_cons_zero]
                        refine wpAnyH_done (by kernel_rfl) ?_ _
                case' a3_11 =>
                  go_simp
                  have B8 := hid (Bx.new (n0 := w.heap.size) (w := wc2) 129 [.int .i64 0, .int .i64 0] (fun b hb => (TWc.out.own b hb).2) EVc.out.size)
                  have TWc := hid (TWc.out.stays (bl_alloc (Below.refl _ _) (.cells #[.int .i64 0, .int .i64 0] 129)))
                  have EVc := hid (EVc.out.alloc (.cells #[.int .i64 0, .int .i64 0] 129))
                  generalize wc2.alloc (.cells #[.int .i64 0, .int .i64 0] 129) = wc3 at B8 TWc EVc  ⊢
                  generalize wc2.heap.size = pB8 at B8  ⊢
                  refine hK.out _ _ (trivial) (fun hSn => ?_)
                  clear hK K hS
                  have hS := hSn
                  clear hSn
                  try simp only [Act.put, List.setIfInBounds_toArray, List.set_cons_zero, List.set_cons_succ, List.getElem_toArray, List.getElem_cons_succ, List.getElem_cons_zero]
                  refine wpAnyH_ready (rs := [10]) (by kernel_rfl) (by simp) (AllReadyH.cons rfl (fun K hK => ?a7_10) AllReadyH.nil)
                  case' a7_10 =>
                    go_simp
                    have neB8 : ¬ pB8 = wc3.heap.size := by have := B8.out.arr.lt; omega
                    have B8 := hid (B8.out.stays (bl_alloc (Below.refl _ _) (.cells #[.int .i64 0, .int .i64 0] 129)))
                    have B7 := hid (Bx.new (n0 := w.heap.size) (w := wc3) 129 [.int .i64 0, .int .i64 0] (fun b hb => (TWc.out.own b hb).2) EVc.out.size)
                    have TWc := hid (TWc.out.stays (bl_alloc (Below.refl _ _) (.cells #[.int .i64 0, .int .i64 0] 129)))
                    have EVc := hid (EVc.out.alloc (.cells #[.int .i64 0, .int .i64 0] 129))
                    generalize wc3.alloc (.cells #[.int .i64 0, .int .i64 0] 129) = wc4 at B7 TWc EVc B8 ⊢
                    generalize wc3.heap.size = pB7 at B7 neB8 ⊢
                    refine hK.out _ _ (trivial) (fun hSn => ?_)
                    clear hK K hS
                    have hS := hSn
                    clear hSn
                    try simp only [Act.put, List.setIfInBounds_toArray, List.set_cons_zero, List.set_cons_succ, List.getElem_toArray, List.getElem_cons_succ, List.getElem_cons_zero]
                    refine wpAnyH_ready (rs := [12]) (by kernel_rfl) (by simp) (AllReadyH.cons rfl (fun K hK => ?a8_12) AllReadyH.nil)
                    case' a8_12 =>
                      go_simp
                      have cc := B7.out.arr.cell
                      have cf := B7.out.arr.frozen
                      go_simp
                      clear cc cf
                      have B8 := hid ((B8.out.other (a := ⟨pB7, 0, none⟩) (by show ¬ pB8 = pB7; omega) (.int .i64 e1.length)).other (a := ⟨pB7, 1, none⟩) (by show ¬ pB8 = pB7; omega) (.int .i64 0))
                      have TWc := hid ((TWc.out.other (p := ⟨pB7, 0, none⟩) B7.out.no (.int .i64 e1.length)).other (p := ⟨pB7, 1, none⟩) B7.out.no (.int .i64 0))
                      have EVc := hid (Ev.new (Ev.new EVc.out (p := ⟨pB7, 0, none⟩) B7.out.ge (.int .i64 e1.length)) (p := ⟨pB7, 1, none⟩) B7.out.ge (.int .i64 0))
                      have B7 := hid ((B7.out.set 0 (.int .i64 e1.length)).set 1 (.int .i64 0))
                      simp only [List.set_cons_zero, List.set_cons_succ] at B7
                      generalize ((wc4.setCell ⟨pB7, 0, none⟩ (.int .i64 e1.length)).setCell ⟨pB7, 1, none⟩ (.int .i64 0)) = wc5 at TWc EVc B8 B7 ⊢
                      refine hK.out _ _ (trivial) (fun hSn => ?_)
                      clear hK K hS
                      have hS := hSn
                      clear hSn
                      try simp only [Act.put, List.setIfInBounds_toArray, List.set_cons_zero, List.set_cons_succ, List.getElem_toArray, List.getElem_cons_succ, List.getElem_cons_zero]
                      refine wpAnyH_ready (rs := [13]) (by kernel_rfl) (by simp) (AllReadyH.cons rfl (fun K hK => ?a9_13) AllReadyH.nil)
                      case' a9_13 =>
                        go_simp
                        have cc := B8.out.arr.cell
                        have cf := B8.out.arr.frozen
                        go_simp
                        clear cc cf
                        have B7 := hid ((B7.out.other (a := ⟨pB8, 0, none⟩) (by show ¬ pB7 = pB8; omega) (.int .i64 e2.length)).other (a := ⟨pB8, 1, none⟩) (by show ¬ pB7 = pB8; omega) (.int .i64 0))
                        have TWc := hid ((TWc.out.other (p := ⟨pB8, 0, none⟩) B8.out.no (.int .i64 e2.length)).other (p := ⟨pB8, 1, none⟩) B8.out.no (.int .i64 0))
                        have EVc := hid (Ev.new (Ev.new EVc.out (p := ⟨pB8, 0, none⟩) B8.out.ge (.int .i64 e2.length)) (p := ⟨pB8, 1, none⟩) B8.out.ge (.int .i64 0))
                        have B8 := hid ((B8.out.set 0 (.int .i64 e2.length)).set 1 (.int .i64 0))
                        simp only [List.set_cons_zero, List.set_cons_succ] at B8
                        generalize ((wc5.setCell ⟨pB8, 0, none⟩ (.int .i64 e2.length)).setCell ⟨pB8, 1, none⟩ (.int .i64 0)) = wc6 at TWc EVc B8 B7 ⊢
                        refine hK.out _ _ (trivial) (fun hSn => ?_)
                        clear hK K hS
                        have hS := hSn
                        clear hSn
                        try simp only [Act.put, List.setIfInBounds_toArray, List.set_cons_zero, List.set_cons_succ, List.getElem_toArray, List.getElem_cons_succ, List.getElem_cons_zero]
                        refine wpAnyH_done (by kernel_rfl) ?_ _
              case' a2_10 =>
                go_simp
                have B7 := hid (Bx.new (n0 := w.heap.size) (w := wc1) 129 [.int .i64 0, .int .i64 0] (fun b hb => (TWc.out.own b hb).2) EVc.out.size)
                have TWc := hid (TWc.out.stays (bl_alloc (Below.refl _ _) (.cells #[.int .i64 0, .int .i64 0] 129)))
                have EVc := hid (EVc.out.alloc (.cells #[.int .i64 0, .int .i64 0] 129))
                generalize wc1.alloc (.cells #[.int .i64 0, .int .i64 0] 129) = wc2 at B7 TWc EVc  ⊢
                generalize wc1.heap.size = pB7 at B7  ⊢
                refine hK.out _ _ (trivial) (fun hSn => ?_)
                clear hK K hS
                have hS := hSn
                clear hSn
                try simp only [Act.put, List.setIfInBounds_toArray, List.set_cons_zero, List.set_cons_succ, List.getElem_toArray, List.getElem_cons_succ, List.getElem_cons_zero]
                refine wpAnyH_ready (rs := [9, 11]) (by kernel_rfl) (by simp) (AllReadyH.cons rfl (fun K hK => ?a10_9) (AllReadyH.cons rfl (fun K hK => ?a10_11) AllReadyH.nil))
                case' a10_9 =>
                  go_simp
                  refine (intoR M wc2 _ (t.env e1) e2 (n + 1) (k + 1) _ _ t' TWc.out (HPt'.out _ _ EVc.out) (by omega) (by omega)).mono ?_
                  rintro r wc3 ⟨rfl, own3, tw, ev⟩
                  have B7 := hid (B7.out.ev ev)
                  have TWc := hid tw
                  have EVc := hid (EVc.out.trans ev)
                  clear tw ev
                  refine hK.out _ _ (trivial) (fun hSn => ?_)
                  clear hK K hS
                  have hS := hSn
                  clear hSn
                  try simp only [Act.put, List.setIfInBounds_toArray, List.set_cons_zero, List.set_cons_succ, List.getElem_toArray, List.getElem_cons_succ, List.getElem_cons_zero]
                  refine wpAnyH_ready (rs := [11]) (by kernel_rfl) (by simp) (AllReadyH.cons rfl (fun K hK => ?a11_11) AllReadyH.nil)
                  case' a11_11 =>
                    go_simp
                    have neB7 : ¬ pB7 = wc3.heap.size := by have := B7.out.arr.lt; omega
                    have B7 := hid (B7.out.stays (bl_alloc (Below.refl _ _) (.cells #[.int .i64 0, .int .i64 0] 129)))
                    have B8 := hid (Bx.new (n0 := w.heap.size) (w := wc3) 129 [.int .i64 0, .int .i64 0] (fun b hb => (TWc.out.own b hb).2) EVc.out.size)
                    have TWc := hid (TWc.out.stays (bl_alloc (Below.refl _ _) (.cells #[.int .i64 0, .int .i64 0] 129)))
                    have EVc := hid (EVc.out.alloc (.cells #[.int .i64 0, .int .i64 0] 129))
                    generalize wc3.alloc (.cells #[.int .i64 0, .int .i64 0] 129) = wc4 at B8 TWc EVc B7 ⊢
                    generalize wc3.heap.size = pB8 at B8 neB7 ⊢
                    refine hK.out _ _ (trivial) (fun hSn => ?_)
                    clear hK K hS
                    have hS := hSn
                    clear hSn
                    try simp only [Act.put, List.setIfInBounds_toArray, List.set_cons_zero, List.set_cons_succ, List.getElem_toArray, List.getElem_cons_succ, List.getElem_cons_zero]
                    refine wpAnyH_ready (rs := [12]) (by kernel_rfl) (by simp) (AllReadyH.cons rfl (fun K hK => ?a12_12) AllReadyH.nil)
                    case' a12_12 =>
                      go_simp
                      have cc := B7.out.arr.cell
                      have cf := B7.out.arr.frozen
                      go_simp
                      clear cc cf
                      have B8 := hid ((B8.out.other (a := ⟨pB7, 0, none⟩) (by show ¬ pB8 = pB7; omega) (.int .i64 e1.length)).other (a := ⟨pB7, 1, none⟩) (by show ¬ pB8 = pB7; omega) (.int .i64 0))
                      have TWc := hid ((TWc.out.other (p := ⟨pB7, 0, none⟩) B7.out.no (.int .i64 e1.length)).other (p := ⟨pB7, 1, none⟩) B7.out.no (.int .i64 0))
                      have EVc := hid (Ev.new (Ev.new EVc.out (p := ⟨pB7, 0, none⟩) B7.out.ge (.int .i64 e1.length)) (p := ⟨pB7, 1, none⟩) B7.out.ge (.int .i64 0))
                      have B7 := hid ((B7.out.set 0 (.int .i64 e1.length)).set 1 (.int .i64 0))
                      simp only [List.set_cons_zero, List.set_cons_succ] at B7
                      generalize ((wc4.setCell ⟨pB7, 0, none⟩ (.int .i64 e1.length)).setCell ⟨pB7, 1, none⟩ (.int .i64 0)) = wc5 at TWc EVc B7 B8 ⊢
                      refine hK.out _ _ (trivial) (fun hSn => ?_)
                      clear hK K hS
                      have hS := hSn
                      clear hSn
                      try simp only [Act.put, List.setIfInBounds_toArray, List.set_cons_zero, List.set_cons_succ, List.getElem_toArray, List.getElem_cons_succ, List.getElem_cons_zero]
                      refine wpAnyH_ready (rs := [13]) (by kernel_rfl) (by simp) (AllReadyH.cons rfl (fun K hK => ?a13_13) AllReadyH.nil)
                      case' a13_13 =>
                        go_simp
                        have cc := B8.out.arr.cell
                        have cf := B8.out.arr.frozen
                        go_simp
                        clear cc cf
                        have B7 := hid ((B7.out.other (a := ⟨pB8, 0, none⟩) (by show ¬ pB7 = pB8; omega) (.int .i64 e2.length)).other (a := ⟨pB8, 1, none⟩) (by show ¬ pB7 = pB8; omega) (.int .i64 0))
                        have TWc := hid ((TWc.out.other (p := ⟨pB8, 0, none⟩) B8.out.no (.int .i64 e2.length)).other (p := ⟨pB8, 1, none⟩) B8.out.no (.int .i64 0))
                        have EVc := hid (Ev.new (Ev.new EVc.out (p := ⟨pB8, 0, none⟩) B8.out.ge (.int .i64 e2.length)) (p := ⟨pB8, 1, none⟩) B8.out.ge (.int .i64 0))
                        have B8 := hid ((B8.out.set 0 (.int .i64 e2.length)).set 1 (.int .i64 0))
                        simp only [List.set_cons_zero, List.set_cons_succ] at B8
                        generalize ((wc5.setCell ⟨pB8, 0, none⟩ (.int .i64 e2.length)).setCell ⟨pB8, 1, none⟩ (.int .i64 0)) = wc6 at TWc EVc B7 B8 ⊢
                        refine hK.out _ _ (trivial) (fun hSn => ?_)
                        clear hK K hS
                        have hS := hSn
                        clear hSn
                        try simp only [Act.put, List.setIfInBounds_toArray, List.set_cons_zero, List.set_cons_succ, List.getElem_toArray, List.getElem_cons_succ, List.getElem_cons_zero]
                        refine wpAnyH_done (by kernel_rfl) ?_ _
                case' a10_11 =>
                  go_simp
                  have neB7 : ¬ pB7 = wc2.heap.size := by have := B7.out.arr.lt; omega
                  have B7 := hid (B7.out.stays (bl_alloc (Below.refl _ _) (.cells #[.int .i64 0, .int .i64 0] 129)))
                  have B8 := hid (Bx.new (n0 := w.heap.size) (w := wc2) 129 [.int .i64 0, .int .i64 0] (fun b hb => (TWc.out.own b hb).2) EVc.out.size)
                  have TWc := hid (TWc.out.stays (bl_alloc (Below.refl _ _) (.cells #[.int .i64 0, .int .i64 0] 129)))
                  have EVc := hid (EVc.out.alloc (.cells #[.int .i64 0, .int .i64 0] 129))
                  generalize wc2.alloc (.cells #[.int .i64 0, .int .i64 0] 129) = wc3 at B8 TWc EVc B7 ⊢
                  generalize wc2.heap.size = pB8 at B8 neB7 ⊢
                  refine hK.out _ _ (trivial) (fun hSn => ?_)
                  clear hK K hS
                  have hS := hSn
                  clear hSn
                  try simp only [Act.put, List.setIfInBounds_toArray, List.set_cons_zero, List.set_cons_succ, List.getElem_toArray, List.getElem_cons_succ, List.getElem_cons_zero]
                  refine wpAnyH_ready (rs := [9]) (by kernel_rfl) (by simp) (AllReadyH.cons rfl (fun K hK => ?a14_9) AllReadyH.nil)
                  case' a14_9 =>
                    go_simp
                    refine (intoR M wc3 _ (t.env e1) e2 (n + 1) (k + 1) _ _ t' TWc.out (HPt'.out _ _ EVc.out) (by omega) (by omega)).mono ?_
                    rintro r wc4 ⟨rfl, own4, tw, ev⟩
                    have B7 := hid (B7.out.ev ev)
                    have B8 := hid (B8.out.ev ev)
                    have TWc := hid tw
                    have EVc := hid (EVc.out.trans ev)
                    clear tw ev
                    refine hK.out _ _ (trivial) (fun hSn => ?_)
                    clear hK K hS
                    have hS := hSn
                    clear hSn
                    try simp only [Act.put, List.setIfInBounds_toArray, List.set_cons_zero, List.set_cons_succ, List.getElem_toArray, List.getElem_cons_succ, List.getElem_cons_zero]
                    refine wpAnyH_ready (rs := [12]) (by kernel_rfl) (by simp) (AllReadyH.cons rfl (fun K hK => ?a15_12) AllReadyH.nil)
                    case' a15_12 =>
                      go_simp
                      have cc := B7.out.arr.cell
                      have cf := B7.out.arr.frozen
                      go_simp
                      clear cc cf
                      have B8 := hid ((B8.out.other (a := ⟨pB7, 0, none⟩) (by show ¬ pB8 = pB7; omega) (.int .i64 e1.length)).other (a := ⟨pB7, 1, none⟩) (by show ¬ pB8 = pB7; omega) (.int .i64 0))
                      have TWc := hid ((TWc.out.other (p := ⟨pB7, 0, none⟩) B7.out.no (.int .i64 e1.length)).other (p := ⟨pB7, 1, none⟩) B7.out.no (.int .i64 0))
                      have EVc := hid (Ev.new (Ev.new EVc.out (p := ⟨pB7, 0, none⟩) B7.out.ge (.int .i64 e1.length)) (p := ⟨pB7, 1, none⟩) B7.out.ge (.int .i64 0))
                      have B7 := hid ((B7.out.set 0 (.int .i64 e1.length)).set 1 (.int .i64 0))
                      simp only [List.set_cons_zero, List.set_cons_succ] at B7
                      generalize ((wc4.setCell ⟨pB7, 0, none⟩ (.int .i64 e1.length)).setCell ⟨pB7, 1, none⟩ (.int .i64 0)) = wc5 at TWc EVc B7 B8 ⊢
                      refine hK.out _ _ (trivial) (fun hSn => ?_)
                      clear hK K hS
                      have hS := hSn
                      clear hSn
                      try simp only [Act.put, List.setIfInBounds_toArray, List.set_cons_zero, List.set_cons_succ, List.getElem_toArray, List.getElem_cons_succ, List.getElem_cons_zero]
                      refine wpAnyH_ready (rs := [13]) (by kernel_rfl) (by simp) (AllReadyH.cons rfl (fun K hK => ?a16_13) AllReadyH.nil)
                      case' a16_13 =>
                        go_simp
                        have cc := B8.out.arr.cell
                        have cf := B8.out.arr.frozen
                        go_simp
                        clear cc cf
                        have B7 := hid ((B7.out.other (a := ⟨pB8, 0, none⟩) (by show ¬ pB7 = pB8; omega) (.int .i64 e2.length)).other (a := ⟨pB8, 1, none⟩) (by show ¬ pB7 = pB8; omega) (.int .i64 0))
                        have TWc := hid ((TWc.out.other (p := ⟨pB8, 0, none⟩) B8.out.no (.int .i64 e2.length)).other (p := ⟨pB8, 1, none⟩) B8.out.no (.int .i64 0))
                        have EVc := hid (Ev.new (Ev.new EVc.out (p := ⟨pB8, 0, none⟩) B8.out.ge (.int .i64 e2.length)) (p := ⟨pB8, 1, none⟩) B8.out.ge (.int .i64 0))
                        have B8 := hid ((B8.out.set 0 (.int .i64 e2.length)).set 1 (.int .i64 0))
                        simp only [List.set_cons_zero, List.set_cons_succ] at B8
                        generalize ((wc5.setCell ⟨pB8, 0, none⟩ (.int .i64 e2.length)).setCell ⟨pB8, 1, none⟩ (.int .i64 0)) = wc6 at TWc EVc B7 B8 ⊢
                        refine hK.out _ _ (trivial) (fun hSn => ?_)
                        clear hK K hS
                        have hS := hSn
                        clear hSn
                        try simp only [Act.put, List.setIfInBounds_toArray, List.set_cons_zero, List.set_cons_succ, List.getElem_toArray, List.getElem_cons_succ, List.getElem_cons_zero]
                        refine wpAnyH_done (by kernel_rfl) ?_ _
              case' a2_11 =>
                go_simp
                have B8 := hid (Bx.new (n0 := w.heap.size) (w := wc1) 129 [.int .i64 0, .int .i64 0] (fun b hb => (TWc.out.own b hb).2) EVc.out.size)
                have TWc := hid (TWc.out.stays (bl_alloc (Below.refl _ _) (.cells #[.int .i64 0, .int .i64 0] 129)))
                have EVc := hid (EVc.out.alloc (.cells #[.int .i64 0, .int .i64 0] 129))
                generalize wc1.alloc (.cells #[.int .i64 0, .int .i64 0] 129) = wc2 at B8 TWc EVc  ⊢
                generalize wc1.heap.size = pB8 at B8  ⊢
                refine hK.out _ _ (trivial) (fun hSn => ?_)
                clear hK K hS
                have hS := hSn
                clear hSn
                try simp only [Act.put, List.setIfInBounds_toArray, List.set_cons_zero, List.set_cons_succ, List.getElem_toArray, List.getElem_cons_succ, List.getElem_cons_zero]
                refine wpAnyH_ready (rs := [9, 10]) (by kernel_rfl) (by simp) (AllReadyH.cons rfl (fun K hK => ?a17_9) (AllReadyH.cons rfl (fun K hK => ?a17_10) AllReadyH.nil))
                case' a17_9 =>
                  go_simp
                  refine (intoR M wc2 _ (t.env e1) e2 (n + 1) (k + 1) _ _ t' TWc.out (HPt'.out _ _ EVc.out) (by omega) (by omega)).mono ?_
                  rintro r wc3 ⟨rfl, own3, tw, ev⟩
                  have B8 := hid (B8.out.ev ev)
                  have TWc := hid tw
                  have EVc := hid (EVc.out.trans ev)
                  clear tw ev
                  refine hK.out _ _ (trivial) (fun hSn => ?_)
                  clear hK K hS
                  have hS := hSn
                  clear hSn
                  try simp only [Act.put, List.setIfInBounds_toArray, List.set_cons_zero, List.set_cons_succ, List.getElem_toArray, List.getElem_cons_succ, List.getElem_cons_zero]
                  refine wpAnyH_ready (rs := [10]) (by kernel_rfl) (by simp) (AllReadyH.cons rfl (fun K hK => ?a18_10) AllReadyH.nil)
                  case' a18_10 =>
                    go_simp
                    have neB8 : ¬ pB8 = wc3.heap.size := by have := B8.out.arr.lt; omega
                    have B8 := hid (B8.out.stays (bl_alloc (Below.refl _ _) (.cells #[.int .i64 0, .int .i64 0] 129)))
                    have B7 := hid (Bx.new (n0 := w.heap.size) (w := wc3) 129 [.int .i64 0, .int .i64 0] (fun b hb => (TWc.out.own b hb).2) EVc.out.size)
                    have TWc := hid (TWc.out.stays (bl_alloc (Below.refl _ _) (.cells #[.int .i64 0, .int .i64 0] 129)))
                    have EVc := hid (EVc.out.alloc (.cells #[.int .i64 0, .int .i64 0] 129))
                    generalize wc3.alloc (.cells #[.int .i64 0, .int .i64 0] 129) = wc4 at B7 TWc EVc B8 ⊢
                    generalize wc3.heap.size = pB7 at B7 neB8 ⊢
                    refine hK.out _ _ (trivial) (fun hSn => ?_)
                    clear hK K hS
                    have hS := hSn
                    clear hSn
                    try simp only [Act.put, List.setIfInBounds_toArray, List.set_cons_zero, List.set_cons_succ, List.getElem_toArray, List.getElem_cons_succ, List.getElem_cons_zero]
                    refine wpAnyH_ready (rs := [12]) (by kernel_rfl) (by simp) (AllReadyH.cons rfl (fun K hK => ?a19_12) AllReadyH.nil)
                    case' a19_12 =>
                      go_simp
                      have cc := B7.out.arr.cell
                      have cf := B7.out.arr.frozen
                      go_simp
                      clear cc cf
                      have B8 := hid ((B8.out.other (a := ⟨pB7, 0, none⟩) (by show ¬ pB8 = pB7; omega) (.int .i64 e1.length)).other (a := ⟨pB7, 1, none⟩) (by show ¬ pB8 = pB7; omega) (.int .i64 0))
                      have TWc := hid ((TWc.out.other (p := ⟨pB7, 0, none⟩) B7.out.no (.int .i64 e1.length)).other (p := ⟨pB7, 1, none⟩) B7.out.no (.int .i64 0))
                      have EVc := hid (Ev.new (Ev.new EVc.out (p := ⟨pB7, 0, none⟩) B7.out.ge (.int .i64 e1.length)) (p := ⟨pB7, 1, none⟩) B7.out.ge (.int .i64 0))
                      have B7 := hid ((B7.out.set 0 (.int .i64 e1.length)).set 1 (.int .i64 0))
                      simp only [List.set_cons_zero, List.set_cons_succ] at B7
                      generalize ((wc4.setCell ⟨pB7, 0, none⟩ (.int .i64 e1.length)).setCell ⟨pB7, 1, none⟩ (.int .i64 0)) = wc5 at TWc EVc B8 B7 ⊢
                      refine hK.out _ _ (trivial) (fun hSn => ?_)
                      clear hK K hS
                      have hS := hSn
                      clear hSn
                      try simp only [Act.put, List.setIfInBounds_toArray, List.set_cons_zero, List.set_cons_succ, List.getElem_toArray, List.getElem_cons_succ, List.getElem_cons_zero]
                      refine wpAnyH_ready (rs := [13]) (by kernel_rfl) (by simp) (AllReadyH.cons rfl (fun K hK => ?a20_13) AllReadyH.nil)
                      case' a20_13 =>
                        go_simp
                        have cc := B8.out.arr.cell
                        have cf := B8.out.arr.frozen
                        go_simp
                        clear cc cf
                        have B7 := hid ((B7.out.other (a := ⟨pB8, 0, none⟩) (by show ¬ pB7 = pB8; omega) (.int .i64 e2.length)).other (a := ⟨pB8, 1, none⟩) (by show ¬ pB7 = pB8; omega) (.int .i64 0))
                        have TWc := hid ((TWc.out.other (p := ⟨pB8, 0, none⟩) B8.out.no (.int .i64 e2.length)).other (p := ⟨pB8, 1, none⟩) B8.out.no (.int .i64 0))
                        have EVc := hid (Ev.new (Ev.new EVc.out (p := ⟨pB8, 0, none⟩) B8.out.ge (.int .i64 e2.length)) (p := ⟨pB8, 1, none⟩) B8.out.ge (.int .i64 0))
                        have B8 := hid ((B8.out.set 0 (.int .i64 e2.length)).set 1 (.int .i64 0))
                        simp only [List.set_cons_zero, List.set_cons_succ] at B8
                        generalize ((wc5.setCell ⟨pB8, 0, none⟩ (.int .i64 e2.length)).setCell ⟨pB8, 1, none⟩ (.int .i64 0)) = wc6 at TWc EVc B8 B7 ⊢
                        refine hK.out _ _ (trivial) (fun hSn => ?_)
                        clear hK K hS
                        have hS := hSn
                        clear hSn
                        try simp only [Act.put, List.setIfInBounds_toArray, List.set_cons_zero, List.set_cons_succ, List.getElem_toArray, List.getElem_cons_succ, List.getElem_cons_zero]
                        refine wpAnyH_done (by kernel_rfl) ?_ _
                case' a17_10 =>
                  go_simp
                  have neB8 : ¬ pB8 = wc2.heap.size := by have := B8.out.arr.lt; omega
                  have B8 := hid (B8.out.stays (bl_alloc (Below.refl _ _) (.cells #[.int .i64 0, .int .i64 0] 129)))
                  have B7 := hid (Bx.new (n0 := w.heap.size) (w := wc2) 129 [.int .i64 0, .int .i64 0] (fun b hb => (TWc.out.own b hb).2) EVc.out.size)
                  have TWc := hid (TWc.out.stays (bl_alloc (Below.refl _ _) (.cells #[.int .i64 0, .int .i64 0] 129)))
                  have EVc := hid (EVc.out.alloc (.cells #[.int .i64 0, .int .i64 0] 129))
                  generalize wc2.alloc (.cells #[.int .i64 0, .int .i64 0] 129) = wc3 at B7 TWc EVc B8 ⊢
                  generalize wc2.heap.size = pB7 at B7 neB8 ⊢
                  refine hK.out _ _ (trivial) (fun hSn => ?_)
                  clear hK K hS
                  have hS := hSn
                  clear hSn
                  try simp only [Act.put, List.setIfInBounds_toArray, List.set_cons_zero, List.set_cons_succ, List.getElem_toArray, List.getElem_cons_succ, List.getElem_cons_zero]
                  refine wpAnyH_ready (rs := [9]) (by kernel_rfl) (by simp) (AllReadyH.cons rfl (fun K hK => ?a21_9) AllReadyH.nil)
                  case' a21_9 =>
                    go_simp
                    refine (intoR M wc3 _ (t.env e1) e2 (n + 1) (k + 1) _ _ t' TWc.out (HPt'.out _ _ EVc.out) (by omega) (by omega)).mono ?_
                    rintro r wc4 ⟨rfl, own4, tw, ev⟩
                    have B8 := hid (B8.out.ev ev)
                    have B7 := hid (B7.out.ev ev)
                    have TWc := hid tw
                    have EVc := hid (EVc.out.trans ev)
                    clear tw ev
                    refine hK.out _ _ (trivial) (fun hSn => ?_)
                    clear hK K hS
                    have hS := hSn
                    clear hSn
                    try simp only [Act.put, List.setIfInBounds_toArray, List.set_cons_zero, List.set_cons_succ, List.getElem_toArray, List.getElem_cons_succ, List.getElem_cons_zero]
                    refine wpAnyH_ready (rs := [12]) (by kernel_rfl) (by simp) (AllReadyH.cons rfl (fun K hK => ?a22_12) AllReadyH.nil)
                    case' a22_12 =>
                      go_simp
                      have cc := B7.out.arr.cell
                      have cf := B7.out.arr.frozen
                      go_simp
                      clear cc cf
                      have B8 := hid ((B8.out.other (a := ⟨pB7, 0, none⟩) (by show ¬ pB8 = pB7; omega) (.int .i64 e1.length)).other (a := ⟨pB7, 1, none⟩) (by show ¬ pB8 = pB7; omega) (.int .i64 0))
                      have TWc := hid ((TWc.out.other (p := ⟨pB7, 0, none⟩) B7.out.no (.int .i64 e1.length)).other (p := ⟨pB7, 1, none⟩) B7.out.no (.int .i64 0))
                      have EVc := hid (Ev.new (Ev.new EVc.out (p := ⟨pB7, 0, none⟩) B7.out.ge (.int .i64 e1.length)) (p := ⟨pB7, 1, none⟩) B7.out.ge (.int .i64 0))
                      have B7 := hid ((B7.out.set 0 (.int .i64 e1.length)).set 1 (.int .i64 0))
                      simp only [List.set_cons_zero, List.set_cons_succ] at B7
                      generalize ((wc4.setCell ⟨pB7, 0, none⟩ (.int .i64 e1.length)).setCell ⟨pB7, 1, none⟩ (.int .i64 0)) = wc5 at TWc EVc B8 B7 ⊢
                      refine hK.out _ _ (trivial) (fun hSn => ?_)
                      clear hK K hS
                      have hS := hSn
                      clear hSn
                      try simp only [Act.put, List.setIfInBounds_toArray, List.set_cons_zero, List.set_cons_succ, List.getElem_toArray, List.getElem_cons_succ, List.getElem_cons_zero]
                      refine wpAnyH_ready (rs := [13]) (by kernel_rfl) (by simp) (AllReadyH.cons rfl (fun K hK => ?a23_13) AllReadyH.nil)
                      case' a23_13 =>
                        go_simp
                        have cc := B8.out.arr.cell
                        have cf := B8.out.arr.frozen
                        go_simp
                        clear cc cf
                        have B7 := hid ((B7.out.other (a := ⟨pB8, 0, none⟩) (by show ¬ pB7 = pB8; omega) (.int .i64 e2.length)).other (a := ⟨pB8, 1, none⟩) (by show ¬ pB7 = pB8; omega) (.int .i64 0))
                        have TWc := hid ((TWc.out.other (p := ⟨pB8, 0, none⟩) B8.out.no (.int .i64 e2.length)).other (p := ⟨pB8, 1, none⟩) B8.out.no (.int .i64 0))
                        have EVc := hid (Ev.new (Ev.new EVc.out (p := ⟨pB8, 0, none⟩) B8.out.ge (.int .i64 e2.length)) (p := ⟨pB8, 1, none⟩) B8.out.ge (.int .i64 0))
                        have B8 := hid ((B8.out.set 0 (.int .i64 e2.length)).set 1 (.int .i64 0))
                        simp only [List.set_cons_zero, List.set_cons_succ] at B8
                        generalize ((wc5.setCell ⟨pB8, 0, none⟩ (.int .i64 e2.length)).setCell ⟨pB8, 1, none⟩ (.int .i64 0)) = wc6 at TWc EVc B8 B7 ⊢
                        refine hK.out _ _ (trivial) (fun hSn => ?_)
                        clear hK K hS
                        have hS := hSn
                        clear hSn
                        try simp only [Act.put, List.setIfInBounds_toArray, List.set_cons_zero, List.set_cons_succ, List.getElem_toArray, List.getElem_cons_succ, List.getElem_cons_zero]
                        refine wpAnyH_done (by kernel_rfl) ?_ _
            case' a1_10 =>
              go_simp
              have B7 := hid (Bx.new (n0 := w.heap.size) (w := wc0) 129 [.int .i64 0, .int .i64 0] (fun b hb => (TWc.out.own b hb).2) EVc.out.size)
              have TWc := hid (TWc.out.stays (bl_alloc (Below.refl _ _) (.cells #[.int .i64 0, .int .i64 0] 129)))
              have EVc := hid (EVc.out.alloc (.cells #[.int .i64 0, .int .i64 0] 129))
              generalize wc0.alloc (.cells #[.int .i64 0, .int .i64 0] 129) = wc1 at B7 TWc EVc  ⊢
              generalize wc0.heap.size = pB7 at B7  ⊢
              refine hK.out _ _ (trivial) (fun hSn => ?_)
              clear hK K hS
              have hS := hSn
              clear hSn
              try simp only [Act.put, List.setIfInBounds_toArray, List.set_cons_zero, List.set_cons_succ, List.getElem_toArray, List.getElem_cons_succ, List.getElem_cons_zero]
              refine wpAnyH_ready (rs := [4, 11]) (by kernel_rfl) (by simp) (AllReadyH.cons rfl (fun K hK => ?a24_4) (AllReadyH.cons rfl (fun K hK => ?a24_11) AllReadyH.nil))
              case' a24_4 =>
                go_simp
                refine (intoL M wc1 _ e1 e2 n (k + 1) _ _ t TWc.out (HPt.out _ _ EVc.out) (by omega) (by omega)).mono ?_
                rintro r wc2 ⟨rfl, own2, tw, ev⟩
                have B7 := hid (B7.out.ev ev)
                have TWc := hid tw
                have EVc := hid (EVc.out.trans ev)
                clear tw ev
                refine hK.out _ _ (trivial) (fun hSn => ?_)
                clear hK K hS
                have hS := hSn
                clear hSn
                try simp only [Act.put, List.setIfInBounds_toArray, List.set_cons_zero, List.set_cons_succ, List.getElem_toArray, List.getElem_cons_succ, List.getElem_cons_zero]
                refine wpAnyH_ready (rs := [9, 11]) (by kernel_rfl) (by simp) (AllReadyH.cons rfl (fun K hK => ?a25_9) (AllReadyH.cons rfl (fun K hK => ?a25_11) AllReadyH.nil))
                case' a25_9 =>
                  go_simp
                  refine (intoR M wc2 _ (t.env e1) e2 (n + 1) (k + 1) _ _ t' TWc.out (HPt'.out _ _ EVc.out) (by omega) (by omega)).mono ?_
                  rintro r wc3 ⟨rfl, own3, tw, ev⟩
                  have B7 := hid (B7.out.ev ev)
                  have TWc := hid tw
                  have EVc := hid (EVc.out.trans ev)
                  clear tw ev
                  refine hK.out _ _ (trivial) (fun hSn => ?_)
                  clear hK K hS
                  have hS := hSn
                  clear hSn
                  try simp only [Act.put, List.setIfInBounds_toArray, List.set_cons_zero, List.set_cons_succ, List.getElem_toArray, List.getElem_cons_succ, List.getElem_cons_zero]
                  refine wpAnyH_ready (rs := [11]) (by kernel_rfl) (by simp) (AllReadyH.cons rfl (fun K hK => ?a26_11) AllReadyH.nil)
                  case' a26_11 =>
                    go_simp
                    have neB7 : ¬ pB7 = wc3.heap.size := by have := B7.out.arr.lt; omega
                    have B7 := hid (B7.out.stays (bl_alloc (Below.refl _ _) (.cells #[.int .i64 0, .int .i64 0] 129)))
                    have B8 := hid (Bx.new (n0 := w.heap.size) (w := wc3) 129 [.int .i64 0, .int .i64 0] (fun b hb => (TWc.out.own b hb).2) EVc.out.size)
                    have TWc := hid (TWc.out.stays (bl_alloc (Below.refl _ _) (.cells #[.int .i64 0, .int .i64 0] 129)))
                    have EVc := hid (EVc.out.alloc (.cells #[.int .i64 0, .int .i64 0] 129))
                    generalize wc3.alloc (.cells #[.int .i64 0, .int .i64 0] 129) = wc4 at B8 TWc EVc B7 ⊢
                    generalize wc3.heap.size = pB8 at B8 neB7 ⊢
                    refine hK.out _ _ (trivial) (fun hSn => ?_)
                    clear hK K hS
                    have hS := hSn
                    clear hSn
                    try simp only [Act.put, List.setIfInBounds_toArray, List.set_cons_zero, List.set_cons_succ, List.getElem_toArray, List.getElem_cons_succ, List.getElem_cons_zero]
                    refine wpAnyH_ready (rs := [12]) (by kernel_rfl) (by simp) (AllReadyH.cons rfl (fun K hK => ?a27_12) AllReadyH.nil)
                    case' a27_12 =>
                      go_simp
                      have cc := B7.out.arr.cell
                      have cf := B7.out.arr.frozen
                      go_simp
                      clear cc cf
                      have B8 := hid ((B8.out.other (a := ⟨pB7, 0, none⟩) (by show ¬ pB8 = pB7; omega) (.int .i64 e1.length)).other (a := ⟨pB7, 1, none⟩) (by show ¬ pB8 = pB7; omega) (.int .i64 0))
                      have TWc := hid ((TWc.out.other (p := ⟨pB7, 0, none⟩) B7.out.no (.int .i64 e1.length)).other (p := ⟨pB7, 1, none⟩) B7.out.no (.int .i64 0))
                      have EVc := hid (Ev.new (Ev.new EVc.out (p := ⟨pB7, 0, none⟩) B7.out.ge (.int .i64 e1.length)) (p := ⟨pB7, 1, none⟩) B7.out.ge (.int .i64 0))
                      have B7 := hid ((B7.out.set 0 (.int .i64 e1.length)).set 1 (.int .i64 0))
                      simp only [List.set_cons_zero, List.set_cons_succ] at B7
                      generalize ((wc4.setCell ⟨pB7, 0, none⟩ (.int .i64 e1.length)).setCell ⟨pB7, 1, none⟩ (.int .i64 0)) = wc5 at TWc EVc B7 B8 ⊢
                      refine hK.out _ _ (trivial) (fun hSn => ?_)
                      clear hK K hS
                      have hS := hSn
                      clear hSn
                      try simp only [Act.put, List.setIfInBounds_toArray, List.set_cons_zero, List.set_cons_succ, List.getElem_toArray, List.getElem_cons_succ, List.getElem_cons_zero]
                      refine wpAnyH_ready (rs := [13]) (by kernel_rfl) (by simp) (AllReadyH.cons rfl (fun K hK => ?a28_13) AllReadyH.nil)
                      case' a28_13 =>
                        go_simp
                        have cc := B8.out.arr.cell
                        have cf := B8.out.arr.frozen
                        go_simp
                        clear cc cf
                        have B7 := hid ((B7.out.other (a := ⟨pB8, 0, none⟩) (by show ¬ pB7 = pB8; omega) (.int .i64 e2.length)).other (a := ⟨pB8, 1, none⟩) (by show ¬ pB7 = pB8; omega) (.int .i64 0))
                        have TWc := hid ((TWc.out.other (p := ⟨pB8, 0, none⟩) B8.out.no (.int .i64 e2.length)).other (p := ⟨pB8, 1, none⟩) B8.out.no (.int .i64 0))
                        have EVc := hid (Ev.new (Ev.new EVc.out (p := ⟨pB8, 0, none⟩) B8.out.ge (.int .i64 e2.length)) (p := ⟨pB8, 1, none⟩) B8.out.ge (.int .i64 0))
                        have B8 := hid ((B8.out.set 0 (.int .i64 e2.length)).set 1 (.int .i64 0))
                        simp only [List.set_cons_zero, List.set_cons_succ] at B8
                        generalize ((wc5.setCell ⟨pB8, 0, none⟩ (.int .i64 e2.length)).setCell ⟨pB8, 1, none⟩ (.int .i64 0)) = wc6 at TWc EVc B7 B8 ⊢
                        refine hK.out _ _ (trivial) (fun hSn => ?_)
                        clear hK K hS
                        have hS := hSn
                        clear hSn
                        try simp only [Act.put, List.setIfInBounds_toArray, List.set_cons_zero, List.set_cons_succ, List.getElem_toArray, List.getElem_cons_succ, List.getElem_cons_zero]
                        refine wpAnyH_done (by kernel_rfl) ?_ _
                case' a25_11 =>
                  go_simp
                  have neB7 : ¬ pB7 = wc2.heap.size := by have := B7.out.arr.lt; omega
                  have B7 := hid (B7.out.stays (bl_alloc (Below.refl _ _) (.cells #[.int .i64 0, .int .i64 0] 129)))
                  have B8 := hid (Bx.new (n0 := w.heap.size) (w := wc2) 129 [.int .i64 0, .int .i64 0] (fun b hb => (TWc.out.own b hb).2) EVc.out.size)
                  have TWc := hid (TWc.out.stays (bl_alloc (Below.refl _ _) (.cells #[.int .i64 0, .int .i64 0] 129)))
                  have EVc := hid (EVc.out.alloc (.cells #[.int .i64 0, .int .i64 0] 129))
                  generalize wc2.alloc (.cells #[.int .i64 0, .int .i64 0] 129) = wc3 at B8 TWc EVc B7 ⊢
                  generalize wc2.heap.size = pB8 at B8 neB7 ⊢
                  refine hK.out _ _ (trivial) (fun hSn => ?_)
                  clear hK K hS
                  have hS := hSn
                  clear hSn
                  try simp only [Act.put, List.setIfInBounds_toArray, List.set_cons_zero, List.set_cons_succ, List.getElem_toArray, List.getElem_cons_succ, List.getElem_cons_zero]
                  refine wpAnyH_ready (rs := [9]) (by kernel_rfl) (by simp) (AllReadyH.cons rfl (fun K hK => ?a29_9) AllReadyH.nil)
                  case' a29_9 =>
                    go_simp
                    refine (intoR M wc3 _ (t.env e1) e2 (n + 1) (k + 1) _ _ t' TWc.out (HPt'.out _ _ EVc.out) (by omega) (by omega)).mono ?_
                    rintro r wc4 ⟨rfl, own4, tw, ev⟩
                    have B7 := hid (B7.out.ev ev)
                    have B8 := hid (B8.out.ev ev)
                    have TWc := hid tw
                    have EVc := hid (EVc.out.trans ev)
                    clear tw ev
                    refine hK.out _ _ (trivial) (fun hSn => ?_)
                    clear hK K hS
                    have hS := hSn
                    clear hSn
                    try simp only [Act.put, List.setIfInBounds_toArray, List.set_cons_zero, List.set_cons_succ, List.getElem_toArray, List.getElem_cons_succ, List.getElem_cons_zero]
                    refine wpAnyH_ready (rs := [12]) (by kernel_rfl) (by simp) (AllReadyH.cons rfl (fun K hK => ?a30_12) AllReadyH.nil)
                    case' a30_12 =>
                      go_simp
                      have cc := B7.out.arr.cell
                      have cf := B7.out.arr.frozen
                      go_simp
                      clear cc cf
                      have B8 := hid ((B8.out.other (a := ⟨pB7, 0, none⟩) (by show ¬ pB8 = pB7; omega) (.int .i64 e1.length)).other (a := ⟨pB7, 1, none⟩) (by show ¬ pB8 = pB7; omega) (.int .i64 0))
                      have TWc := hid ((TWc.out.other (p := ⟨pB7, 0, none⟩) B7.out.no (.int .i64 e1.length)).other (p := ⟨pB7, 1, none⟩) B7.out.no (.int .i64 0))
                      have EVc := hid (Ev.new (Ev.new EVc.out (p := ⟨pB7, 0, none⟩) B7.out.ge (.int .i64 e1.length)) (p := ⟨pB7, 1, none⟩) B7.out.ge (.int .i64 0))
                      have B7 := hid ((B7.out.set 0 (.int .i64 e1.length)).set 1 (.int .i64 0))
                      simp only [List.set_cons_zero, List.set_cons_succ] at B7
                      generalize ((wc4.setCell ⟨pB7, 0, none⟩ (.int .i64 e1.length)).setCell ⟨pB7, 1, none⟩ (.int .i64 0)) = wc5 at TWc EVc B7 B8 ⊢
                      refine hK.out _ _ (trivial) (fun hSn => ?_)
                      clear hK K hS
                      have hS := hSn
                      clear hSn
                      try simp only [Act.put, List.setIfInBounds_toArray, List.set_cons_zero, List.set_cons_succ, List.getElem_toArray, List.getElem_cons_succ, List.getElem_cons_zero]
                      refine wpAnyH_ready (rs := [13]) (by kernel_rfl) (by simp) (AllReadyH.cons rfl (fun K hK => ?a31_13) AllReadyH.nil)
                      case' a31_13 =>
                        go_simp
                        have cc := B8.out.arr.cell
                        have cf := B8.out.arr.frozen
                        go_simp
                        clear cc cf
                        have B7 := hid ((B7.out.other (a := ⟨pB8, 0, none⟩) (by show ¬ pB7 = pB8; omega) (.int .i64 e2.length)).other (a := ⟨pB8, 1, none⟩) (by show ¬ pB7 = pB8; omega) (.int .i64 0))
                        have TWc := hid ((TWc.out.other (p := ⟨pB8, 0, none⟩) B8.out.no (.int .i64 e2.length)).other (p := ⟨pB8, 1, none⟩) B8.out.no (.int .i64 0))
                        have EVc := hid (Ev.new (Ev.new EVc.out (p := ⟨pB8, 0, none⟩) B8.out.ge (.int .i64 e2.length)) (p := ⟨pB8, 1, none⟩) B8.out.ge (.int .i64 0))
                        have B8 := hid ((B8.out.set 0 (.int .i64 e2.length)).set 1 (.int .i64 0))
                        simp only [List.set_cons_zero, List.set_cons_succ] at B8
                        generalize ((wc5.setCell ⟨pB8, 0, none⟩ (.int .i64 e2.length)).setCell ⟨pB8, 1, none⟩ (.int .i64 0)) = wc6 at TWc EVc B7 B8 ⊢
                        refine hK.out _ _ (trivial) (fun hSn => ?_)
                        clear hK K hS
                        have hS := hSn
                        clear hSn
                        try simp only [Act.put, List.setIfInBounds_toArray, List.set_cons_zero, List.set_cons_succ, List.getElem_toArray, List.getElem_cons_succ, List.getElem_cons_zero]
                        refine wpAnyH_done (by kernel_rfl) ?_ _
              case' a24_11 =>
                go_simp
                have neB7 : ¬ pB7 = wc1.heap.size := by have := B7.out.arr.lt; omega
                have B7 := hid (B7.out.stays (bl_alloc (Below.refl _ _) (.cells #[.int .i64 0, .int .i64 0] 129)))
                have B8 := hid (Bx.new (n0 := w.heap.size) (w := wc1) 129 [.int .i64 0, .int .i64 0] (fun b hb => (TWc.out.own b hb).2) EVc.out.size)
                have TWc := hid (TWc.out.stays (bl_alloc (Below.refl _ _) (.cells #[.int .i64 0, .int .i64 0] 129)))
                have EVc := hid (EVc.out.alloc (.cells #[.int .i64 0, .int .i64 0] 129))
                generalize wc1.alloc (.cells #[.int .i64 0, .int .i64 0] 129) = wc2 at B8 TWc EVc B7 ⊢
                generalize wc1.heap.size = pB8 at B8 neB7 ⊢
                refine hK.out _ _ (trivial) (fun hSn => ?_)
                clear hK K hS
                have hS := hSn
                clear hSn
                try simp only [Act.put, List.setIfInBounds_toArray, List.set_cons_zero, List.set_cons_succ, List.getElem_toArray, List.getElem_cons_succ, List.getElem_cons_zero]
                refine wpAnyH_ready (rs := [4]) (by kernel_rfl) (by simp) (AllReadyH.cons rfl (fun K hK => ?a32_4) AllReadyH.nil)
                case' a32_4 =>
                  go_simp
                  refine (intoL M wc2 _ e1 e2 n (k + 1) _ _ t TWc.out (HPt.out _ _ EVc.out) (by omega) (by omega)).mono ?_
                  rintro r wc3 ⟨rfl, own3, tw, ev⟩
                  have B7 := hid (B7.out.ev ev)
                  have B8 := hid (B8.out.ev ev)
                  have TWc := hid tw
                  have EVc := hid (EVc.out.trans ev)
                  clear tw ev
                  refine hK.out _ _ (trivial) (fun hSn => ?_)
                  clear hK K hS
                  have hS := hSn
                  clear hSn
                  try simp only [Act.put, List.setIfInBounds_toArray, List.set_cons_zero, List.set_cons_succ, List.getElem_toArray, List.getElem_cons_succ, List.getElem_cons_zero]
                  refine wpAnyH_ready (rs := [9]) (by kernel_rfl) (by simp) (AllReadyH.cons rfl (fun K hK => ?a33_9) AllReadyH.nil)
                  case' a33_9 =>
                    go_simp
                    refine (intoR M wc3 _ (t.env e1) e2 (n + 1) (k + 1) _ _ t' TWc.out (HPt'.out _ _ EVc.out) (by omega) (by omega)).mono ?_
                    rintro r wc4 ⟨rfl, own4, tw, ev⟩
                    have B7 := hid (B7.out.ev ev)
                    have B8 := hid (B8.out.ev ev)
                    have TWc := hid tw
                    have EVc := hid (EVc.out.trans ev)
                    clear tw ev
                    refine hK.out _ _ (trivial) (fun hSn => ?_)
                    clear hK K hS
                    have hS := hSn
                    clear hSn
                    try simp only [Act.put, List.setIfInBounds_toArray, List.set_cons_zero, List.set_cons_succ, List.getElem_toArray, List.getElem_cons_succ, List.getElem_cons_zero]
                    refine wpAnyH_ready (rs := [12]) (by kernel_rfl) (by simp) (AllReadyH.cons rfl (fun K hK => ?a34_12) AllReadyH.nil)
                    case' a34_12 =>
                      go_simp
                      have cc := B7.out.arr.cell
                      have cf := B7.out.arr.frozen
                      go_simp
                      clear cc cf
                      have B8 := hid ((B8.out.other (a := ⟨pB7, 0, none⟩) (by show ¬ pB8 = pB7; omega) (.int .i64 e1.length)).other (a := ⟨pB7, 1, none⟩) (by show ¬ pB8 = pB7; omega) (.int .i64 0))
                      have TWc := hid ((TWc.out.other (p := ⟨pB7, 0, none⟩) B7.out.no (.int .i64 e1.length)).other (p := ⟨pB7, 1, none⟩) B7.out.no (.int .i64 0))
                      have EVc := hid (Ev.new (Ev.new EVc.out (p := ⟨pB7, 0, none⟩) B7.out.ge (.int .i64 e1.length)) (p := ⟨pB7, 1, none⟩) B7.out.ge (.int .i64 0))
                      have B7 := hid ((B7.out.set 0 (.int .i64 e1.length)).set 1 (.int .i64 0))
                      simp only [List.set_cons_zero, List.set_cons_succ] at B7
                      generalize ((wc4.setCell ⟨pB7, 0, none⟩ (.int .i64 e1.length)).setCell ⟨pB7, 1, none⟩ (.int .i64 0)) = wc5 at TWc EVc B7 B8 ⊢
                      refine hK.out _ _ (trivial) (fun hSn => ?_)
                      clear hK K hS
                      have hS := hSn
                      clear hSn
                      try simp only [Act.put, List.setIfInBounds_toArray, List.set_cons_zero, List.set_cons_succ, List.getElem_toArray, List.getElem_cons_succ, List.getElem_cons_zero]
                      refine wpAnyH_ready (rs := [13]) (by kernel_rfl) (by simp) (AllReadyH.cons rfl (fun K hK => ?a35_13) AllReadyH.nil)
                      case' a35_13 =>
                        go_simp
                        have cc := B8.out.arr.cell
                        have cf := B8.out.arr.frozen
                        go_simp
                        clear cc cf
                        have B7 := hid ((B7.out.other (a := ⟨pB8, 0, none⟩) (by show ¬ pB7 = pB8; omega) (.int .i64 e2.length)).other (a := ⟨pB8, 1, none⟩) (by show ¬ pB7 = pB8; omega) (.int .i64 0))
                        have TWc := hid ((TWc.out.other (p := ⟨pB8, 0, none⟩) B8.out.no (.int .i64 e2.length)).other (p := ⟨pB8, 1, none⟩) B8.out.no (.int .i64 0))
                        have EVc := hid (Ev.new (Ev.new EVc.out (p := ⟨pB8, 0, none⟩) B8.out.ge (.int .i64 e2.length)) (p := ⟨pB8, 1, none⟩) B8.out.ge (.int .i64 0))
                        have B8 := hid ((B8.out.set 0 (.int .i64 e2.length)).set 1 (.int .i64 0))
                        simp only [List.set_cons_zero, List.set_cons_succ] at B8
                        generalize ((wc5.setCell ⟨pB8, 0, none⟩ (.int .i64 e2.length)).setCell ⟨pB8, 1, none⟩ (.int .i64 0)) = wc6 at TWc EVc B7 B8 ⊢
                        refine hK.out _ _ (trivial) (fun hSn => ?_)
                        clear hK K hS
                        have hS := hSn
                        clear hSn
                        try simp only [Act.put, List.setIfInBounds_toArray, List.set_cons_zero, List.set_cons_succ, List.getElem_toArray, List.getElem_cons_succ, List.getElem_cons_zero]
                        refine wpAnyH_done (by kernel_rfl) ?_ _
            case' a1_11 =>
              go_simp
              have B8 := hid (Bx.new (n0 := w.heap.size) (w := wc0) 129 [.int .i64 0, .int .i64 0] (fun b hb => (TWc.out.own b hb).2) EVc.out.size)
              have TWc := hid (TWc.out.stays (bl_alloc (Below.refl _ _) (.cells #[.int .i64 0, .int .i64 0] 129)))
              have EVc := hid (EVc.out.alloc (.cells #[.int .i64 0, .int .i64 0] 129))
              generalize wc0.alloc (.cells #[.int .i64 0, .int .i64 0] 129) = wc1 at B8 TWc EVc  ⊢
              generalize wc0.heap.size = pB8 at B8  ⊢
              refine hK.out _ _ (trivial) (fun hSn => ?_)
              clear hK K hS
              have hS := hSn
              clear hSn
              try simp only [Act.put, List.setIfInBounds_toArray, List.set_cons_zero, List.set_cons_succ, List.getElem_toArray, List.getElem_cons_succ, List.getElem_cons_zero]
              refine wpAnyH_ready (rs := [4, 10]) (by kernel_rfl) (by simp) (AllReadyH.cons rfl (fun K hK => ?a36_4) (AllReadyH.cons rfl (fun K hK => ?a36_10) AllReadyH.nil))
              case' a36_4 =>
                go_simp
                refine (intoL M wc1 _ e1 e2 n (k + 1) _ _ t TWc.out (HPt.out _ _ EVc.out) (by omega) (by omega)).mono ?_
                rintro r wc2 ⟨rfl, own2, tw, ev⟩
                have B8 := hid (B8.out.ev ev)
                have TWc := hid tw
                have EVc := hid (EVc.out.trans ev)
                clear tw ev
                refine hK.out _ _ (trivial) (fun hSn => ?_)
                clear hK K hS
                have hS := hSn
                clear hSn
                try simp only [Act.put, List.setIfInBounds_toArray, List.set_cons_zero, List.set_cons_succ, List.getElem_toArray, List.getElem_cons_succ, List.getElem_cons_zero]
                refine wpAnyH_ready (rs := [9, 10]) (by kernel_rfl) (by simp) (AllReadyH.cons rfl (fun K hK => ?a37_9) (AllReadyH.cons rfl (fun K hK => ?a37_10) AllReadyH.nil))
                case' a37_9 =>
                  go_simp
                  refine (intoR M wc2 _ (t.env e1) e2 (n + 1) (k + 1) _ _ t' TWc.out (HPt'.out _ _ EVc.out) (by omega) (by omega)).mono ?_
                  rintro r wc3 ⟨rfl, own3, tw, ev⟩
                  have B8 := hid (B8.out.ev ev)
                  have TWc := hid tw
                  have EVc := hid (EVc.out.trans ev)
                  clear tw ev
                  refine hK.out _ _ (trivial) (fun hSn => ?_)
                  clear hK K hS
                  have hS := hSn
                  clear hSn
                  try simp only [Act.put, List.setIfInBounds_toArray, List.set_cons_zero, List.set_cons_succ, List.getElem_toArray, List.getElem_cons_succ, List.getElem_cons_zero]
                  refine wpAnyH_ready (rs := [10]) (by kernel_rfl) (by simp) (AllReadyH.cons rfl (fun K hK => ?a38_10) AllReadyH.nil)
                  case' a38_10 =>
                    go_simp
                    have neB8 : ¬ pB8 = wc3.heap.size := by have := B8.out.arr.lt; omega
                    have B8 := hid (B8.out.stays (bl_alloc (Below.refl _ _) (.cells #[.int .i64 0, .int .i64 0] 129)))
                    have B7 := hid (Bx.new (n0 := w.heap.size) (w := wc3) 129 [.int .i64 0, .int .i64 0] (fun b hb => (TWc.out.own b hb).2) EVc.out.size)
                    have TWc := hid (TWc.out.stays (bl_alloc (Below.refl _ _) (.cells #[.int .i64 0, .int .i64 0] 129)))
                    have EVc := hid (EVc.out.alloc (.cells #[.int .i64 0, .int .i64 0] 129))
                    generalize wc3.alloc (.cells #[.int .i64 0, .int .i64 0] 129) = wc4 at B7 TWc EVc B8 ⊢
                    generalize wc3.heap.size = pB7 at B7 neB8 ⊢
                    refine hK.out _ _ (trivial) (fun hSn => ?_)
                    clear hK K hS
                    have hS := hSn
                    clear hSn
                    try simp only [Act.put, List.setIfInBounds_toArray, List.set_cons_zero, List.set_cons_succ, List.getElem_toArray, List.getElem_cons_succ, List.getElem_cons_zero]
                    refine wpAnyH_ready (rs := [12]) (by kernel_rfl) (by simp) (AllReadyH.cons rfl (fun K hK => ?a39_12) AllReadyH.nil)
                    case' a39_12 =>
                      go_simp
                      have cc := B7.out.arr.cell
                      have cf := B7.out.arr.frozen
                      go_simp
                      clear cc cf
                      have B8 := hid ((B8.out.other (a := ⟨pB7, 0, none⟩) (by show ¬ pB8 = pB7; omega) (.int .i64 e1.length)).other (a := ⟨pB7, 1, none⟩) (by show ¬ pB8 = pB7; omega) (.int .i64 0))
                      have TWc := hid ((TWc.out.other (p := ⟨pB7, 0, none⟩) B7.out.no (.int .i64 e1.length)).other (p := ⟨pB7, 1, none⟩) B7.out.no (.int .i64 0))
                      have EVc := hid (Ev.new (Ev.new EVc.out (p := ⟨pB7, 0, none⟩) B7.out.ge (.int .i64 e1.length)) (p := ⟨pB7, 1, none⟩) B7.out.ge (.int .i64 0))
                      have B7 := hid ((B7.out.set 0 (.int .i64 e1.length)).set 1 (.int .i64 0))
                      simp only [List.set_cons_zero, List.set_cons_succ] at B7
                      generalize ((wc4.setCell ⟨pB7, 0, none⟩ (.int .i64 e1.length)).setCell ⟨pB7, 1, none⟩ (.int .i64 0)) = wc5 at TWc EVc B8 B7 ⊢
                      refine hK.out _ _ (trivial) (fun hSn => ?_)
                      clear hK K hS
                      have hS := hSn
                      clear hSn
                      try simp only [Act.put, List.setIfInBounds_toArray, List.set_cons_zero, List.set_cons_succ, List.getElem_toArray, List.getElem_cons_succ, List.getElem_cons_zero]
                      refine wpAnyH_ready (rs := [13]) (by kernel_rfl) (by simp) (AllReadyH.cons rfl (fun K hK => ?a40_13) AllReadyH.nil)
                      case' a40_13 =>
                        go_simp
                        have cc := B8.out.arr.cell
                        have cf := B8.out.arr.frozen
                        go_simp
                        clear cc cf
                        have B7 := hid ((B7.out.other (a := ⟨pB8, 0, none⟩) (by show ¬ pB7 = pB8; omega) (.int .i64 e2.length)).other (a := ⟨pB8, 1, none⟩) (by show ¬ pB7 = pB8; omega) (.int .i64 0))
                        have TWc := hid ((TWc.out.other (p := ⟨pB8, 0, none⟩) B8.out.no (.int .i64 e2.length)).other (p := ⟨pB8, 1, none⟩) B8.out.no (.int .i64 0))
                        have EVc := hid (Ev.new (Ev.new EVc.out (p := ⟨pB8, 0, none⟩) B8.out.ge (.int .i64 e2.length)) (p := ⟨pB8, 1, none⟩) B8.out.ge (.int .i64 0))
                        have B8 := hid ((B8.out.set 0 (.int .i64 e2.length)).set 1 (.int .i64 0))
                        simp only [List.set_cons_zero, List.set_cons_succ] at B8
                        generalize ((wc5.setCell ⟨pB8, 0, none⟩ (.int .i64 e2.length)).setCell ⟨pB8, 1, none⟩ (.int .i64 0)) = wc6 at TWc EVc B8 B7 ⊢
                        refine hK.out _ _ (trivial) (fun hSn => ?_)
                        clear hK K hS
                        have hS := hSn
                        clear hSn
                        try simp only [Act.put, List.setIfInBounds_toArray, List.set_cons_zero, List.set_cons_succ, List.getElem_toArray, List.getElem_cons_succ, List.getElem_cons_zero]
                        refine wpAnyH_done (by kernel_rfl) ?_ _
                case' a37_10 =>
                  go_simp
                  have neB8 : ¬ pB8 = wc2.heap.size := by have := B8.out.arr.lt; omega
                  have B8 := hid (B8.out.stays (bl_alloc (Below.refl _ _) (.cells #[.int .i64 0, .int .i64 0] 129)))
                  have B7 := hid (Bx.new (n0 := w.heap.size) (w := wc2) 129 [.int .i64 0, .int .i64 0] (fun b hb => (TWc.out.own b hb).2) EVc.out.size)
                  have TWc := hid (TWc.out.stays (bl_alloc (Below.refl _ _) (.cells #[.int .i64 0, .int .i64 0] 129)))
                  have EVc := hid (EVc.out.alloc (.cells #[.int .i64 0, .int .i64 0] 129))
                  generalize wc2.alloc (.cells #[.int .i64 0, .int .i64 0] 129) = wc3 at B7 TWc EVc B8 ⊢
                  generalize wc2.heap.size = pB7 at B7 neB8 ⊢
                  refine hK.out _ _ (trivial) (fun hSn => ?_)
                  clear hK K hS
                  have hS := hSn
                  clear hSn
                  try simp only [Act.put, List.setIfInBounds_toArray, List.set_cons_zero, List.set_cons_succ, List.getElem_toArray, List.getElem_cons_succ, List.getElem_cons_zero]
                  refine wpAnyH_ready (rs := [9]) (by kernel_rfl) (by simp) (AllReadyH.cons rfl (fun K hK => ?a41_9) AllReadyH.nil)
                  case' a41_9 =>
                    go_simp
                    refine (intoR M wc3 _ (t.env e1) e2 (n + 1) (k + 1) _ _ t' TWc.out (HPt'.out _ _ EVc.out) (by omega) (by omega)).mono ?_
                    rintro r wc4 ⟨rfl, own4, tw, ev⟩
                    have B8 := hid (B8.out.ev ev)
                    have B7 := hid (B7.out.ev ev)
                    have TWc := hid tw
                    have EVc := hid (EVc.out.trans ev)
                    clear tw ev
                    refine hK.out _ _ (trivial) (fun hSn => ?_)
                    clear hK K hS
                    have hS := hSn
                    clear hSn
                    try simp only [Act.put, List.setIfInBounds_toArray, List.set_cons_zero, List.set_cons_succ, List.getElem_toArray, List.getElem_cons_succ, List.getElem_cons_zero]
                    refine wpAnyH_ready (rs := [12]) (by kernel_rfl) (by simp) (AllReadyH.cons rfl (fun K hK => ?a42_12) AllReadyH.nil)
                    case' a42_12 =>
                      go_simp
                      have cc := B7.out.arr.cell
                      have cf := B7.out.arr.frozen
                      go_simp
                      clear cc cf
                      have B8 := hid ((B8.out.other (a := ⟨pB7, 0, none⟩) (by show ¬ pB8 = pB7; omega) (.int .i64 e1.length)).other (a := ⟨pB7, 1, none⟩) (by show ¬ pB8 = pB7; omega) (.int .i64 0))
                      have TWc := hid ((TWc.out.other (p := ⟨pB7, 0, none⟩) B7.out.no (.int .i64 e1.length)).other (p := ⟨pB7, 1, none⟩) B7.out.no (.int .i64 0))
                      have EVc := hid (Ev.new (Ev.new EVc.out (p := ⟨pB7, 0, none⟩) B7.out.ge (.int .i64 e1.length)) (p := ⟨pB7, 1, none⟩) B7.out.ge (.int .i64 0))
                      have B7 := hid ((B7.out.set 0 (.int .i64 e1.length)).set 1 (.int .i64 0))
                      simp only [List.set_cons_zero, List.set_cons_succ] at B7
                      generalize ((wc4.setCell ⟨pB7, 0, none⟩ (.int .i64 e1.length)).setCell ⟨pB7, 1, none⟩ (.int .i64 0)) = wc5 at TWc EVc B8 B7 ⊢
                      refine hK.out _ _ (trivial) (fun hSn => ?_)
                      clear hK K hS
                      have hS := hSn
                      clear hSn
                      try simp only [Act.put, List.setIfInBounds_toArray, List.set_cons_zero, List.set_cons_succ, List.getElem_toArray, List.getElem_cons_succ, List.getElem_cons_zero]
                      refine wpAnyH_ready (rs := [13]) (by kernel_rfl) (by simp) (AllReadyH.cons rfl (fun K hK => ?a43_13) AllReadyH.nil)
                      case' a43_13 =>
                        go_simp
                        have cc := B8.out.arr.cell
                        have cf := B8.out.arr.frozen
                        go_simp
                        clear cc cf
                        have B7 := hid ((B7.out.other (a := ⟨pB8, 0, none⟩) (by show ¬ pB7 = pB8; omega) (.int .i64 e2.length)).other (a := ⟨pB8, 1, none⟩) (by show ¬ pB7 = pB8; omega) (.int .i64 0))
                        have TWc := hid ((TWc.out.other (p := ⟨pB8, 0, none⟩) B8.out.no (.int .i64 e2.length)).other (p := ⟨pB8, 1, none⟩) B8.out.no (.int .i64 0))
                        have EVc := hid (Ev.new (Ev.new EVc.out (p := ⟨pB8, 0, none⟩) B8.out.ge (.int .i64 e2.length)) (p := ⟨pB8, 1, none⟩) B8.out.ge (.int .i64 0))
                        have B8 := hid ((B8.out.set 0 (.int .i64 e2.length)).set 1 (.int .i64 0))
                        simp only [List.set_cons_zero, List.set_cons_succ] at B8
                        generalize ((wc5.setCell ⟨pB8, 0, none⟩ (.int .i64 e2.length)).setCell ⟨pB8, 1, none⟩ (.int .i64 0)) = wc6 at TWc EVc B8 B7 ⊢
                        refine hK.out _ _ (trivial) (fun hSn => ?_)
                        clear hK K hS
                        have hS := hSn
                        clear hSn
                        try simp only [Act.put, List.setIfInBounds_toArray, List.set_cons_zero, List.set_cons_succ, List.getElem_toArray, List.getElem_cons_succ, List.getElem_cons_zero]
                        refine wpAnyH_done (by kernel_rfl) ?_ _
              case' a36_10 =>
                go_simp
                have neB8 : ¬ pB8 = wc1.heap.size := by have := B8.out.arr.lt; omega
                have B8 := hid (B8.out.stays (bl_alloc (Below.refl _ _) (.cells #[.int .i64 0, .int .i64 0] 129)))
                have B7 := hid (Bx.new (n0 := w.heap.size) (w := wc1) 129 [.int .i64 0, .int .i64 0] (fun b hb => (TWc.out.own b hb).2) EVc.out.size)
                have TWc := hid (TWc.out.stays (bl_alloc (Below.refl _ _) (.cells #[.int .i64 0, .int .i64 0] 129)))
                have EVc := hid (EVc.out.alloc (.cells #[.int .i64 0, .int .i64 0] 129))
                generalize wc1.alloc (.cells #[.int .i64 0, .int .i64 0] 129) = wc2 at B7 TWc EVc B8 ⊢
                generalize wc1.heap.size = pB7 at B7 neB8 ⊢
                refine hK.out _ _ (trivial) (fun hSn => ?_)
                clear hK K hS
                have hS := hSn
                clear hSn
                try simp only [Act.put, List.setIfInBounds_toArray, List.set_cons_zero, List.set_cons_succ, List.getElem_toArray, List.getElem_cons_succ, List.getElem_cons_zero]
                refine wpAnyH_ready (rs := [4]) (by kernel_rfl) (by simp) (AllReadyH.cons rfl (fun K hK => ?a44_4) AllReadyH.nil)
                case' a44_4 =>
                  go_simp
                  refine (intoL M wc2 _ e1 e2 n (k + 1) _ _ t TWc.out (HPt.out _ _ EVc.out) (by omega) (by omega)).mono ?_
                  rintro r wc3 ⟨rfl, own3, tw, ev⟩
                  have B8 := hid (B8.out.ev ev)
                  have B7 := hid (B7.out.ev ev)
                  have TWc := hid tw
                  have EVc := hid (EVc.out.trans ev)
                  clear tw ev
                  refine hK.out _ _ (trivial) (fun hSn => ?_)
                  clear hK K hS
                  have hS := hSn
                  clear hSn
                  try simp only [Act.put, List.setIfInBounds_toArray, List.set_cons_zero, List.set_cons_succ, List.getElem_toArray, List.getElem_cons_succ, List.getElem_cons_zero]
                  refine wpAnyH_ready (rs := [9]) (by kernel_rfl) (by simp) (AllReadyH.cons rfl (fun K hK => ?a45_9) AllReadyH.nil)
                  case' a45_9 =>
                    go_simp
                    refine (intoR M wc3 _ (t.env e1) e2 (n + 1) (k + 1) _ _ t' TWc.out (HPt'.out _ _ EVc.out) (by omega) (by omega)).mono ?_
                    rintro r wc4 ⟨rfl, own4, tw, ev⟩
                    have B8 := hid (B8.out.ev ev)
                    have B7 := hid (B7.out.ev ev)
                    have TWc := hid tw
                    have EVc := hid (EVc.out.trans ev)
                    clear tw ev
                    refine hK.out _ _ (trivial) (fun hSn => ?_)
                    clear hK K hS
                    have hS := hSn
                    clear hSn
                    try simp only [Act.put, List.setIfInBounds_toArray, List.set_cons_zero, List.set_cons_succ, List.getElem_toArray, List.getElem_cons_succ, List.getElem_cons_zero]
                    refine wpAnyH_ready (rs := [12]) (by kernel_rfl) (by simp) (AllReadyH.cons rfl (fun K hK => ?a46_12) AllReadyH.nil)
                    case' a46_12 =>
                      go_simp
                      have cc := B7.out.arr.cell
                      have cf := B7.out.arr.frozen
                      go_simp
                      clear cc cf
                      have B8 := hid ((B8.out.other (a := ⟨pB7, 0, none⟩) (by show ¬ pB8 = pB7; omega) (.int .i64 e1.length)).other (a := ⟨pB7, 1, none⟩) (by show ¬ pB8 = pB7; omega) (.int .i64 0))
                      have TWc := hid ((TWc.out.other (p := ⟨pB7, 0, none⟩) B7.out.no (.int .i64 e1.length)).other (p := ⟨pB7, 1, none⟩) B7.out.no (.int .i64 0))
                      have EVc := hid (Ev.new (Ev.new EVc.out (p := ⟨pB7, 0, none⟩) B7.out.ge (.int .i64 e1.length)) (p := ⟨pB7, 1, none⟩) B7.out.ge (.int .i64 0))
                      have B7 := hid ((B7.out.set 0 (.int .i64 e1.length)).set 1 (.int .i64 0))
                      simp only [List.set_cons_zero, List.set_cons_succ] at B7
                      generalize ((wc4.setCell ⟨pB7, 0, none⟩ (.int .i64 e1.length)).setCell ⟨pB7, 1, none⟩ (.int .i64 0)) = wc5 at TWc EVc B8 B7 ⊢
                      refine hK.out _ _ (trivial) (fun hSn => ?_)
                      clear hK K hS
                      have hS := hSn
                      clear hSn
                      try simp only [Act.put, List.setIfInBounds_toArray, List.set_cons_zero, List.set_cons_succ, List.getElem_toArray, List.getElem_cons_succ, List.getElem_cons_zero]
                      refine wpAnyH_ready (rs := [13]) (by kernel_rfl) (by simp) (AllReadyH.cons rfl (fun K hK => ?a47_13) AllReadyH.nil)
                      case' a47_13 =>
                        go_simp
                        have cc := B8.out.arr.cell
                        have cf := B8.out.arr.frozen
                        go_simp
                        clear cc cf
                        have B7 := hid ((B7.out.other (a := ⟨pB8, 0, none⟩) (by show ¬ pB7 = pB8; omega) (.int .i64 e2.length)).other (a := ⟨pB8, 1, none⟩) (by show ¬ pB7 = pB8; omega) (.int .i64 0))
                        have TWc := hid ((TWc.out.other (p := ⟨pB8, 0, none⟩) B8.out.no (.int .i64 e2.length)).other (p := ⟨pB8, 1, none⟩) B8.out.no (.int .i64 0))
                        have EVc := hid (Ev.new (Ev.new EVc.out (p := ⟨pB8, 0, none⟩) B8.out.ge (.int .i64 e2.length)) (p := ⟨pB8, 1, none⟩) B8.out.ge (.int .i64 0))
                        have B8 := hid ((B8.out.set 0 (.int .i64 e2.length)).set 1 (.int .i64 0))
                        simp only [List.set_cons_zero, List.set_cons_succ] at B8
                        generalize ((wc5.setCell ⟨pB8, 0, none⟩ (.int .i64 e2.length)).setCell ⟨pB8, 1, none⟩ (.int .i64 0)) = wc6 at TWc EVc B8 B7 ⊢
                        refine hK.out _ _ (trivial) (fun hSn => ?_)
                        clear hK K hS
                        have hS := hSn
                        clear hSn
                        try simp only [Act.put, List.setIfInBounds_toArray, List.set_cons_zero, List.set_cons_succ, List.getElem_toArray, List.getElem_cons_succ, List.getElem_cons_zero]
                        refine wpAnyH_done (by kernel_rfl) ?_ _
            all_goals (
              go_wp2_with fail
              go_meet
              exact ⟨pB7, pB8, _, rfl, rfl, B7, B8, TWc, EVc⟩)
          case rest =>
            obtain ⟨pB7, pB8, own1, rfl, rfl, B7, B8, TW1, EV1⟩ := hcut
            obtain ⟨hct, h1, h2, h3⟩ := H123.out
            obtain ⟨l1, l2, -⟩ := env_len t e1
            obtain ⟨l3, l4, -⟩ := env_len t' e2
            have TQ := hid (HIH.out wc.drew own1 (t.env e1) (t'.env e2) (n + 2) _ _ t.ks t'.ks (TW1.out.stays (Below.refl _ _).drew) (HLs.out _ _ EV1.out.drew).1 (HLs.out _ _ EV1.out.drew).2 (by omega) (by omega) (by omega))
            obtain ⟨z0, z1⟩ := HX3.out _ _ EV1.out
            have HB := hid (And.intro hct (And.intro h1 (And.intro h2 h3)))
            have EVd := hid EV1.out.drew
            have B7 := hid (B7.out.stays (Below.refl _ _).drew)
            have B8 := hid (B8.out.stays (Below.refl _ _).drew)
            clear hct h1 h2 h3 l1 l2 l3 l4 HLs HIH HPt HPt' H123 TWc EVc HT HR TW1
            go_wp2_with fail
            refine wp_region_held_drew (S := fun wz => wz.cell? ⟨b, o + 3, none⟩ = some (.slice ka t.ks.length kc) ∧ wz.cell? ⟨b', o' + 3, none⟩ = some (.slice ka' t'.ks.length kc')) (by kernel_rfl) (⟨z0, z1⟩) (fun hS => ?_)
            generalize wc.drew = wc0 at hS  TQ EVd B7 B8 ⊢
            refine wpAnyH_take (i := 0) (v := ?_) rfl (by kernel_rfl) (by kernel_rfl) (by kernel_rfl) (fun _ _ _ h => h) (Or.inl ⟨by rfl, ?_⟩) hS ?_
            rotate_left
            · intro wz hz; go_simp; try with_reducible rfl
            try simp only [Act.put, List.setIfInBounds_toArray, List.set_cons_zero, List.set_cons_succ, List.getElem_toArray, List.getElem_cons_succ, List.getElem_cons_zero]
            refine wpAnyH_take (i := 1) (v := ?_) rfl (by kernel_rfl) (by kernel_rfl) (by kernel_rfl) (fun _ _ _ h => h) (Or.inl ⟨by rfl, ?_⟩) hS ?_
            rotate_left
            · intro wz hz; go_simp; try with_reducible rfl
            try simp only [Act.put, List.setIfInBounds_toArray, List.set_cons_zero, List.set_cons_succ, List.getElem_toArray, List.getElem_cons_succ, List.getElem_cons_zero]
            refine wpAnyH_take (i := 2) (v := ?_) rfl (by kernel_rfl) (by kernel_rfl) (by kernel_rfl) (fun _ _ _ h => h) (Or.inl ⟨by rfl, ?_⟩) hS ?_
            rotate_left
            · intro wz hz; go_simp; try with_reducible rfl
            try simp only [Act.put, List.setIfInBounds_toArray, List.set_cons_zero, List.set_cons_succ, List.getElem_toArray, List.getElem_cons_succ, List.getElem_cons_zero]
            refine wpAnyH_take (i := 3) (v := ?_) rfl (by kernel_rfl) (by kernel_rfl) (by kernel_rfl) (fun _ _ _ h => h) (Or.inl ⟨by rfl, ?_⟩) hS ?_
            rotate_left
            · intro wz hz; go_simp; try with_reducible rfl
            try simp only [Act.put, List.setIfInBounds_toArray, List.set_cons_zero, List.set_cons_succ, List.getElem_toArray, List.getElem_cons_succ, List.getElem_cons_zero]
            refine wpAnyH_take (i := 4) (v := ?_) rfl (by kernel_rfl) (by kernel_rfl) (by kernel_rfl) (fun _ _ _ h => h) (Or.inl ⟨by rfl, ?_⟩) hS ?_
            rotate_left
            · intro wz hz; obtain ⟨yy0, yy1⟩ := hz; go_simp; try with_reducible rfl
            try simp only [Act.put, List.setIfInBounds_toArray, List.set_cons_zero, List.set_cons_succ, List.getElem_toArray, List.getElem_cons_succ, List.getElem_cons_zero]
            refine wpAnyH_take (i := 5) (v := ?_) rfl (by kernel_rfl) (by kernel_rfl) (by kernel_rfl) (fun _ _ _ h => h) (Or.inl ⟨by rfl, ?_⟩) hS ?_
            rotate_left
            · intro wz hz; go_simp; try with_reducible rfl
            try simp only [Act.put, List.setIfInBounds_toArray, List.set_cons_zero, List.set_cons_succ, List.getElem_toArray, List.getElem_cons_succ, List.getElem_cons_zero]
            refine wpAnyH_take (i := 6) (v := ?_) rfl (by kernel_rfl) (by kernel_rfl) (by kernel_rfl) (fun _ _ _ h => h) (Or.inl ⟨by rfl, ?_⟩) hS ?_
            rotate_left
            · intro wz hz; go_simp; try with_reducible rfl
            try simp only [Act.put, List.setIfInBounds_toArray, List.set_cons_zero, List.set_cons_succ, List.getElem_toArray, List.getElem_cons_succ, List.getElem_cons_zero]
            refine wpAnyH_take (i := 7) (v := ?_) rfl (by kernel_rfl) (by kernel_rfl) (by kernel_rfl) (fun _ _ _ h => h) (Or.inl ⟨by rfl, ?_⟩) hS ?_
            rotate_left
            · intro wz hz; go_simp; try with_reducible rfl
            try simp only [Act.put, List.setIfInBounds_toArray, List.set_cons_zero, List.set_cons_succ, List.getElem_toArray, List.getElem_cons_succ, List.getElem_cons_zero]
            refine wpAnyH_take (i := 8) (v := ?_) rfl (by kernel_rfl) (by kernel_rfl) (by kernel_rfl) (fun _ _ _ h => h) (Or.inl ⟨by rfl, ?_⟩) hS ?_
            rotate_left
            · intro wz hz; obtain ⟨yy0, yy1⟩ := hz; go_simp; try with_reducible rfl
            try simp only [Act.put, List.setIfInBounds_toArray, List.set_cons_zero, List.set_cons_succ, List.getElem_toArray, List.getElem_cons_succ, List.getElem_cons_zero]
            refine wpAnyH_ready (rs := [9]) (by kernel_rfl) (by simp) (AllReadyH.cons rfl (fun K hK => ?a48_9) AllReadyH.nil)
            case' a48_9 =>
              go_simp
              refine (TQ.out).mono ?_
              rintro r w3 ⟨rfl, own3, hT3, hE3⟩
              have zz := HX3.out _ _ (EVd.out.trans hE3)
              refine hK.out _ _ (zz) (fun hSn => ?_)
              clear hK K hS
              have hS := hSn
              clear hSn
              try simp only [Act.put, List.setIfInBounds_toArray, List.set_cons_zero, List.set_cons_succ, List.getElem_toArray, List.getElem_cons_succ, List.getElem_cons_zero]
              clear zz
              refine wpAnyH_take (i := 10) (v := ?_) rfl (by kernel_rfl) (by kernel_rfl) (by kernel_rfl) (fun _ _ _ h => h) (Or.inl ⟨by rfl, ?_⟩) hS ?_
              rotate_left
              · intro wz hz; go_simp; try with_reducible rfl
              try simp only [Act.put, List.setIfInBounds_toArray, List.set_cons_zero, List.set_cons_succ, List.getElem_toArray, List.getElem_cons_succ, List.getElem_cons_zero]
              refine wpAnyH_done (by kernel_rfl) ?_ _
            go_wp2_with fail
            have B7c := hid (B7.out.ev hE3)
            have B8c := hid (B8.out.ev hE3)
            have TW3 := hid hT3
            have EV3 := hid (EVd.out.trans hE3)
            have LQ := hid (backL M w3.drew own3 e1 (t'.env e2) _ t (TW3.out.stays (Below.refl _ _).drew) (by obtain ⟨hct, h1, h2, h3⟩ := HB.out; omega))
            have k7 := B7c.out.arr.cell
            clear hT3 hE3 B7 B8 EV1 EVd TQ HX3 hS
            go_region_with (go_at_call 56; refine (LQ.out).mono ?_; rintro r w4 ⟨rfl, own4, hT4, hE4⟩)
            have B8d := hid ((B8c.out.stays (Below.refl _ _).drew).ev hE4)
            have TW4 := hid hT4
            have EV4 := hid (EV3.out.drew.trans hE4)
            have RQ := hid (backR M w4.drew own4 e1 e2 _ t' (TW4.out.stays (Below.refl _ _).drew) (by obtain ⟨hct, h1, h2, h3⟩ := HB.out; omega))
            have k8 := B8d.out.arr.cell
            clear hT4 hE4 B7c B8c TW3 EV3 LQ k7
            go_wp2_with fail
            go_region_with (go_at_call 56; refine (RQ.out).mono ?_; rintro r w5 ⟨rfl, own5, hT5, hE5⟩)
            go_wp2
            go_ret
            exact ⟨ret_bool HM.out.symm, own5, hT5.up (by obtain ⟨hct, h1, h2, h3⟩ := HB.out; omega), EV4.out.drew.trans hE5⟩
theorem types_any (M : Nat) : ∀ k, SameOf M k
  | 0 => fun w own e1 e2 n b o b' o' t t' _ h => by obtain ⟨m, e⟩ := h.pos; cases e
  | k + 1 => same_step M k (sames_step M k (types_any M k))

set_option maxHeartbeats 1000000 in
set_option maxRecDepth 100000 in
theorem SameType_big (w : World) (n n' : Nat) (us us' : List Value) (t t' : Tt) (h : TAt w Any n us t) (h' : TAt w Any n' us' t') (hd : t.deepest ≤ 2097152) (hc : t.cnt ≤ 68719476736) : Calls Tryz.prog 8 #[.agg us.toArray, .agg us'.toArray] w fun e w' => e = .returned (.bool (Tt.same t t' [] [])) ∧ Below w.heap.size w w' := by
  have B2 : Below w.heap.size w ((w.alloc (.cells us.toArray 28)).alloc (.cells us'.toArray 28)) := bl_alloc (bl_alloc (Below.refl _ _) _) _
  have hP : PAt ((w.alloc (.cells us.toArray 28)).alloc (.cells us'.toArray 28)) (fun b => b < w.heap.size + 2) (max n n') w.heap.size 0 t := by
    have h1 := PAt.box ((TAt.old h).move (K' := fun b => b < w.heap.size + 2) (Keeps.refl _ _) (fun b hb => by have := hb.2; omega)) 28 (by show w.heap.size < w.heap.size + 2; omega)
    exact (h1.le (Nat.le_max_left _ _)).move (Keeps.of_below (bl_alloc (Below.refl _ _) _)) (fun _ h => h)
  have hP' : PAt ((w.alloc (.cells us.toArray 28)).alloc (.cells us'.toArray 28)) (fun b => b < w.heap.size + 2) (max n n') (w.heap.size + 1) 0 t' := by
    have h1 := PAt.box ((TAt.old (h'.below (bl_alloc (Below.refl _ _) (.cells us.toArray 28)))).move (K' := fun b => b < w.heap.size + 2) (Keeps.refl _ _) (fun b hb => by have := hb.2; rw [size_alloc] at this; omega)) 28 (by show (w.alloc _).heap.size < w.heap.size + 2; rw [size_alloc]; omega)
    rw [size_alloc] at h1
    exact h1.le (Nat.le_max_right _ _)
  have hT := Tw.init ((w.alloc (.cells us.toArray 28)).alloc (.cells us'.toArray 28))
  rw [size_alloc, size_alloc] at hT
  have B3 : Below (w.heap.size + 2) ((w.alloc (.cells us.toArray 28)).alloc (.cells us'.toArray 28)) (((w.alloc (.cells us.toArray 28)).alloc (.cells us'.toArray 28)).alloc (.cells #[.pointer none, .slice none 0 0, .map none, .slice none 0 0, .map none, .slice none 0 0, .pointer none, .slice none 0 0, .map none, .slice none 0 0, .map none, .slice none 0 0] TW)) := by
    have := bl_alloc (Below.refl ((w.alloc (.cells us.toArray 28)).alloc (.cells us'.toArray 28)).heap.size ((w.alloc (.cells us.toArray 28)).alloc (.cells us'.toArray 28))) (.cells #[.pointer none, .slice none 0 0, .map none, .slice none 0 0, .map none, .slice none 0 0, .pointer none, .slice none 0 0, .map none, .slice none 0 0, .map none, .slice none 0 0] TW)
    rw [size_alloc, size_alloc] at this
    exact this
  have Q := hid (types_any (w.heap.size + 1 + 1) (max n n') _ _ [] [] 0 _ _ _ _ t t' hT (hP.move (Keeps.lt B3) (fun _ h => h)) (hP'.move (Keeps.lt B3) (fun _ h => h)) (by simp; omega) (by simp; omega) (by omega))
  have HB3 := hid (B2.trans (B3.mono (by omega)))
  obtain ⟨a', c', a, c, rfl⟩ := h.form
  obtain ⟨d', f', d, f, rfl⟩ := h'.form
  clear h h' hP hP' hT B2 B3 hc
  go_enter Tryz.func8, Tryz.ntmps8
  go_wp2_with (go_at_call 26; refine (Q.out).mono ?_; rintro r w3 ⟨rfl, own3, hT3, hE3⟩)
  go_ret
  exact ⟨rfl, HB3.out.trans (hE3.below (by simp; omega) (fun b hb => by rw [hb]; omega))⟩
theorem SameType_any (w : World) (n n' : Nat) (us us' : List Value) (t t' : Tt) (h : TAt w Any n us t) (h' : TAt w Any n' us' t') (hc : t.cnt ≤ 2097152) : Calls Tryz.prog 8 #[.agg us.toArray, .agg us'.toArray] w fun e w' => e = .returned (.bool (Tt.same t t' [] [])) ∧ Below w.heap.size w w' := SameType_big w n n' us us' t t' h h' (by have := Tt.deepest_le t; omega) (by omega)
end Go.Proofs.YtigliglmejkakaaGreat.Tgt
