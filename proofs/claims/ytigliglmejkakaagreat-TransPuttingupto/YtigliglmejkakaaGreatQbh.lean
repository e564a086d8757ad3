/- put, a list at a time. -/
import Derived.Test.YtigliglmejkakaaGreatQbg
namespace Go.Proofs.YtigliglmejkakaaGreat.Tgt
open Go.RowKit
set_option linter.unusedVariables false
set_option linter.unusedSimpArgs false

theorem Tt.putL_len (num : Int) (u : Tt) (C : Int → Bool) (l : List Int) : ∀ (L : List Tt) (e : List (Int × Int)) (nx : Int), (Tt.putL num u C l L e nx).1.length = L.length
  | [], e, nx => by rw [Tt.putL]
  | t :: r, e, nx => by rw [Tt.putL]; show List.length (_ :: _) = _; rw [List.length_cons, Tt.putL_len num u C l r, List.length_cons]
theorem Tt.own3_drop (C : Int → Bool) (l : List Int) (t : Tt) (e : List (Int × Int)) (nx : Int) : (t.own3 C l e nx).2.1.drop ((t.own3 C l e nx).2.1.length - e.length) = e ∧ e.length ≤ (t.own3 C l e nx).2.1.length ∧ (t.own3 C l e nx).2.1.length ≤ e.length + 1 := by
  unfold Tt.own3
  split
  · simp
  · split
    · refine ⟨?_, by simp, by simp⟩
      show List.drop (List.length (_ :: e) - e.length) (_ :: e) = e
      rw [List.length_cons, show e.length + 1 - e.length = 1 by omega]
      rfl
    · simp
theorem Tt.put_st (num : Int) (u : Tt) (C : Int → Bool) (l : List Int) (t : Tt) (e : List (Int × Int)) (nx : Int) : Tt.put num u C l t e nx =
    (if t.stands num e then u else .mk t.k (t.own3 C l e nx).1 t.ls (Tt.putL num u C l t.ks (t.own3 C l e nx).2.1 (t.own3 C l e nx).2.2).1, t.stands num e || ((Tt.putL num u C l t.ks (t.own3 C l e nx).2.1 (t.own3 C l e nx).2.2).2.1 || ((t.own3 C l e nx).1 != t.n)), (Tt.putL num u C l t.ks (t.own3 C l e nx).2.1 (t.own3 C l e nx).2.2).2.2) := by
  rw [Tt.put_mk]
  by_cases h : t.k = 6 ∧ lk e t.n = none ∧ t.n = num
  · have hs : t.stands num e = true := by unfold Tt.stands; simp [h.1, h.2.2, h.2.2 ▸ h.2.1]
    have ho : t.own3 C l e nx = (t.n, e, nx) := by unfold Tt.own3; rw [if_pos h.1, h.2.1]; rfl
    rw [if_pos h, hs, ho]
    simp
  · have hs : t.stands num e = false := by
      unfold Tt.stands
      cases hq : lk e t.n with
      | none => rw [hq] at h; simp; intro h6 hn; exact h ⟨h6, rfl, hn⟩
      | some a => simp
    rw [if_neg h, hs]
    simp

set_option maxHeartbeats 4000000 in
set_option maxRecDepth 100000 in
theorem put_step (I : Nat → Prop) (N M : Nat) (num : Int) (u : Tt) (C : Int → Bool) (l : List Int) (hNI : ∀ b, b < N → I b) (k : Nat) (ih : ∀ m, k = m + 1 → PutOf I N M num u C l m) : PutOf I N M num u C l k := by
  intro w own e nx n a c L h hI hL q1 q2 q3
  have LQ : Hid (∀ wz own', Ev own w own' wz → TAtL wz I k (.slice a L.length c) L) := fun wz own' hE => hL.move (fun b o v hb hv => (hE.cell (p := ⟨b, o, none⟩) (hI b hb).1 (hI b hb).2).trans hv) (fun _ h => h)
  have IQ : Hid (∀ wz own', Ev own w own' wz → ∀ b, I b → b < wz.heap.size ∧ ¬ own' b) := fun wz own' hE b hb => ⟨Nat.lt_of_lt_of_le (hI b hb).1 hE.size, fun hq => (hE.mine b hq).elim (hI b hb).2 (fun hl => by have := (hI b hb).1; omega)⟩
  have HQ : Hid (e.length + Tt.deepestL L ≤ 2097152 ∧ n + Tt.cntL L * 8388608 ≤ 2305843009213693952 ∧ nx + from_ l nx + Tt.cntL L ≤ 4611686018427387904) := ⟨q1, q2, q3⟩
  have hll := Tt.len_le L
  have H4 : Hid (L.length ≤ 1099511627776) := by show _ ≤ _; omega
  have q5 : L.length ≤ 9223372036854775807 := by omega
  have H0 := hid h
  have HM : Hid (M < w.heap.size) := by obtain ⟨_, _, -, -, -, -, -, -, -, hM, -⟩ := h.cells; exact hM
  have HIH := hid ih
  have HNI := hid hNI
  generalize hPL : Tt.putL num u C l L e nx = PL
  have HPL := hid hPL
  have HPN : Hid (PL.1.length = L.length) := by show _ = _; rw [← hPL]; exact Tt.putL_len num u C l L e nx
  clear h hL hI q1 q2 q3 hPL ih hNI hll
  go_enter Tryz.func35, Tryz.ntmps35
  go_wp2
  go_loopw [15, 4, 5] (fun v ov bv wr => ∃ (i n' : Nat) (nx' : Int) (own' : Nat → Prop) (done : List Tt) (oth : Bool) (kk : Nat), v = .int .i64 i ∧ bv = .bool oth ∧ i ≤ L.length ∧ Hid (PL = (done ++ (Tt.putL num u C l (L.drop i) e nx').1, oth || (Tt.putL num u C l (L.drop i) e nx').2.1, (Tt.putL num u C l (L.drop i) e nx').2.2)) ∧ Hid (done.length = i) ∧ Hid (Pt N M num u C l wr own' e nx' n') ∧ Hid (Ev own w own' wr) ∧ Hid (n' + Tt.cntL (L.drop i) * 8388608 ≤ n + Tt.cntL L * 8388608 ∧ nx' + from_ l nx' + Tt.cntL (L.drop i) ≤ nx + from_ l nx + Tt.cntL L ∧ Tt.cntL (L.drop i) ≤ Tt.cntL L ∧ Tt.deepestL (L.drop i) ≤ Tt.deepestL L) ∧ ((oth = false ∧ ov = .slice a L.length c ∧ Hid (done = L.take i)) ∨ (oth = true ∧ ∃ g cap, ov = .slice (some ⟨g, 0, none⟩) L.length cap ∧ Hid (Rw I w.heap.size wr own' g cap kk (done ++ L.drop i))))) (fun v _ _ _ => L.length - (intOf v).toNat)
  case atStart => exact ⟨0, n, nx, own, [], false, 0, rfl, rfl, Nat.zero_le _, hid (by rw [← HPL.out]; simp), hid rfl, H0, hid (Ev.refl _ _), hid ⟨by simp, by simp, by simp, by simp⟩, .inl ⟨rfl, rfl, hid (by simp)⟩⟩
  case round =>
    obtain ⟨i, n', nx', own', done, oth, kk, rfl, rfl, hil, hPr, hdl, hPt, hEv, hbd, hov⟩ := hrel
    by_cases hlt : i < L.length
    · obtain ⟨x, hxi⟩ : ∃ x, L[i]? = some x := ⟨_, List.getElem?_eq_getElem hlt⟩
      obtain ⟨b0, o0, rfl, hPx⟩ := (LQ.out _ _ hEv.out).elem hxi
      have HC : Hid (Tt.cntL (L.drop i) = x.cnt + Tt.cntL (L.drop (i + 1)) ∧ x.cnt = Tt.cntL x.ks + 1 ∧ Tt.deepestL (L.drop i) = max x.deepest (Tt.deepestL (L.drop (i + 1))) ∧ x.deepest = Tt.deepestL x.ks + 1) := ⟨Tt.cntL_drop hxi, Tt.cnt_ks x, Tt.deepestL_drop hxi, Tt.deepest_ks x⟩
      have HXI := hid hxi
      have HHL : Hid (L.drop i = x :: L.drop (i + 1)) := Tt.drop_at hxi
      have HLB := (IQ.out _ _ hEv.out b0 hPx.1)
      obtain ⟨m, rfl⟩ := hPx.pos
      obtain ⟨la, lc, xa, xc, x0, x1, x2, x3, hkr, hnr, hSx, hKx⟩ := hPx.cells
      have Y : Hid (∀ wz oz, Ev own' wr oz wz → wz.cell? ⟨b0, o0 + i * 4 + 1, none⟩ = some (.int .i64 x.n) ∧ wz.cell? ⟨b0, o0 + i * 4 + 3, none⟩ = some (.slice xa x.ks.length xc)) := fun wz oz hz => ⟨(hz.cell (p := ⟨b0, o0 + i * 4 + 1, none⟩) HLB.1 HLB.2).trans x1, (hz.cell (p := ⟨b0, o0 + i * 4 + 3, none⟩) HLB.1 HLB.2).trans x3⟩
      have PX : Hid (∀ wz oz, Ev own' wr oz wz → PAt wz I (m + 1) b0 (o0 + i * 4) x) := fun wz oz hz => hPx.move (fun b o v hb hv => by have hq := IQ.out _ _ hEv.out b hb; exact (hz.cell (p := ⟨b, o, none⟩) hq.1 hq.2).trans hv) (fun _ h => h)
      have KX : Hid (∀ wz oz, Ev own' wr oz wz → TAtL wz I m (.slice xa x.ks.length xc) x.ks) := fun wz oz hz => hKx.move (fun b o v hb hv => by have hq := IQ.out _ _ hEv.out b hb; exact (hz.cell (p := ⟨b, o, none⟩) hq.1 hq.2).trans hv) (fun _ h => h)
      have SQ : Hid (∀ m', Calls Tryz.prog 71 #[.pointer (some ⟨M, 0, none⟩), .pointer (some ⟨b0, o0 + i * 4, none⟩)] (wr.drewN m') fun r w' => r = .returned (.bool (x.stands num e)) ∧ ∃ m, w' = (wr.drewN m').drewN m) := fun m' => stands_any N M num u C l _ own' e nx' n' I _ b0 _ x (hPt.out.stays (bl_drewN _ _)) (PX.out _ _ (Ev.of_below (bl_drewN _ _)))
      have DQ : Hid (∀ m', Calls Tryz.prog 72 #[.pointer (some ⟨M, 2, none⟩)] (wr.drewN m') fun r w' => r = .returned (.int .i64 e.length) ∧ w' = wr.drewN m') := fun m' => depthP N M num u C l _ own' e nx' n' (hPt.out.stays (bl_drewN _ _))
      have HPU := Tt.put_st num u C l x e nx'
      have HOD := Tt.own3_drop C l x e nx'
      have RQ : Hid (∀ wz, Ev own' wr own' wz → Pt N M num u C l wz own' e nx' n' → Calls Tryz.prog 73 #[.pointer (some ⟨M, 0, none⟩), .pointer (some ⟨b0, o0 + i * 4, none⟩)] wz fun r w' => r = .returned (.int .i64 (x.own3 C l e nx').1) ∧ R64 (x.own3 C l e nx').1 ∧ (∃ own'', Pt N M num u C l w' own'' (x.own3 C l e nx').2.1 (x.own3 C l e nx').2.2 (n' + 1) ∧ Ev own' wz own'' w') ∧ (x.own3 C l e nx').2.2 + from_ l (x.own3 C l e nx').2.2 ≤ nx' + from_ l nx' + 1) := fun wz hz hp => renumbered_any N M num u C l wz own' e nx' n' I _ b0 _ x hp (IQ.out _ _ (hEv.out.trans hz)) (PX.out _ _ hz) (by have := HQ.out; omega) (by have := HQ.out; have := hbd.out; have := HC.out; omega) (by have := HQ.out; have := hbd.out; have := HC.out; omega)
      have HP2 : Hid (PL = ((done ++ [(Tt.put num u C l x e nx').1]) ++ (Tt.putL num u C l (L.drop (i + 1)) e (Tt.put num u C l x e nx').2.2).1, (oth || (Tt.put num u C l x e nx').2.1) || (Tt.putL num u C l (L.drop (i + 1)) e (Tt.put num u C l x e nx').2.2).2.1, (Tt.putL num u C l (L.drop (i + 1)) e (Tt.put num u C l x e nx').2.2).2.2)) := by
        show _ = _
        rw [hPr.out, Tt.putL_at num u C l hxi]
        simp [Bool.or_assoc]
      have HSM : Hid ((Tt.put num u C l x e nx').2.1 = false → (Tt.put num u C l x e nx').1 = x) := Tt.put_same num u C l x e nx'
      have hlt2 : (i : Int) < L.length := by omega
      generalize Tt.put num u C l x e nx' = P at HPU HP2 HSM
      generalize x.own3 C l e nx' = R at HPU HOD RQ
      obtain ⟨R1, R2, R3⟩ := R
      have KQ : Hid (∀ wz oz, Ev own' wr oz wz → Pt N M num u C l wz oz R2 R3 (n' + 1) → R3 + from_ l R3 ≤ nx' + from_ l nx' + 1 → Calls Tryz.prog 35 #[.pointer (some ⟨M, 0, none⟩), .slice xa x.ks.length xc] wz (Pokl I N M num u C l (Tt.putL num u C l x.ks R2 R3) wz oz R2 R3 (n' + 1) (Tt.cntL x.ks))) := fun wz oz hz hp hb => HIH.out m rfl wz oz R2 R3 (n' + 1) xa xc x.ks hp (IQ.out _ _ (hEv.out.trans hz)) (KX.out _ _ hz) (by have := HQ.out; have := hbd.out; have := HC.out; have : R2.length ≤ e.length + 1 := HOD.2.2; omega) (by have := HQ.out; have := hbd.out; have := HC.out; omega) (by have := HQ.out; have := hbd.out; have := HC.out; omega)
      have HKN : Hid ((Tt.putL num u C l x.ks R2 R3).1.length = x.ks.length) := Tt.putL_len num u C l x.ks R2 R3
      simp only [] at HPU HOD
      generalize Tt.putL num u C l x.ks R2 R3 = KL at HPU KQ HKN
      obtain ⟨KL1, KL2, KL3⟩ := KL
      have BQ : Hid (∀ wz oz n2, Pt N M num u C l wz oz R2 KL3 n2 → n2 + 2097160 ≤ 4611686018427387904 → Calls Tryz.prog 74 #[.pointer (some ⟨M, 2, none⟩), .int .i64 e.length] wz fun r w' => r = .returned (.tuple #[]) ∧ ∃ own'', Pt N M num u C l w' own'' e KL3 (n2 + R2.length) ∧ Ev oz wz own'' w') := fun wz oz n2 hp hb => by
        have hw := HOD.2.2
        have := HQ.out
        have hz := backP N M num u C l wz oz R2 KL3 n2 e.length hp (by omega) HOD.2.1
        rw [HOD.1] at hz
        exact hz
      have HR2 : Hid (R2.length ≤ e.length + 1) := HOD.2.2
      have HU := hid HPU
      have HN3 : Hid (KL3 + from_ l KL3 ≤ nx' + from_ l nx' + x.cnt → True) := fun _ => trivial
      have hil2 := hlt
      generalize hst : x.stands num e = stb at SQ HU
      clear hPr hxi hil HPU HOD hst hPx hKx hSx x0 x1 x2 x3 HLB
      have E0 := hid (Ev.refl own' wr)
      go_wp2_with fail
      go_quiet (first | (go_at_call 71; refine Calls.quiet_of (SQ.out _)) | (go_at_call 72; refine Calls.quiet_of_same (DQ.out _)))
      go_wp2_with fail
      have E1 : Hid (Ev own' wr own' (wr.drewN nq)) := Ev.of_below (bl_drewN wr nq)
      have P1 := hid (hPt.out.stays (bl_drewN wr nq))
      have I0 : Hid (∀ b, I b → b < w.heap.size) := fun b hb => ((IQ.out w own (Ev.refl _ _)) b hb).1
      have CLQ : Hid (∀ wz oz n2, Ev own w oz wz → Pt N M num u C l wz oz e KL3 n2 → Calls Tryz.prog 75 #[.slice (some ⟨b0, o0, none⟩) L.length c] wz fun r w' => ∃ g cap, r = .returned (.slice (some ⟨g, 0, none⟩) L.length cap) ∧ wz.heap.size ≤ g ∧ Rw I w.heap.size w' oz g cap (m + 1) L ∧ Below wz.heap.size wz w') := fun wz oz n2 hz hp => clone_row I w.heap.size wz oz (fun b hb => (hp.own b hb).2) (fun b hb => ((IQ.out _ _ hz) b hb).2) (m + 1) _ c L (LQ.out wz oz hz) (fun e0 => by rw [e0] at hlt; exact absurd hlt (Nat.not_lt_zero _)) H4.out hz.size
      clear SQ DQ PX KX H0 HPL
      generalize wr.drewN nq = W1 at E1 P1 ⊢
      cases stb with
      | true =>
        rcases hov with ⟨rfl, rfl, hd⟩ | ⟨rfl, g, cap, rfl, hRw⟩
        · go_wp2_with (first
            | (go_at_call 73; refine (RQ.out _ E1.out P1.out).mono ?_; rintro r w2 ⟨rfl, hR64, ⟨own2, hP2, hE2⟩, hN2⟩; have E2 := hid (E1.out.trans hE2); have P2 := hid hP2; have N2 := hid hN2; have HR1 := hid hR64; have y3 := (Y.out _ _ E2.out).2; clear RQ hP2 hE2 hN2 hR64)
            | (go_at_call 35; refine (KQ.out _ _ E2.out P2.out N2.out).mono ?_; rintro r w3 ⟨ka, kc, k3, own3, rfl, hT3, hP3, hE3, hN3⟩; have E3 := hid (E2.out.trans hE3); have P3 := hid hP3; have N3 := hid hN3; have K3 := hid hT3; clear KQ hT3 hP3 hE3 hN3)
            | (go_at_call 74; refine (BQ.out _ _ _ P3.out (by have := HQ.out; have := hbd.out; have := HC.out; omega)).mono ?_; rintro r w4 ⟨rfl, own4, hP4, hE4⟩; have E4 := hid (E3.out.trans hE4); have EW4 := hid (hEv.out.trans (E3.out.trans hE4)); have P4 := hid hP4; have K4 := hid (TAtL.move K3.out (Kr.keeps hE4) (Kr.ev hE4)); have SZ2 : Hid (wr.heap.size ≤ w2.heap.size) := (hid E2.out.size); have y1 := (Y.out _ _ E4.out).1; clear BQ K3 hP4 hE4)
            | (go_at_call 75; refine (CLQ.out _ _ _ EW4.out P4.out).mono ?_; rintro r w5 ⟨g, cap, rfl, hg5, hR5, hB5⟩; have P5 := hid (P4.out.stays hB5); have E5 := hid (EW4.out.trans (Ev.of_below hB5)); have K5 := hid (TAtL.move K4.out (K' := fun b => Kr I w.heap.size own4 w5 b ∧ b ≠ g) (Keeps.of_below hB5) (fun b hb => ⟨⟨hb.1.imp id (fun q => by have := SZ2.out; have := hEv.out.size; omega), Nat.lt_of_lt_of_le hb.2.1 hB5.size, hb.2.2⟩, fun e0 => by have := hb.2.1; omega⟩)); have R5 := hid hR5; have HXC := hid HXI.out; have HLEN : Hid (L.length = L.length) := (hid rfl); have hgl := R5.out.lt; have hcp : L.length ≤ cap := (by have := R5.out.le; have := HLEN.out; omega); have N5 : Hid (¬ own4 g ∧ M ≤ g ∧ w.heap.size ≤ g) := (hid ⟨R5.out.no, by have := HM.out; have := R5.out.ge; omega, R5.out.ge⟩); have gM : ¬ M = g := (by have := HM.out; have := R5.out.ge; omega); have gM2 : ¬ g = M := (fun e => gM e.symm); obtain ⟨u0, u1, u2, u3, s0, s1, s2, s3, sf⟩ := R5.out.cells HXC.out; obtain ⟨y0, y1b, y2, y2c, y2m, y3b, y3c, y3m, kb, c7, c8, c9, c10, hTb⟩ := P5.out.byc; have TB := hid hTb; clear hTb; clear hR5 hB5 hg5))
          go_roundw
          case rel =>
            have R6 := R5.out.put2 HXC.out HR1.out K5.out
            have T6 : TAt ((w5.setCell ⟨g, i * 4 + 1, none⟩ (.int .i64 R1)).setCell ⟨g, i * 4 + 3, none⟩ (.slice ka KL1.length kc)) (fun b => Kr I w.heap.size own4 ((w5.setCell ⟨g, i * 4 + 1, none⟩ (.int .i64 R1)).setCell ⟨g, i * 4 + 3, none⟩ (.slice ka KL1.length kc)) b ∧ b ≠ g) (max (max (m + 1) k3 + 1) kb) [.int .i64 y0, .int .i64 y1b, .slice y2 y2m y2c, .slice y3b y3m y3c] u := ((TAt.old TB.out).move ((Keeps.set (p := ⟨g, i * 4 + 1, none⟩) (fun hq => by have h1 := I0.out g (HNI.out g hq.1); have := N5.out.2.2; omega) (.int .i64 R1)).trans (Keeps.set (p := ⟨g, i * 4 + 3, none⟩) (fun hq => by have h1 := I0.out g (HNI.out g hq.1); have := N5.out.2.2; omega) (.slice ka KL1.length kc))) (fun b hb => ⟨⟨.inl (HNI.out b hb.1), by simp only [World.setCell, Array.size_modify]; exact hb.2, ((IQ.out _ _ E5.out) b (HNI.out b hb.1)).2⟩, fun e0 => by have h1 := I0.out b (HNI.out b hb.1); have := N5.out.2.2; omega⟩)).le (Nat.le_max_right _ _)
            have R7 := (R6.up (Nat.le_max_left _ kb)).put (i := i) (by rw [List.length_set]; have := HLEN.out; omega) T6
            rw [List.set_set] at R7
            obtain rfl : P = (u, true, KL3) := by rw [HU.out]; simp
            rw [set_mid hd.out hlt] at R7
            simp only [Bool.or_true, Bool.true_or] at HP2
            exact ⟨i + 1, _, KL3, own4, done ++ [_], true, (max (max (m + 1) k3 + 1) kb), by go_num, rfl, by omega, HP2, hid (by have := hdl.out; simp; omega), hid (Pt.put4 ((P5.out.other (p := ⟨g, i * 4 + 1, none⟩) N5.out.1 N5.out.2.1 (.int .i64 R1)).other (p := ⟨g, i * 4 + 3, none⟩) N5.out.1 N5.out.2.1 (.slice ka KL1.length kc)) N5.out.1 N5.out.2.1 _ _ _ _), hid (Ev.put4 (Ev.new (Ev.new E5.out (p := ⟨g, i * 4 + 1, none⟩) N5.out.2.2 (.int .i64 R1)) (p := ⟨g, i * 4 + 3, none⟩) N5.out.2.2 (.slice ka KL1.length kc)) N5.out.2.2 _ _ _ _), hid (by have := hbd.out; have := HC.out; have := N3.out; have := N2.out; have := HR2.out; have := HQ.out; refine ⟨?_, ?_, ?_, ?_⟩ <;> omega), .inr ⟨rfl, g, cap, rfl, hid R7⟩⟩
          case measure => simp [intOf]; omega
        · go_wp2_with (first
            | (go_at_call 73; refine (RQ.out _ E1.out P1.out).mono ?_; rintro r w2 ⟨rfl, hR64, ⟨own2, hP2, hE2⟩, hN2⟩; have E2 := hid (E1.out.trans hE2); have P2 := hid hP2; have N2 := hid hN2; have HR1 := hid hR64; have y3 := (Y.out _ _ E2.out).2; clear RQ hP2 hE2 hN2 hR64)
            | (go_at_call 35; refine (KQ.out _ _ E2.out P2.out N2.out).mono ?_; rintro r w3 ⟨ka, kc, k3, own3, rfl, hT3, hP3, hE3, hN3⟩; have E3 := hid (E2.out.trans hE3); have P3 := hid hP3; have N3 := hid hN3; have K3 := hid hT3; clear KQ hT3 hP3 hE3 hN3)
            | (go_at_call 74; refine (BQ.out _ _ _ P3.out (by have := HQ.out; have := hbd.out; have := HC.out; omega)).mono ?_; rintro r w4 ⟨rfl, own4, hP4, hE4⟩; have E4 := hid (E3.out.trans hE4); have EW4 := hid (hEv.out.trans (E3.out.trans hE4)); have P4 := hid hP4; have K4 := hid (TAtL.move K3.out (Kr.keeps hE4) (Kr.ev hE4)); have SZ2 : Hid (wr.heap.size ≤ w2.heap.size) := (hid E2.out.size); have y1 := (Y.out _ _ E4.out).1; clear BQ K3 hP4 hE4; have R5 := hid (hRw.out.ev E4.out); have P5 := hid P4.out; have E5 := hid EW4.out; have HGW : Hid (w.heap.size ≤ g ∧ g < wr.heap.size) := (hid ⟨hRw.out.ge, hRw.out.lt⟩); have K5 := hid (TAtL.move K4.out (K' := fun b => Kr I w.heap.size own4 w4 b ∧ b ≠ g) (Keeps.refl _ _) (fun b hb => ⟨⟨hb.1.imp id (fun q => by have := SZ2.out; have := HGW.out; omega), hb.2⟩, fun e0 => by have h1 := HGW.out; have h2 := SZ2.out; rcases hb.1 with h3 | h3; (have := (I0.out b h3); omega); omega⟩)); have HXC : Hid ((done ++ L.drop i)[i]? = some x) := (hid (by rw [HHL.out, List.getElem?_append_right (by rw [hdl.out]; exact Nat.le_refl _), hdl.out, Nat.sub_self]; rfl)); have HLEN : Hid ((done ++ L.drop i).length = L.length) := (hid (by rw [List.length_append, List.length_drop, hdl.out]; omega)); have hgl := R5.out.lt; have hcp : L.length ≤ cap := (by have := R5.out.le; have := HLEN.out; omega); have N5 : Hid (¬ own4 g ∧ M ≤ g ∧ w.heap.size ≤ g) := (hid ⟨R5.out.no, by have := HM.out; have := R5.out.ge; omega, R5.out.ge⟩); have gM : ¬ M = g := (by have := HM.out; have := R5.out.ge; omega); have gM2 : ¬ g = M := (fun e => gM e.symm); obtain ⟨u0, u1, u2, u3, s0, s1, s2, s3, sf⟩ := R5.out.cells HXC.out; obtain ⟨y0, y1b, y2, y2c, y2m, y3b, y3c, y3m, kb, c7, c8, c9, c10, hTb⟩ := P5.out.byc; have TB := hid hTb; clear hTb))
          go_roundw
          case rel =>
            have R6 := R5.out.put2 HXC.out HR1.out K5.out
            have T6 : TAt ((w4.setCell ⟨g, i * 4 + 1, none⟩ (.int .i64 R1)).setCell ⟨g, i * 4 + 3, none⟩ (.slice ka KL1.length kc)) (fun b => Kr I w.heap.size own4 ((w4.setCell ⟨g, i * 4 + 1, none⟩ (.int .i64 R1)).setCell ⟨g, i * 4 + 3, none⟩ (.slice ka KL1.length kc)) b ∧ b ≠ g) (max (max kk k3 + 1) kb) [.int .i64 y0, .int .i64 y1b, .slice y2 y2m y2c, .slice y3b y3m y3c] u := ((TAt.old TB.out).move ((Keeps.set (p := ⟨g, i * 4 + 1, none⟩) (fun hq => by have h1 := I0.out g (HNI.out g hq.1); have := N5.out.2.2; omega) (.int .i64 R1)).trans (Keeps.set (p := ⟨g, i * 4 + 3, none⟩) (fun hq => by have h1 := I0.out g (HNI.out g hq.1); have := N5.out.2.2; omega) (.slice ka KL1.length kc))) (fun b hb => ⟨⟨.inl (HNI.out b hb.1), by simp only [World.setCell, Array.size_modify]; exact hb.2, ((IQ.out _ _ E5.out) b (HNI.out b hb.1)).2⟩, fun e0 => by have h1 := I0.out b (HNI.out b hb.1); have := N5.out.2.2; omega⟩)).le (Nat.le_max_right _ _)
            have R7 := (R6.up (Nat.le_max_left _ kb)).put (i := i) (by rw [List.length_set]; have := HLEN.out; omega) T6
            rw [List.set_set] at R7
            obtain rfl : P = (u, true, KL3) := by rw [HU.out]; simp
            rw [HHL.out, set_mid2 hdl.out] at R7
            simp only [Bool.or_true, Bool.true_or] at HP2
            exact ⟨i + 1, _, KL3, own4, done ++ [_], true, (max (max kk k3 + 1) kb), by go_num, rfl, by omega, HP2, hid (by have := hdl.out; simp; omega), hid (Pt.put4 ((P5.out.other (p := ⟨g, i * 4 + 1, none⟩) N5.out.1 N5.out.2.1 (.int .i64 R1)).other (p := ⟨g, i * 4 + 3, none⟩) N5.out.1 N5.out.2.1 (.slice ka KL1.length kc)) N5.out.1 N5.out.2.1 _ _ _ _), hid (Ev.put4 (Ev.new (Ev.new E5.out (p := ⟨g, i * 4 + 1, none⟩) N5.out.2.2 (.int .i64 R1)) (p := ⟨g, i * 4 + 3, none⟩) N5.out.2.2 (.slice ka KL1.length kc)) N5.out.2.2 _ _ _ _), hid (by have := hbd.out; have := HC.out; have := N3.out; have := N2.out; have := HR2.out; have := HQ.out; refine ⟨?_, ?_, ?_, ?_⟩ <;> omega), .inr ⟨rfl, g, cap, rfl, hid R7⟩⟩
          case measure => simp [intOf]; omega
      | false =>
        cases KL2 with
        | true =>
          rcases hov with ⟨rfl, rfl, hd⟩ | ⟨rfl, g, cap, rfl, hRw⟩
          · go_wp2_with (first
              | (go_at_call 73; refine (RQ.out _ E1.out P1.out).mono ?_; rintro r w2 ⟨rfl, hR64, ⟨own2, hP2, hE2⟩, hN2⟩; have E2 := hid (E1.out.trans hE2); have P2 := hid hP2; have N2 := hid hN2; have HR1 := hid hR64; have y3 := (Y.out _ _ E2.out).2; clear RQ hP2 hE2 hN2 hR64)
              | (go_at_call 35; refine (KQ.out _ _ E2.out P2.out N2.out).mono ?_; rintro r w3 ⟨ka, kc, k3, own3, rfl, hT3, hP3, hE3, hN3⟩; have E3 := hid (E2.out.trans hE3); have P3 := hid hP3; have N3 := hid hN3; have K3 := hid hT3; clear KQ hT3 hP3 hE3 hN3)
              | (go_at_call 74; refine (BQ.out _ _ _ P3.out (by have := HQ.out; have := hbd.out; have := HC.out; omega)).mono ?_; rintro r w4 ⟨rfl, own4, hP4, hE4⟩; have E4 := hid (E3.out.trans hE4); have EW4 := hid (hEv.out.trans (E3.out.trans hE4)); have P4 := hid hP4; have K4 := hid (TAtL.move K3.out (Kr.keeps hE4) (Kr.ev hE4)); have SZ2 : Hid (wr.heap.size ≤ w2.heap.size) := (hid E2.out.size); have y1 := (Y.out _ _ E4.out).1; clear BQ K3 hP4 hE4)
              | (go_at_call 75; refine (CLQ.out _ _ _ EW4.out P4.out).mono ?_; rintro r w5 ⟨g, cap, rfl, hg5, hR5, hB5⟩; have P5 := hid (P4.out.stays hB5); have E5 := hid (EW4.out.trans (Ev.of_below hB5)); have K5 := hid (TAtL.move K4.out (K' := fun b => Kr I w.heap.size own4 w5 b ∧ b ≠ g) (Keeps.of_below hB5) (fun b hb => ⟨⟨hb.1.imp id (fun q => by have := SZ2.out; have := hEv.out.size; omega), Nat.lt_of_lt_of_le hb.2.1 hB5.size, hb.2.2⟩, fun e0 => by have := hb.2.1; omega⟩)); have R5 := hid hR5; have HXC := hid HXI.out; have HLEN : Hid (L.length = L.length) := (hid rfl); have hgl := R5.out.lt; have hcp : L.length ≤ cap := (by have := R5.out.le; have := HLEN.out; omega); have N5 : Hid (¬ own4 g ∧ M ≤ g ∧ w.heap.size ≤ g) := (hid ⟨R5.out.no, by have := HM.out; have := R5.out.ge; omega, R5.out.ge⟩); have gM : ¬ M = g := (by have := HM.out; have := R5.out.ge; omega); have gM2 : ¬ g = M := (fun e => gM e.symm); obtain ⟨u0, u1, u2, u3, s0, s1, s2, s3, sf⟩ := R5.out.cells HXC.out; clear hR5 hB5 hg5))
            go_roundw
            case rel =>
              have R6 := R5.out.put2 HXC.out HR1.out K5.out
              obtain rfl : P = (.mk x.k R1 x.ls KL1, true, KL3) := by rw [HU.out]; simp
              rw [set_mid hd.out hlt] at R6
              simp only [Bool.or_true, Bool.true_or] at HP2
              exact ⟨i + 1, _, KL3, own4, done ++ [_], true, (max (m + 1) k3 + 1), by go_num, rfl, by omega, HP2, hid (by have := hdl.out; simp; omega), hid ((P5.out.other (p := ⟨g, i * 4 + 1, none⟩) N5.out.1 N5.out.2.1 (.int .i64 R1)).other (p := ⟨g, i * 4 + 3, none⟩) N5.out.1 N5.out.2.1 (.slice ka KL1.length kc)), hid (Ev.new (Ev.new E5.out (p := ⟨g, i * 4 + 1, none⟩) N5.out.2.2 (.int .i64 R1)) (p := ⟨g, i * 4 + 3, none⟩) N5.out.2.2 (.slice ka KL1.length kc)), hid (by have := hbd.out; have := HC.out; have := N3.out; have := N2.out; have := HR2.out; have := HQ.out; refine ⟨?_, ?_, ?_, ?_⟩ <;> omega), .inr ⟨rfl, g, cap, rfl, hid R6⟩⟩
            case measure => simp [intOf]; omega
          · go_wp2_with (first
              | (go_at_call 73; refine (RQ.out _ E1.out P1.out).mono ?_; rintro r w2 ⟨rfl, hR64, ⟨own2, hP2, hE2⟩, hN2⟩; have E2 := hid (E1.out.trans hE2); have P2 := hid hP2; have N2 := hid hN2; have HR1 := hid hR64; have y3 := (Y.out _ _ E2.out).2; clear RQ hP2 hE2 hN2 hR64)
              | (go_at_call 35; refine (KQ.out _ _ E2.out P2.out N2.out).mono ?_; rintro r w3 ⟨ka, kc, k3, own3, rfl, hT3, hP3, hE3, hN3⟩; have E3 := hid (E2.out.trans hE3); have P3 := hid hP3; have N3 := hid hN3; have K3 := hid hT3; clear KQ hT3 hP3 hE3 hN3)
              | (go_at_call 74; refine (BQ.out _ _ _ P3.out (by have := HQ.out; have := hbd.out; have := HC.out; omega)).mono ?_; rintro r w4 ⟨rfl, own4, hP4, hE4⟩; have E4 := hid (E3.out.trans hE4); have EW4 := hid (hEv.out.trans (E3.out.trans hE4)); have P4 := hid hP4; have K4 := hid (TAtL.move K3.out (Kr.keeps hE4) (Kr.ev hE4)); have SZ2 : Hid (wr.heap.size ≤ w2.heap.size) := (hid E2.out.size); have y1 := (Y.out _ _ E4.out).1; clear BQ K3 hP4 hE4; have R5 := hid (hRw.out.ev E4.out); have P5 := hid P4.out; have E5 := hid EW4.out; have HGW : Hid (w.heap.size ≤ g ∧ g < wr.heap.size) := (hid ⟨hRw.out.ge, hRw.out.lt⟩); have K5 := hid (TAtL.move K4.out (K' := fun b => Kr I w.heap.size own4 w4 b ∧ b ≠ g) (Keeps.refl _ _) (fun b hb => ⟨⟨hb.1.imp id (fun q => by have := SZ2.out; have := HGW.out; omega), hb.2⟩, fun e0 => by have h1 := HGW.out; have h2 := SZ2.out; rcases hb.1 with h3 | h3; (have := (I0.out b h3); omega); omega⟩)); have HXC : Hid ((done ++ L.drop i)[i]? = some x) := (hid (by rw [HHL.out, List.getElem?_append_right (by rw [hdl.out]; exact Nat.le_refl _), hdl.out, Nat.sub_self]; rfl)); have HLEN : Hid ((done ++ L.drop i).length = L.length) := (hid (by rw [List.length_append, List.length_drop, hdl.out]; omega)); have hgl := R5.out.lt; have hcp : L.length ≤ cap := (by have := R5.out.le; have := HLEN.out; omega); have N5 : Hid (¬ own4 g ∧ M ≤ g ∧ w.heap.size ≤ g) := (hid ⟨R5.out.no, by have := HM.out; have := R5.out.ge; omega, R5.out.ge⟩); have gM : ¬ M = g := (by have := HM.out; have := R5.out.ge; omega); have gM2 : ¬ g = M := (fun e => gM e.symm); obtain ⟨u0, u1, u2, u3, s0, s1, s2, s3, sf⟩ := R5.out.cells HXC.out))
            go_roundw
            case rel =>
              have R6 := R5.out.put2 HXC.out HR1.out K5.out
              obtain rfl : P = (.mk x.k R1 x.ls KL1, true, KL3) := by rw [HU.out]; simp
              rw [HHL.out, set_mid2 hdl.out] at R6
              simp only [Bool.or_true, Bool.true_or] at HP2
              exact ⟨i + 1, _, KL3, own4, done ++ [_], true, (max kk k3 + 1), by go_num, rfl, by omega, HP2, hid (by have := hdl.out; simp; omega), hid ((P5.out.other (p := ⟨g, i * 4 + 1, none⟩) N5.out.1 N5.out.2.1 (.int .i64 R1)).other (p := ⟨g, i * 4 + 3, none⟩) N5.out.1 N5.out.2.1 (.slice ka KL1.length kc)), hid (Ev.new (Ev.new E5.out (p := ⟨g, i * 4 + 1, none⟩) N5.out.2.2 (.int .i64 R1)) (p := ⟨g, i * 4 + 3, none⟩) N5.out.2.2 (.slice ka KL1.length kc)), hid (by have := hbd.out; have := HC.out; have := N3.out; have := N2.out; have := HR2.out; have := HQ.out; refine ⟨?_, ?_, ?_, ?_⟩ <;> omega), .inr ⟨rfl, g, cap, rfl, hid R6⟩⟩
            case measure => simp [intOf]; omega
        | false =>
          by_cases hRe : R1 = x.n
          · subst hRe
            obtain rfl : P = (.mk x.k x.n x.ls KL1, false, KL3) := by rw [HU.out]; simp
            have hRn : (x.n == x.n) = true := by simp
            have hpx := hid (HSM.out rfl)
            simp only [Bool.or_false] at HP2
            go_wp2_with (first
              | (go_at_call 73; refine (RQ.out _ E1.out P1.out).mono ?_; rintro r w2 ⟨rfl, hR64, ⟨own2, hP2, hE2⟩, hN2⟩; have E2 := hid (E1.out.trans hE2); have P2 := hid hP2; have N2 := hid hN2; have HR1 := hid hR64; have y3 := (Y.out _ _ E2.out).2; clear RQ hP2 hE2 hN2 hR64)
              | (go_at_call 35; refine (KQ.out _ _ E2.out P2.out N2.out).mono ?_; rintro r w3 ⟨ka, kc, k3, own3, rfl, hT3, hP3, hE3, hN3⟩; have E3 := hid (E2.out.trans hE3); have P3 := hid hP3; have N3 := hid hN3; have K3 := hid hT3; clear KQ hT3 hP3 hE3 hN3)
              | (go_at_call 74; refine (BQ.out _ _ _ P3.out (by have := HQ.out; have := hbd.out; have := HC.out; omega)).mono ?_; rintro r w4 ⟨rfl, own4, hP4, hE4⟩; have E4 := hid (E3.out.trans hE4); have EW4 := hid (hEv.out.trans (E3.out.trans hE4)); have P4 := hid hP4; have K4 := hid (TAtL.move K3.out (Kr.keeps hE4) (Kr.ev hE4)); have SZ2 : Hid (wr.heap.size ≤ w2.heap.size) := (hid E2.out.size); have y1 := (Y.out _ _ E4.out).1; clear BQ K3 hP4 hE4))
            go_roundw
            case rel =>
              refine ⟨i + 1, _, KL3, own4, done ++ [_], oth, kk, by go_num, rfl, by omega, HP2, hid (by have := hdl.out; simp; omega), P4, EW4, hid (by have := hbd.out; have := HC.out; have := N3.out; have := N2.out; have := HR2.out; have := HQ.out; refine ⟨?_, ?_, ?_, ?_⟩ <;> omega), ?_⟩
              rcases hov with ⟨rfl, rfl, hd⟩ | ⟨rfl, g, cap, rfl, hRw⟩
              · refine .inl ⟨rfl, rfl, ?_⟩
                show _ = _
                rw [hpx.out, hd.out, List.take_add_one, HXI.out]; rfl
              · refine .inr ⟨rfl, g, cap, rfl, ?_⟩
                have h9 := hRw.out.ev E4.out
                rw [HHL.out] at h9
                rw [hpx.out, List.append_assoc]
                exact h9
            case measure => simp [intOf]; omega
          · have hRn : (R1 == x.n) = false := by simp [hRe]
            rcases hov with ⟨rfl, rfl, hd⟩ | ⟨rfl, g, cap, rfl, hRw⟩
            · go_wp2_with (first
                | (go_at_call 73; refine (RQ.out _ E1.out P1.out).mono ?_; rintro r w2 ⟨rfl, hR64, ⟨own2, hP2, hE2⟩, hN2⟩; have E2 := hid (E1.out.trans hE2); have P2 := hid hP2; have N2 := hid hN2; have HR1 := hid hR64; have y3 := (Y.out _ _ E2.out).2; clear RQ hP2 hE2 hN2 hR64)
                | (go_at_call 35; refine (KQ.out _ _ E2.out P2.out N2.out).mono ?_; rintro r w3 ⟨ka, kc, k3, own3, rfl, hT3, hP3, hE3, hN3⟩; have E3 := hid (E2.out.trans hE3); have P3 := hid hP3; have N3 := hid hN3; have K3 := hid hT3; clear KQ hT3 hP3 hE3 hN3)
                | (go_at_call 74; refine (BQ.out _ _ _ P3.out (by have := HQ.out; have := hbd.out; have := HC.out; omega)).mono ?_; rintro r w4 ⟨rfl, own4, hP4, hE4⟩; have E4 := hid (E3.out.trans hE4); have EW4 := hid (hEv.out.trans (E3.out.trans hE4)); have P4 := hid hP4; have K4 := hid (TAtL.move K3.out (Kr.keeps hE4) (Kr.ev hE4)); have SZ2 : Hid (wr.heap.size ≤ w2.heap.size) := (hid E2.out.size); have y1 := (Y.out _ _ E4.out).1; clear BQ K3 hP4 hE4)
                | (go_at_call 75; refine (CLQ.out _ _ _ EW4.out P4.out).mono ?_; rintro r w5 ⟨g, cap, rfl, hg5, hR5, hB5⟩; have P5 := hid (P4.out.stays hB5); have E5 := hid (EW4.out.trans (Ev.of_below hB5)); have K5 := hid (TAtL.move K4.out (K' := fun b => Kr I w.heap.size own4 w5 b ∧ b ≠ g) (Keeps.of_below hB5) (fun b hb => ⟨⟨hb.1.imp id (fun q => by have := SZ2.out; have := hEv.out.size; omega), Nat.lt_of_lt_of_le hb.2.1 hB5.size, hb.2.2⟩, fun e0 => by have := hb.2.1; omega⟩)); have R5 := hid hR5; have HXC := hid HXI.out; have HLEN : Hid (L.length = L.length) := (hid rfl); have hgl := R5.out.lt; have hcp : L.length ≤ cap := (by have := R5.out.le; have := HLEN.out; omega); have N5 : Hid (¬ own4 g ∧ M ≤ g ∧ w.heap.size ≤ g) := (hid ⟨R5.out.no, by have := HM.out; have := R5.out.ge; omega, R5.out.ge⟩); have gM : ¬ M = g := (by have := HM.out; have := R5.out.ge; omega); have gM2 : ¬ g = M := (fun e => gM e.symm); obtain ⟨u0, u1, u2, u3, s0, s1, s2, s3, sf⟩ := R5.out.cells HXC.out; clear hR5 hB5 hg5))
              go_roundw
              case rel =>
                have R6 := R5.out.put2 HXC.out HR1.out K5.out
                obtain rfl : P = (.mk x.k R1 x.ls KL1, true, KL3) := by rw [HU.out]; simp [hRe]
                rw [set_mid hd.out hlt] at R6
                simp only [Bool.or_true, Bool.true_or] at HP2
                exact ⟨i + 1, _, KL3, own4, done ++ [_], true, (max (m + 1) k3 + 1), by go_num, rfl, by omega, HP2, hid (by have := hdl.out; simp; omega), hid ((P5.out.other (p := ⟨g, i * 4 + 1, none⟩) N5.out.1 N5.out.2.1 (.int .i64 R1)).other (p := ⟨g, i * 4 + 3, none⟩) N5.out.1 N5.out.2.1 (.slice ka KL1.length kc)), hid (Ev.new (Ev.new E5.out (p := ⟨g, i * 4 + 1, none⟩) N5.out.2.2 (.int .i64 R1)) (p := ⟨g, i * 4 + 3, none⟩) N5.out.2.2 (.slice ka KL1.length kc)), hid (by have := hbd.out; have := HC.out; have := N3.out; have := N2.out; have := HR2.out; have := HQ.out; refine ⟨?_, ?_, ?_, ?_⟩ <;> omega), .inr ⟨rfl, g, cap, rfl, hid R6⟩⟩
              case measure => simp [intOf]; omega
            · go_wp2_with (first
                | (go_at_call 73; refine (RQ.out _ E1.out P1.out).mono ?_; rintro r w2 ⟨rfl, hR64, ⟨own2, hP2, hE2⟩, hN2⟩; have E2 := hid (E1.out.trans hE2); have P2 := hid hP2; have N2 := hid hN2; have HR1 := hid hR64; have y3 := (Y.out _ _ E2.out).2; clear RQ hP2 hE2 hN2 hR64)
                | (go_at_call 35; refine (KQ.out _ _ E2.out P2.out N2.out).mono ?_; rintro r w3 ⟨ka, kc, k3, own3, rfl, hT3, hP3, hE3, hN3⟩; have E3 := hid (E2.out.trans hE3); have P3 := hid hP3; have N3 := hid hN3; have K3 := hid hT3; clear KQ hT3 hP3 hE3 hN3)
                | (go_at_call 74; refine (BQ.out _ _ _ P3.out (by have := HQ.out; have := hbd.out; have := HC.out; omega)).mono ?_; rintro r w4 ⟨rfl, own4, hP4, hE4⟩; have E4 := hid (E3.out.trans hE4); have EW4 := hid (hEv.out.trans (E3.out.trans hE4)); have P4 := hid hP4; have K4 := hid (TAtL.move K3.out (Kr.keeps hE4) (Kr.ev hE4)); have SZ2 : Hid (wr.heap.size ≤ w2.heap.size) := (hid E2.out.size); have y1 := (Y.out _ _ E4.out).1; clear BQ K3 hP4 hE4; have R5 := hid (hRw.out.ev E4.out); have P5 := hid P4.out; have E5 := hid EW4.out; have HGW : Hid (w.heap.size ≤ g ∧ g < wr.heap.size) := (hid ⟨hRw.out.ge, hRw.out.lt⟩); have K5 := hid (TAtL.move K4.out (K' := fun b => Kr I w.heap.size own4 w4 b ∧ b ≠ g) (Keeps.refl _ _) (fun b hb => ⟨⟨hb.1.imp id (fun q => by have := SZ2.out; have := HGW.out; omega), hb.2⟩, fun e0 => by have h1 := HGW.out; have h2 := SZ2.out; rcases hb.1 with h3 | h3; (have := (I0.out b h3); omega); omega⟩)); have HXC : Hid ((done ++ L.drop i)[i]? = some x) := (hid (by rw [HHL.out, List.getElem?_append_right (by rw [hdl.out]; exact Nat.le_refl _), hdl.out, Nat.sub_self]; rfl)); have HLEN : Hid ((done ++ L.drop i).length = L.length) := (hid (by rw [List.length_append, List.length_drop, hdl.out]; omega)); have hgl := R5.out.lt; have hcp : L.length ≤ cap := (by have := R5.out.le; have := HLEN.out; omega); have N5 : Hid (¬ own4 g ∧ M ≤ g ∧ w.heap.size ≤ g) := (hid ⟨R5.out.no, by have := HM.out; have := R5.out.ge; omega, R5.out.ge⟩); have gM : ¬ M = g := (by have := HM.out; have := R5.out.ge; omega); have gM2 : ¬ g = M := (fun e => gM e.symm); obtain ⟨u0, u1, u2, u3, s0, s1, s2, s3, sf⟩ := R5.out.cells HXC.out))
              go_roundw
              case rel =>
                have R6 := R5.out.put2 HXC.out HR1.out K5.out
                obtain rfl : P = (.mk x.k R1 x.ls KL1, true, KL3) := by rw [HU.out]; simp [hRe]
                rw [HHL.out, set_mid2 hdl.out] at R6
                simp only [Bool.or_true, Bool.true_or] at HP2
                exact ⟨i + 1, _, KL3, own4, done ++ [_], true, (max kk k3 + 1), by go_num, rfl, by omega, HP2, hid (by have := hdl.out; simp; omega), hid ((P5.out.other (p := ⟨g, i * 4 + 1, none⟩) N5.out.1 N5.out.2.1 (.int .i64 R1)).other (p := ⟨g, i * 4 + 3, none⟩) N5.out.1 N5.out.2.1 (.slice ka KL1.length kc)), hid (Ev.new (Ev.new E5.out (p := ⟨g, i * 4 + 1, none⟩) N5.out.2.2 (.int .i64 R1)) (p := ⟨g, i * 4 + 3, none⟩) N5.out.2.2 (.slice ka KL1.length kc)), hid (by have := hbd.out; have := HC.out; have := N3.out; have := N2.out; have := HR2.out; have := HQ.out; refine ⟨?_, ?_, ?_, ?_⟩ <;> omega), .inr ⟨rfl, g, cap, rfl, hid R6⟩⟩
              case measure => simp [intOf]; omega
    · have hd : L.drop i = [] := List.drop_eq_nil_of_le (by omega)
      have hi2 : ¬ (i : Int) < L.length := by omega
      have HP2 : Hid (PL = (done, oth, nx')) := by show _ = _; rw [hPr.out, hd, Tt.putL]; simp
      have HIL : Hid (i = L.length) := by show _ = _; omega
      rcases hov with ⟨rfl, rfl, hdd⟩ | ⟨rfl, g, cap, rfl, hRw⟩
      · go_wp2
        go_ret2
        obtain rfl : PL = (done, false, nx') := HP2.out
        have hdL : done = L := by rw [hdd.out, HIL.out, List.take_length]
        subst hdL
        exact ⟨_, _, _, own', rfl, (LQ.out _ _ hEv.out).move (Keeps.refl _ _) (fun b hb => ⟨.inl hb, (IQ.out _ _ hEv.out) b hb⟩), hPt.out.up (by have := hbd.out; omega), hEv.out, by have := hbd.out; have := HQ.out; show nx' + (from_ l nx' : Int) ≤ nx + from_ l nx + Tt.cntL done; omega⟩
      · have hcp := hRw.out.le
        go_wp2
        go_ret2
        obtain rfl : PL = (done, true, nx') := HP2.out
        have h9 := hRw.out
        rw [hd, List.append_nil] at h9
        have h8 := h9.slice
        have hdl2 : done.length = L.length := by rw [hdl.out, HIL.out]
        rw [hdl2] at h8
        refine ⟨some ⟨g, 0, none⟩, cap, _, own', ?_, (by rw [show ((done, true, nx') : List Tt × Bool × Int).1.length = L.length from hdl2]; exact h8), hPt.out.up (by have := hbd.out; omega), hEv.out, by have := hbd.out; have := HQ.out; show nx' + (from_ l nx' : Int) ≤ nx + from_ l nx + Tt.cntL L; omega⟩
        rw [show ((done, true, nx') : List Tt × Bool × Int).1.length = L.length from hdl2]
        rfl
theorem put_any (I : Nat → Prop) (N M : Nat) (num : Int) (u : Tt) (C : Int → Bool) (l : List Int) (hNI : ∀ b, b < N → I b) : ∀ k, PutOf I N M num u C l k
  | 0 => put_step I N M num u C l hNI 0 (fun m h => by cases h)
  | k + 1 => put_step I N M num u C l hNI (k + 1) (fun m h => by obtain rfl : k = m := by omega
                                                                 exact put_any I N M num u C l hNI k)
end Go.Proofs.YtigliglmejkakaaGreat.Tgt
