/- text; Text. -/
import Derived.Test.YtfeppchgmobfpaaGreatDoorTgW4
namespace Go.Proofs.YtfeppchgmobfpaaGreatDoor
open Go.RowKit
set_option linter.unusedVariables false
set_option linter.unusedSimpArgs false

theorem Tt.env_of {t : Tt} (e : List (Int × Int)) (h : t.binds = false) : t.env e = e := by unfold Tt.env; rw [h]; rfl
theorem Tt.binds_of {t : Tt} {k : Int} (h : t.k = k) : t.binds = (decide (k = 9) || decide (k = 10) || decide (k = 11)) := by unfold Tt.binds; rw [h]
theorem Tt.txt_bad {t : Tt} (e : List (Int × Int)) (h : Tt.fitN t.k t.ks.length t.ls.length = false) : t.txt e = [63] := by
  rw [Tt.txt_mk, Tt.form, Tt.txtL_len, h]; rfl
theorem Tt.txt_fit {t : Tt} (e : List (Int × Int)) (h : Tt.fitN t.k t.ks.length t.ls.length = true) : t.txt e = 
    (if t.k = 1 then [105, 110, 116] else if t.k = 2 then [98, 111, 111, 108] else if t.k = 3 then [117, 110, 105, 116]
     else if t.k = 4 then ((Tt.txtL t.ks (t.env e)).getD 0 ([], [])).2 ++ [32, 45, 62, 32] ++ ((Tt.txtL t.ks (t.env e)).getD 1 ([], [])).1
     else if t.k = 5 then [40] ++ ((Tt.txtL t.ks (t.env e)).getD 0 ([], [])).2 ++ [32, 42, 32] ++ ((Tt.txtL t.ks (t.env e)).getD 1 ([], [])).2 ++ [41]
     else if t.k = 6 then Tt.varT e t.n
     else if t.k = 7 then [123] ++ Tt.recT 0 t.ls (Tt.txtL t.ks (t.env e)) ++ [125]
     else if t.k = 8 then [91] ++ Tt.sumT 0 (Tt.txtL t.ks (t.env e)) ++ [93]
     else Tt.word t.k ++ [32] ++ ([116] ++ Lib.itoa e.length) ++ [46, 32] ++ ((Tt.txtL t.ks (t.env e)).getD 0 ([], [])).1) := by
  rw [Tt.txt_mk, Tt.form, Tt.txtL_len, h, if_pos rfl]
theorem Tt.two {l : List Tt} (h : l.length = 2) : ∃ x y, l = [x, y] := by
  match l, h with
  | [x, y], _ => exact ⟨x, y, rfl⟩
theorem Tt.one' {l : List Tt} (h : l.length = 1) : ∃ x, l = [x] := by
  match l, h with
  | [x], _ => exact ⟨x, rfl⟩
theorem Tt.txtL2 (x y : Tt) (e : List (Int × Int)) : Tt.txtL [x, y] e = [(x.txt e, Tt.clo x.k (x.txt e)), (y.txt e, Tt.clo y.k (y.txt e))] := by rw [Tt.txtL, Tt.txtL, Tt.txtL]
theorem Tt.txtL1 (x : Tt) (e : List (Int × Int)) : Tt.txtL [x] e = [(x.txt e, Tt.clo x.k (x.txt e))] := by rw [Tt.txtL, Tt.txtL]
theorem Tt.fit_of {k : Int} {m j : Nat} (h : Tt.fitN k m j = true) : k = 1 ∨ k = 2 ∨ k = 3 ∨ (k = 4 ∧ m = 2) ∨ (k = 5 ∧ m = 2) ∨ k = 6 ∨ (k = 7 ∧ j = m) ∨ k = 8 ∨ (k = 9 ∧ m = 1) ∨ (k = 10 ∧ m = 1) ∨ (k = 11 ∧ m = 1) := by
  unfold Tt.fitN at h
  split at h
  · omega
  · split at h
    · have : m = 2 := by simpa using h
      omega
    · split at h
      · have : j = m := by simpa using h
        omega
      · split at h
        · omega
        · split at h
          · have : m = 1 := by simpa using h
            omega
          · cases h

set_option maxHeartbeats 4000000 in
set_option maxRecDepth 100000 in
theorem text_step (M k : Nat) (ih : TxtOf M k) (cl : CloOf M k) (rc : RecOf M k) (sm : SumOf M k) (bn : BinOf M k) : TxtOf M (k + 1) := by
  intro w own e l n b o t h hP q1 q2 hl
  have CQ := hid (countsFit_any w _ _ b o t hP)
  obtain ⟨la, lc, ka, kc, x0, x1, -, x3, -, hN, -, hL⟩ := hP.cells
  have TB : Hid (∀ wz, Below w.heap.size w wz → Tx M wz own e l n) := fun wz hz => h.stays hz
  have PB : Hid (∀ wz, Below w.heap.size w wz → PAt wz (fun b => b < M) (k + 1) b o t) := fun wz hz => hP.move (Keeps.of_below hz) (fun _ h => h)
  have X0 : Hid (∀ wz, Below w.heap.size w wz → wz.cell? ⟨b, o, none⟩ = some (.int .i64 t.k) ∧ wz.cell? ⟨b, o + 1, none⟩ = some (.int .i64 t.n)) := fun wz hz => ⟨(hz.cell (p := ⟨b, o, none⟩) hP.lt).trans x0, (hz.cell (p := ⟨b, o + 1, none⟩) hP.lt).trans x1⟩
  have X3 : Hid (∀ wz own', Ev own w own' wz → wz.cell? ⟨b, o + 3, none⟩ = some (.slice ka t.ks.length kc) ∧ TAtL wz (fun b => b < M) k (.slice ka t.ks.length kc) t.ks) := fun wz own' hz => ⟨h.keeps hz _ _ _ hP.1 x3, hL.move (h.keeps hz) (fun _ h => h)⟩
  have hct := Tt.cnt_ks t
  have HQ := hid (And.intro q1 (And.intro q2 (And.intro hl hct)))
  have HN := hid hN
  have hkc := hL
  clear h hP x0 x1 x3 hN q1 q2 hct hL
  cases hf : Tt.fitN t.k t.ks.length t.ls.length with
  | false =>
    rw [hf] at CQ
    rw [Tt.txt_bad e hf] at hl ⊢
    have w1 : Hid (∀ wz, Below w.heap.size w wz → Calls Tryz.prog 62 #[.pointer (some ⟨M, 0, none⟩), .int .u8 63] wz (Wrote M own e (l ++ [63]) n wz .nilIface)) := fun wz hz => wb M own e l n 63 wz (TB.out wz hz) (by omega)
    clear ih cl rc sm bn hf hkc hl
    go_enter Tryz.func32, Tryz.ntmps32
    go_wp2_with (first
      | (go_at_call 61; refine (CQ.out).mono ?_; rintro r w2 ⟨rfl, b2⟩; clear CQ)
      | (go_at_call 62; refine (w1.out _ b2).mono ?_; rintro r w3 ⟨rfl, own3, h3, e3⟩; clear w1))
    go_end0
    exact ⟨rfl, own3, h3.up (by omega), (Ev.of_below b2).trans e3⟩
  | true =>
    rw [hf] at CQ
    have HT := Tt.txt_fit e hf
    have HF := Tt.fit_of hf
    clear hf
    by_cases h1 : t.k = 1
    · rw [if_pos h1] at HT
      rw [HT] at hl ⊢
      have w1 : Hid (∀ wz, Below w.heap.size w wz → Calls Tryz.prog 63 #[.pointer (some ⟨M, 0, none⟩), .string ⟨#[105, 110, 116]⟩] wz (Wrote M own e (l ++ [105, 110, 116]) n wz (.tuple #[.int .i64 3, .nilIface]))) := fun wz hz => ws M own e l n ⟨#[105, 110, 116]⟩ wz (TB.out wz hz) (show _ + 3 ≤ _ by omega)
      have g1 : (t.k == 1) = true := by simp [h1]
      clear ih cl rc sm bn hkc hl HF HT
      go_enter Tryz.func32, Tryz.ntmps32
      go_wp2_with (first
        | (go_at_call 61; refine (CQ.out).mono ?_; rintro r w2 ⟨rfl, b2⟩; obtain ⟨x0, x1⟩ := X0.out _ b2; clear CQ)
        | (go_at_call 63; refine (w1.out _ b2).mono ?_; rintro r w3 ⟨rfl, own3, h3, e3⟩; clear w1))
      go_end0
      exact ⟨rfl, own3, h3.up (by omega), (Ev.of_below b2).trans e3⟩
    by_cases h2 : t.k = 2
    · rw [if_neg (show ¬ t.k = 1 by omega), if_pos h2] at HT
      rw [HT] at hl ⊢
      have w1 : Hid (∀ wz, Below w.heap.size w wz → Calls Tryz.prog 63 #[.pointer (some ⟨M, 0, none⟩), .string ⟨#[98, 111, 111, 108]⟩] wz (Wrote M own e (l ++ [98, 111, 111, 108]) n wz (.tuple #[.int .i64 4, .nilIface]))) := fun wz hz => ws M own e l n ⟨#[98, 111, 111, 108]⟩ wz (TB.out wz hz) (show _ + 4 ≤ _ by omega)
      have g1 : (t.k == 1) = false := by simp [h2]
      have g2 : (t.k == 2) = true := by simp [h2]
      clear ih cl rc sm bn hkc hl HF HT
      go_enter Tryz.func32, Tryz.ntmps32
      go_wp2_with (first
        | (go_at_call 61; refine (CQ.out).mono ?_; rintro r w2 ⟨rfl, b2⟩; obtain ⟨x0, x1⟩ := X0.out _ b2; clear CQ)
        | (go_at_call 63; refine (w1.out _ b2).mono ?_; rintro r w3 ⟨rfl, own3, h3, e3⟩; clear w1))
      go_end0
      exact ⟨rfl, own3, h3.up (by omega), (Ev.of_below b2).trans e3⟩
    by_cases h3 : t.k = 3
    · rw [if_neg (show ¬ t.k = 1 by omega), if_neg (show ¬ t.k = 2 by omega), if_pos h3] at HT
      rw [HT] at hl ⊢
      have w1 : Hid (∀ wz, Below w.heap.size w wz → Calls Tryz.prog 63 #[.pointer (some ⟨M, 0, none⟩), .string ⟨#[117, 110, 105, 116]⟩] wz (Wrote M own e (l ++ [117, 110, 105, 116]) n wz (.tuple #[.int .i64 4, .nilIface]))) := fun wz hz => ws M own e l n ⟨#[117, 110, 105, 116]⟩ wz (TB.out wz hz) (show _ + 4 ≤ _ by omega)
      have g1 : (t.k == 1) = false := by simp [h3]
      have g2 : (t.k == 2) = false := by simp [h3]
      have g3 : (t.k == 3) = true := by simp [h3]
      clear ih cl rc sm bn hkc hl HF HT
      go_enter Tryz.func32, Tryz.ntmps32
      go_wp2_with (first
        | (go_at_call 61; refine (CQ.out).mono ?_; rintro r w2 ⟨rfl, b2⟩; obtain ⟨x0, x1⟩ := X0.out _ b2; clear CQ)
        | (go_at_call 63; refine (w1.out _ b2).mono ?_; rintro r w3 ⟨rfl, own3, h3, e3⟩; clear w1))
      go_end0
      exact ⟨rfl, own3, h3.up (by omega), (Ev.of_below b2).trans e3⟩
    by_cases h4 : t.k = 4
    · rw [if_neg (show ¬ t.k = 1 by omega), if_neg (show ¬ t.k = 2 by omega), if_neg (show ¬ t.k = 3 by omega), if_pos h4] at HT
      have hlen : t.ks.length = 2 := by omega
      obtain ⟨x, y, hks⟩ := Tt.two hlen
      have hen : t.env e = e := Tt.env_of e (by rw [Tt.binds_of h4]; rfl)
      rw [hen, hks, Tt.txtL2] at HT
      simp only [List.getD_cons_zero, List.getD_cons_succ] at HT
      rw [HT] at hl ⊢
      have hc2 : t.cnt = x.cnt + y.cnt + 1 := by have := HQ.out.2.2.2; rw [hks, Tt.cntL, Tt.cntL, Tt.cntL] at this; omega
      rw [hlen, hks] at hkc X3
      obtain ⟨kb, ko, hka, -⟩ := hkc.elem (i := 0) (x := x) rfl
      subst hka
      have hcc : 2 ≤ kc := by rcases hkc with ⟨_, _, _, hv, _, hl', _⟩ | ⟨h0, -⟩; (injection hv with e1 e2 e3; subst e3; exact hl'); (cases h0)
      have PX : Hid (∀ wz own', Ev own w own' wz → wz.cell? ⟨b, o + 3, none⟩ = some (.slice (some ⟨kb, ko, none⟩) 2 kc) ∧ PAt wz (fun b => b < M) k kb ko x ∧ PAt wz (fun b => b < M) k kb (ko + 4) y) := fun wz own' hz => by
        obtain ⟨g1, g2⟩ := X3.out wz own' hz
        refine ⟨g1, ?_, ?_⟩
        · obtain ⟨_, _, e1, g3⟩ := g2.elem (i := 0) (x := x) rfl
          injection e1 with e1; injection e1 with e1 e2 _; subst e1 e2
          simpa using g3
        · obtain ⟨_, _, e1, g3⟩ := g2.elem (i := 1) (x := y) rfl
          injection e1 with e1; injection e1 with e1 e2 _; subst e1 e2
          simpa using g3
      have w1 : Hid (∀ wz, Below w.heap.size w wz → Calls Tryz.prog 64 #[.pointer (some ⟨M, 0, none⟩), .pointer (some ⟨kb, ko, none⟩)] wz (Wrote M own e (l ++ Tt.clo x.k (x.txt e)) (n + x.cnt * 8388608) wz (.tuple #[]))) := fun wz hz => cl wz own e l n kb ko x (TB.out wz hz) (PX.out _ _ (Ev.of_below hz)).2.1 (by have := HQ.out; omega) (by have := HQ.out; omega) (by simp only [List.length_append] at hl; omega)
      have w2' : Hid (∀ oz wz, Tx M wz oz e (l ++ Tt.clo x.k (x.txt e)) (n + x.cnt * 8388608) → Calls Tryz.prog 63 #[.pointer (some ⟨M, 0, none⟩), .string ⟨#[32, 45, 62, 32]⟩] wz (Wrote M oz e (l ++ Tt.clo x.k (x.txt e) ++ [32, 45, 62, 32]) (n + x.cnt * 8388608) wz (.tuple #[.int .i64 4, .nilIface]))) := fun oz wz hz => ws M oz e _ _ ⟨#[32, 45, 62, 32]⟩ wz hz (show _ + 4 ≤ _ by simp only [List.length_append, List.length_cons, List.length_nil] at hl ⊢; omega)
      have w3' : Hid (∀ oz wz, Ev own w oz wz → Tx M wz oz e (l ++ Tt.clo x.k (x.txt e) ++ [32, 45, 62, 32]) (n + x.cnt * 8388608) → Calls Tryz.prog 32 #[.pointer (some ⟨M, 0, none⟩), .pointer (some ⟨kb, ko + 4, none⟩)] wz (Wrote M oz e (l ++ Tt.clo x.k (x.txt e) ++ [32, 45, 62, 32] ++ y.txt e) (n + x.cnt * 8388608 + y.cnt * 8388608) wz (.tuple #[]))) := fun oz wz hev hz => ih wz oz e _ _ kb _ y hz (PX.out _ _ hev).2.2 (by have := HQ.out; omega) (by have := HQ.out; omega) (by simp only [List.length_append, List.length_cons, List.length_nil] at hl ⊢; omega)
      have HAPP : Hid (l ++ (Tt.clo x.k (x.txt e) ++ [32, 45, 62, 32] ++ y.txt e) = l ++ Tt.clo x.k (x.txt e) ++ [32, 45, 62, 32] ++ y.txt e) := by show _ = _; simp only [List.append_assoc]
      rw [HAPP.out]
      have g1 : (t.k == 1) = false := by simp [h4]
      have g2 : (t.k == 2) = false := by simp [h4]
      have g3 : (t.k == 3) = false := by simp [h4]
      have g4 : (t.k == 4) = true := by simp [h4]
      clear ih cl rc sm bn hkc hl HF HT X3 hks HAPP
      generalize (l ++ Tt.clo x.k (x.txt e) ++ [32, 45, 62, 32] ++ y.txt e) = L3 at w3' ⊢
      generalize (l ++ Tt.clo x.k (x.txt e) ++ [32, 45, 62, 32]) = L2 at w2' w3'
      generalize (l ++ Tt.clo x.k (x.txt e)) = L1 at w1 w2'
      go_enter Tryz.func32, Tryz.ntmps32
      go_wp2_with (first
        | (go_at_call 61; refine (CQ.out).mono ?_; rintro r w2 ⟨rfl, b2⟩; obtain ⟨x0, x1⟩ := X0.out _ b2; have z3 := (PX.out _ _ (Ev.of_below b2)).1; clear CQ)
        | (go_at_call 64; refine (w1.out _ b2).mono ?_; rintro r w3 ⟨rfl, own3, h3, e3⟩; have E3 := hid ((Ev.of_below b2).trans e3); clear w1)
        | (go_at_call 63; refine (w2'.out _ _ h3).mono ?_; rintro r w4 ⟨rfl, own4, h4', e4⟩; have E4 := hid (E3.out.trans e4); have z4 := (PX.out _ _ E4.out).1; clear w2')
        | (go_at_call 32; refine (w3'.out _ _ E4.out h4').mono ?_; rintro r w5 ⟨rfl, own5, h5, e5⟩; clear w3'))
      go_end0
      exact ⟨rfl, own5, h5.up (by omega), E4.out.trans e5⟩
    by_cases h5 : t.k = 5
    · rw [if_neg (show ¬ t.k = 1 by omega), if_neg (show ¬ t.k = 2 by omega), if_neg (show ¬ t.k = 3 by omega), if_neg (show ¬ t.k = 4 by omega), if_pos h5] at HT
      have hlen : t.ks.length = 2 := by omega
      obtain ⟨x, y, hks⟩ := Tt.two hlen
      have hen : t.env e = e := Tt.env_of e (by rw [Tt.binds_of h5]; rfl)
      rw [hen, hks, Tt.txtL2] at HT
      simp only [List.getD_cons_zero, List.getD_cons_succ] at HT
      rw [HT] at hl ⊢
      have hc2 : t.cnt = x.cnt + y.cnt + 1 := by have := HQ.out.2.2.2; rw [hks, Tt.cntL, Tt.cntL, Tt.cntL] at this; omega
      rw [hlen, hks] at hkc X3
      obtain ⟨kb, ko, hka, -⟩ := hkc.elem (i := 0) (x := x) rfl
      subst hka
      have hcc : 2 ≤ kc := by rcases hkc with ⟨_, _, _, hv, _, hl', _⟩ | ⟨h0, -⟩; (injection hv with e1 e2 e3; subst e3; exact hl'); (cases h0)
      have PX : Hid (∀ wz own', Ev own w own' wz → wz.cell? ⟨b, o + 3, none⟩ = some (.slice (some ⟨kb, ko, none⟩) 2 kc) ∧ PAt wz (fun b => b < M) k kb ko x ∧ PAt wz (fun b => b < M) k kb (ko + 4) y) := fun wz own' hz => by
        obtain ⟨g1, g2⟩ := X3.out wz own' hz
        refine ⟨g1, ?_, ?_⟩
        · obtain ⟨_, _, e1, g3⟩ := g2.elem (i := 0) (x := x) rfl
          injection e1 with e1; injection e1 with e1 e2 _; subst e1 e2
          simpa using g3
        · obtain ⟨_, _, e1, g3⟩ := g2.elem (i := 1) (x := y) rfl
          injection e1 with e1; injection e1 with e1 e2 _; subst e1 e2
          simpa using g3
      have w0 : Hid (∀ wz, Below w.heap.size w wz → Calls Tryz.prog 62 #[.pointer (some ⟨M, 0, none⟩), .int .u8 40] wz (Wrote M own e (l ++ [40]) n wz .nilIface)) := fun wz hz => wb M own e l n 40 wz (TB.out wz hz) (by omega)
      have w1 : Hid (∀ oz wz, Ev own w oz wz → Tx M wz oz e (l ++ [40]) n → Calls Tryz.prog 64 #[.pointer (some ⟨M, 0, none⟩), .pointer (some ⟨kb, ko, none⟩)] wz (Wrote M oz e (l ++ [40] ++ Tt.clo x.k (x.txt e)) (n + x.cnt * 8388608) wz (.tuple #[]))) := fun oz wz hev hz => cl wz oz e _ n kb ko x hz (PX.out _ _ hev).2.1 (by have := HQ.out; omega) (by have := HQ.out; omega) (by simp only [List.length_append, List.length_cons, List.length_nil] at hl ⊢; omega)
      have w2' : Hid (∀ oz wz, Tx M wz oz e (l ++ [40] ++ Tt.clo x.k (x.txt e)) (n + x.cnt * 8388608) → Calls Tryz.prog 63 #[.pointer (some ⟨M, 0, none⟩), .string ⟨#[32, 42, 32]⟩] wz (Wrote M oz e (l ++ [40] ++ Tt.clo x.k (x.txt e) ++ [32, 42, 32]) (n + x.cnt * 8388608) wz (.tuple #[.int .i64 3, .nilIface]))) := fun oz wz hz => ws M oz e _ _ ⟨#[32, 42, 32]⟩ wz hz (show _ + 3 ≤ _ by simp only [List.length_append, List.length_cons, List.length_nil] at hl ⊢; omega)
      have w3' : Hid (∀ oz wz, Ev own w oz wz → Tx M wz oz e (l ++ [40] ++ Tt.clo x.k (x.txt e) ++ [32, 42, 32]) (n + x.cnt * 8388608) → Calls Tryz.prog 64 #[.pointer (some ⟨M, 0, none⟩), .pointer (some ⟨kb, ko + 4, none⟩)] wz (Wrote M oz e (l ++ [40] ++ Tt.clo x.k (x.txt e) ++ [32, 42, 32] ++ Tt.clo y.k (y.txt e)) (n + x.cnt * 8388608 + y.cnt * 8388608) wz (.tuple #[]))) := fun oz wz hev hz => cl wz oz e _ _ kb _ y hz (PX.out _ _ hev).2.2 (by have := HQ.out; omega) (by have := HQ.out; omega) (by simp only [List.length_append, List.length_cons, List.length_nil] at hl ⊢; omega)
      have w4' : Hid (∀ oz wz, Tx M wz oz e (l ++ [40] ++ Tt.clo x.k (x.txt e) ++ [32, 42, 32] ++ Tt.clo y.k (y.txt e)) (n + x.cnt * 8388608 + y.cnt * 8388608) → Calls Tryz.prog 62 #[.pointer (some ⟨M, 0, none⟩), .int .u8 41] wz (Wrote M oz e (l ++ [40] ++ Tt.clo x.k (x.txt e) ++ [32, 42, 32] ++ Tt.clo y.k (y.txt e) ++ [41]) (n + x.cnt * 8388608 + y.cnt * 8388608) wz .nilIface)) := fun oz wz hz => wb M oz e _ _ 41 wz hz (by simp only [List.length_append, List.length_cons, List.length_nil] at hl ⊢; omega)
      have HAPP : Hid (l ++ ([40] ++ Tt.clo x.k (x.txt e) ++ [32, 42, 32] ++ Tt.clo y.k (y.txt e) ++ [41]) = l ++ [40] ++ Tt.clo x.k (x.txt e) ++ [32, 42, 32] ++ Tt.clo y.k (y.txt e) ++ [41]) := by show _ = _; simp only [List.append_assoc]
      rw [HAPP.out]
      have g1 : (t.k == 1) = false := by simp [h5]
      have g2 : (t.k == 2) = false := by simp [h5]
      have g3 : (t.k == 3) = false := by simp [h5]
      have g4 : (t.k == 4) = false := by simp [h5]
      have g5 : (t.k == 5) = true := by simp [h5]
      clear ih cl rc sm bn hkc hl HF HT X3 hks HAPP
      generalize (l ++ [40] ++ Tt.clo x.k (x.txt e) ++ [32, 42, 32] ++ Tt.clo y.k (y.txt e) ++ [41]) = L4 at w4' ⊢
      generalize (l ++ [40] ++ Tt.clo x.k (x.txt e) ++ [32, 42, 32] ++ Tt.clo y.k (y.txt e)) = L3 at w3' w4'
      generalize (l ++ [40] ++ Tt.clo x.k (x.txt e) ++ [32, 42, 32]) = L2 at w2' w3'
      generalize (l ++ [40] ++ Tt.clo x.k (x.txt e)) = L1 at w1 w2'
      generalize (l ++ [40]) = L0 at w0 w1
      go_enter Tryz.func32, Tryz.ntmps32
      go_wp2_with (first
        | (go_at_call 61; refine (CQ.out).mono ?_; rintro r w2 ⟨rfl, b2⟩; obtain ⟨x0, x1⟩ := X0.out _ b2; clear CQ)
        | (go_at_call 62; refine (w0.out _ b2).mono ?_; rintro r w7 ⟨rfl, own7, h7, e7⟩; have E7 := hid ((Ev.of_below b2).trans e7); have z3 := (PX.out _ _ E7.out).1; clear w0)
        | (go_at_call 64; refine (w1.out _ _ E7.out h7).mono ?_; rintro r w3 ⟨rfl, own3, h3, e3⟩; have E3 := hid (E7.out.trans e3); clear w1)
        | (go_at_call 63; refine (w2'.out _ _ h3).mono ?_; rintro r w4 ⟨rfl, own4, h4', e4⟩; have E4 := hid (E3.out.trans e4); have z4 := (PX.out _ _ E4.out).1; clear w2')
        | (go_at_call 64; refine (w3'.out _ _ E4.out h4').mono ?_; rintro r w5 ⟨rfl, own5, h5', e5⟩; clear w3')
        | (go_at_call 62; refine (w4'.out _ _ h5').mono ?_; rintro r w6 ⟨rfl, own6, h6, e6⟩; clear w4'))
      go_end0
      exact ⟨rfl, own6, h6.up (by omega), (E4.out.trans e5).trans e6⟩
    by_cases h6 : t.k = 6
    · rw [if_neg (show ¬ t.k = 1 by omega), if_neg (show ¬ t.k = 2 by omega), if_neg (show ¬ t.k = 3 by omega), if_neg (show ¬ t.k = 4 by omega), if_neg (show ¬ t.k = 5 by omega), if_pos h6] at HT
      rw [HT] at hl ⊢
      have w1 : Hid (∀ wz, Below w.heap.size w wz → Calls Tryz.prog 65 #[.pointer (some ⟨M, 0, none⟩), .int .i64 t.n] wz (Wrote M own e (l ++ Tt.varT e t.n) n wz (.tuple #[]))) := fun wz hz => variable_any M own e l n t.n HN.out wz (TB.out wz hz) (by omega)
      have g1 : (t.k == 1) = false := by simp [h6]
      have g2 : (t.k == 2) = false := by simp [h6]
      have g3 : (t.k == 3) = false := by simp [h6]
      have g4 : (t.k == 4) = false := by simp [h6]
      have g5 : (t.k == 5) = false := by simp [h6]
      have g6 : (t.k == 6) = true := by simp [h6]
      clear ih cl rc sm bn hkc hl HF HT
      go_enter Tryz.func32, Tryz.ntmps32
      go_wp2_with (first
        | (go_at_call 61; refine (CQ.out).mono ?_; rintro r w2 ⟨rfl, b2⟩; obtain ⟨x0, x1⟩ := X0.out _ b2; clear CQ)
        | (go_at_call 65; refine (w1.out _ b2).mono ?_; rintro r w3 ⟨rfl, own3, h3, e3⟩; clear w1))
      go_end0
      exact ⟨rfl, own3, h3.up (by omega), (Ev.of_below b2).trans e3⟩
    by_cases h7 : t.k = 7
    · rw [if_neg (show ¬ t.k = 1 by omega), if_neg (show ¬ t.k = 2 by omega), if_neg (show ¬ t.k = 3 by omega), if_neg (show ¬ t.k = 4 by omega), if_neg (show ¬ t.k = 5 by omega), if_neg (show ¬ t.k = 6 by omega), if_pos h7] at HT
      have hen : t.env e = e := Tt.env_of e (by rw [Tt.binds_of h7]; rfl)
      rw [hen] at HT
      rw [HT] at hl ⊢
      have w1 : Hid (∀ wz, Below w.heap.size w wz → Calls Tryz.prog 66 #[.pointer (some ⟨M, 0, none⟩), .pointer (some ⟨b, o, none⟩)] wz (Wrote M own e (l ++ ([123] ++ Tt.recT 0 t.ls (Tt.txtL t.ks e) ++ [125])) (n + Tt.cntL t.ks * 8388608) wz (.tuple #[]))) := fun wz hz => rc wz own e l n b o t (TB.out wz hz) (PB.out wz hz) (by omega) (by have := HQ.out; omega) (by have := HQ.out; omega) (by simp only [List.length_append, List.length_cons, List.length_nil] at hl; omega)
      have g1 : (t.k == 1) = false := by simp [h7]
      have g2 : (t.k == 2) = false := by simp [h7]
      have g3 : (t.k == 3) = false := by simp [h7]
      have g4 : (t.k == 4) = false := by simp [h7]
      have g5 : (t.k == 5) = false := by simp [h7]
      have g6 : (t.k == 6) = false := by simp [h7]
      have g7 : (t.k == 7) = true := by simp [h7]
      clear ih cl rc sm bn hkc hl HF HT
      go_enter Tryz.func32, Tryz.ntmps32
      go_wp2_with (first
        | (go_at_call 61; refine (CQ.out).mono ?_; rintro r w2 ⟨rfl, b2⟩; obtain ⟨x0, x1⟩ := X0.out _ b2; clear CQ)
        | (go_at_call 66; refine (w1.out _ b2).mono ?_; rintro r w3 ⟨rfl, own3, h3, e3⟩; clear w1))
      go_end0
      exact ⟨rfl, own3, h3.up (by have := HQ.out; omega), (Ev.of_below b2).trans e3⟩
    by_cases h8 : t.k = 8
    · rw [if_neg (show ¬ t.k = 1 by omega), if_neg (show ¬ t.k = 2 by omega), if_neg (show ¬ t.k = 3 by omega), if_neg (show ¬ t.k = 4 by omega), if_neg (show ¬ t.k = 5 by omega), if_neg (show ¬ t.k = 6 by omega), if_neg (show ¬ t.k = 7 by omega), if_pos h8] at HT
      have hen : t.env e = e := Tt.env_of e (by rw [Tt.binds_of h8]; rfl)
      rw [hen] at HT
      rw [HT] at hl ⊢
      have w1 : Hid (∀ wz, Below w.heap.size w wz → Calls Tryz.prog 67 #[.pointer (some ⟨M, 0, none⟩), .pointer (some ⟨b, o, none⟩)] wz (Wrote M own e (l ++ ([91] ++ Tt.sumT 0 (Tt.txtL t.ks e) ++ [93])) (n + Tt.cntL t.ks * 8388608) wz (.tuple #[]))) := fun wz hz => sm wz own e l n b o t (TB.out wz hz) (PB.out wz hz) (by have := HQ.out; omega) (by have := HQ.out; omega) (by simp only [List.length_append, List.length_cons, List.length_nil] at hl; omega)
      have g1 : (t.k == 1) = false := by simp [h8]
      have g2 : (t.k == 2) = false := by simp [h8]
      have g3 : (t.k == 3) = false := by simp [h8]
      have g4 : (t.k == 4) = false := by simp [h8]
      have g5 : (t.k == 5) = false := by simp [h8]
      have g6 : (t.k == 6) = false := by simp [h8]
      have g7 : (t.k == 7) = false := by simp [h8]
      have g8 : (t.k == 8) = true := by simp [h8]
      clear ih cl rc sm bn hkc hl HF HT
      go_enter Tryz.func32, Tryz.ntmps32
      go_wp2_with (first
        | (go_at_call 61; refine (CQ.out).mono ?_; rintro r w2 ⟨rfl, b2⟩; obtain ⟨x0, x1⟩ := X0.out _ b2; clear CQ)
        | (go_at_call 67; refine (w1.out _ b2).mono ?_; rintro r w3 ⟨rfl, own3, h3, e3⟩; clear w1))
      go_end0
      exact ⟨rfl, own3, h3.up (by have := HQ.out; omega), (Ev.of_below b2).trans e3⟩
    by_cases h9 : t.k = 9
    · rw [if_neg (show ¬ t.k = 1 by omega), if_neg (show ¬ t.k = 2 by omega), if_neg (show ¬ t.k = 3 by omega), if_neg (show ¬ t.k = 4 by omega), if_neg (show ¬ t.k = 5 by omega), if_neg (show ¬ t.k = 6 by omega), if_neg (show ¬ t.k = 7 by omega), if_neg (show ¬ t.k = 8 by omega)] at HT
      have hwd : Tt.word t.k = [109, 117] := by rw [h9]; rfl
      have hlen : t.ks.length = 1 := by omega
      obtain ⟨x, hks⟩ := Tt.one' hlen
      have hbn : t.binds = true := by rw [Tt.binds_of h9]; rfl
      rw [hwd, hks, Tt.txtL1] at HT
      simp only [List.getD_cons_zero] at HT
      rw [HT] at hl ⊢
      have w1 : Hid (∀ wz, Below w.heap.size w wz → Calls Tryz.prog 68 #[.pointer (some ⟨M, 0, none⟩), .string ⟨#[109, 117]⟩, .pointer (some ⟨b, o, none⟩)] wz (Wrote M own e (l ++ ([109, 117] ++ [32] ++ ([116] ++ Lib.itoa e.length) ++ [46, 32] ++ x.txt (t.env e))) (n + t.cnt * 8388608) wz (.tuple #[]))) := fun wz hz => bn wz own e l n b o t x ⟨#[109, 117]⟩ (TB.out wz hz) (PB.out wz hz) hbn hks (show 2 ≤ 4 by omega) (by have := HQ.out; omega) (by have := HQ.out; omega) hl
      have g1 : (t.k == 1) = false := by simp [h9]
      have g2 : (t.k == 2) = false := by simp [h9]
      have g3 : (t.k == 3) = false := by simp [h9]
      have g4 : (t.k == 4) = false := by simp [h9]
      have g5 : (t.k == 5) = false := by simp [h9]
      have g6 : (t.k == 6) = false := by simp [h9]
      have g7 : (t.k == 7) = false := by simp [h9]
      have g8 : (t.k == 8) = false := by simp [h9]
      have g9 : (t.k == 9) = true := by simp [h9]
      clear ih cl rc sm bn hkc hl HF HT
      go_enter Tryz.func32, Tryz.ntmps32
      go_wp2_with (first
        | (go_at_call 61; refine (CQ.out).mono ?_; rintro r w2 ⟨rfl, b2⟩; obtain ⟨x0, x1⟩ := X0.out _ b2; clear CQ)
        | (go_at_call 68; refine (w1.out _ b2).mono ?_; rintro r w3 ⟨rfl, own3, h3, e3⟩; clear w1))
      go_end0
      exact ⟨rfl, own3, h3, (Ev.of_below b2).trans e3⟩
    by_cases h10 : t.k = 10
    · rw [if_neg (show ¬ t.k = 1 by omega), if_neg (show ¬ t.k = 2 by omega), if_neg (show ¬ t.k = 3 by omega), if_neg (show ¬ t.k = 4 by omega), if_neg (show ¬ t.k = 5 by omega), if_neg (show ¬ t.k = 6 by omega), if_neg (show ¬ t.k = 7 by omega), if_neg (show ¬ t.k = 8 by omega)] at HT
      have hwd : Tt.word t.k = [97, 108, 108] := by rw [h10]; rfl
      have hlen : t.ks.length = 1 := by omega
      obtain ⟨x, hks⟩ := Tt.one' hlen
      have hbn : t.binds = true := by rw [Tt.binds_of h10]; rfl
      rw [hwd, hks, Tt.txtL1] at HT
      simp only [List.getD_cons_zero] at HT
      rw [HT] at hl ⊢
      have w1 : Hid (∀ wz, Below w.heap.size w wz → Calls Tryz.prog 68 #[.pointer (some ⟨M, 0, none⟩), .string ⟨#[97, 108, 108]⟩, .pointer (some ⟨b, o, none⟩)] wz (Wrote M own e (l ++ ([97, 108, 108] ++ [32] ++ ([116] ++ Lib.itoa e.length) ++ [46, 32] ++ x.txt (t.env e))) (n + t.cnt * 8388608) wz (.tuple #[]))) := fun wz hz => bn wz own e l n b o t x ⟨#[97, 108, 108]⟩ (TB.out wz hz) (PB.out wz hz) hbn hks (show 3 ≤ 4 by omega) (by have := HQ.out; omega) (by have := HQ.out; omega) hl
      have g1 : (t.k == 1) = false := by simp [h10]
      have g2 : (t.k == 2) = false := by simp [h10]
      have g3 : (t.k == 3) = false := by simp [h10]
      have g4 : (t.k == 4) = false := by simp [h10]
      have g5 : (t.k == 5) = false := by simp [h10]
      have g6 : (t.k == 6) = false := by simp [h10]
      have g7 : (t.k == 7) = false := by simp [h10]
      have g8 : (t.k == 8) = false := by simp [h10]
      have g9 : (t.k == 9) = false := by simp [h10]
      have g10 : (t.k == 10) = true := by simp [h10]
      clear ih cl rc sm bn hkc hl HF HT
      go_enter Tryz.func32, Tryz.ntmps32
      go_wp2_with (first
        | (go_at_call 61; refine (CQ.out).mono ?_; rintro r w2 ⟨rfl, b2⟩; obtain ⟨x0, x1⟩ := X0.out _ b2; clear CQ)
        | (go_at_call 68; refine (w1.out _ b2).mono ?_; rintro r w3 ⟨rfl, own3, h3, e3⟩; clear w1))
      go_end0
      exact ⟨rfl, own3, h3, (Ev.of_below b2).trans e3⟩
    · have h11 : t.k = 11 := by omega
      rw [if_neg (show ¬ t.k = 1 by omega), if_neg (show ¬ t.k = 2 by omega), if_neg (show ¬ t.k = 3 by omega), if_neg (show ¬ t.k = 4 by omega), if_neg (show ¬ t.k = 5 by omega), if_neg (show ¬ t.k = 6 by omega), if_neg (show ¬ t.k = 7 by omega), if_neg (show ¬ t.k = 8 by omega)] at HT
      have hwd : Tt.word t.k = [115, 111, 109, 101] := by rw [h11]; rfl
      have hlen : t.ks.length = 1 := by omega
      obtain ⟨x, hks⟩ := Tt.one' hlen
      have hbn : t.binds = true := by rw [Tt.binds_of h11]; rfl
      rw [hwd, hks, Tt.txtL1] at HT
      simp only [List.getD_cons_zero] at HT
      rw [HT] at hl ⊢
      have w1 : Hid (∀ wz, Below w.heap.size w wz → Calls Tryz.prog 68 #[.pointer (some ⟨M, 0, none⟩), .string ⟨#[115, 111, 109, 101]⟩, .pointer (some ⟨b, o, none⟩)] wz (Wrote M own e (l ++ ([115, 111, 109, 101] ++ [32] ++ ([116] ++ Lib.itoa e.length) ++ [46, 32] ++ x.txt (t.env e))) (n + t.cnt * 8388608) wz (.tuple #[]))) := fun wz hz => bn wz own e l n b o t x ⟨#[115, 111, 109, 101]⟩ (TB.out wz hz) (PB.out wz hz) hbn hks (show 4 ≤ 4 by omega) (by have := HQ.out; omega) (by have := HQ.out; omega) hl
      have g1 : (t.k == 1) = false := by simp [h11]
      have g2 : (t.k == 2) = false := by simp [h11]
      have g3 : (t.k == 3) = false := by simp [h11]
      have g4 : (t.k == 4) = false := by simp [h11]
      have g5 : (t.k == 5) = false := by simp [h11]
      have g6 : (t.k == 6) = false := by simp [h11]
      have g7 : (t.k == 7) = false := by simp [h11]
      have g8 : (t.k == 8) = false := by simp [h11]
      have g9 : (t.k == 9) = false := by simp [h11]
      have g10 : (t.k == 10) = false := by simp [h11]
      have g11 : (t.k == 11) = true := by simp [h11]
      clear ih cl rc sm bn hkc hl HF HT
      go_enter Tryz.func32, Tryz.ntmps32
      go_wp2_with (first
        | (go_at_call 61; refine (CQ.out).mono ?_; rintro r w2 ⟨rfl, b2⟩; obtain ⟨x0, x1⟩ := X0.out _ b2; clear CQ)
        | (go_at_call 68; refine (w1.out _ b2).mono ?_; rintro r w3 ⟨rfl, own3, h3, e3⟩; clear w1))
      go_end0
      exact ⟨rfl, own3, h3, (Ev.of_below b2).trans e3⟩
theorem text_any (M : Nat) : ∀ k, TxtOf M k
  | 0 => fun w own e l n b o t _ hP => by obtain ⟨m, e⟩ := hP.pos; cases e
  | k + 1 => text_step M k (text_any M k) (closed_step M k (text_any M k)) (record_step M k (closed_step M k (text_any M k))) (sum_step M k (closed_step M k (text_any M k))) (binder_step M k (text_any M k))
theorem Tt.txt_ne (t : Tt) (e : List (Int × Int)) : t.txt e ≠ [] := by
  cases hf : Tt.fitN t.k t.ks.length t.ls.length with
  | false => rw [Tt.txt_bad e hf]; simp
  | true =>
    rw [Tt.txt_fit e hf]
    unfold Tt.varT Tt.word
    repeat' split
    all_goals simp

set_option maxHeartbeats 1000000 in
set_option maxRecDepth 100000 in
theorem Text_any (w : World) (hW : Tab w) (k : Nat) (vs : List Value) (t : Tt) (hT : TAt w Any k vs t) (hc : t.cnt ≤ 1048576) (hl : (t.txt []).length + 100 ≤ 140737488355328) : Calls Tryz.prog 14 #[.agg vs.toArray] w fun r w' => r = .returned (.string ⟨(t.txt []).toArray⟩) ∧ Below w.heap.size w w' := by
  have hP : PAt (w.alloc (.cells vs.toArray 25)) (fun b => b < w.heap.size + 1) k w.heap.size 0 t := PAt.box ((TAt.old hT).move (K' := fun b => b < w.heap.size + 1) (Keeps.refl _ _) (fun b hb => by have := hb.2; omega)) 25 (by show w.heap.size < w.heap.size + 1; omega)
  have hA : Arr ((w.alloc (.cells vs.toArray 25)).alloc (.cells #[.pointer none, .slice none 0 0, .map none, .slice none 0 0, .map none, .slice none 0 0] WT)) (w.heap.size + 1) WT [.pointer none, .slice none 0 0, .map none, .slice none 0 0, .map none, .slice none 0 0] := ⟨by
    have := heap_alloc_at (w.alloc (.cells vs.toArray 25)) (.cells #[.pointer none, .slice none 0 0, .map none, .slice none 0 0, .map none, .slice none 0 0] WT)
    rw [size_alloc] at this
    exact this⟩
  have h0 : Tx (w.heap.size + 1) ((w.alloc (.cells vs.toArray 25)).alloc (.cells #[.pointer none, .slice none 0 0, .map none, .slice none 0 0, .map none, .slice none 0 0] WT)) _ [] [] 0 :=
    ⟨⟨_, .map none, .slice none 0 0, .slice none 0 0, none, ⟨hA, rfl, rfl, rfl, rfl, Scp.init _ _, Nat.lt_succ_self _, by rw [size_alloc, size_alloc]; omega⟩, rfl, rfl, .inl rfl, rfl, World.ownsRow_nil _ _ _ _, rfl⟩, w, hW, by omega, bl_alloc (bl_alloc (Below.refl _ _) _) _⟩
  have B2 : Hid (Below w.heap.size w ((w.alloc (.cells vs.toArray 25)).alloc (.cells #[.pointer none, .slice none 0 0, .map none, .slice none 0 0, .map none, .slice none 0 0] WT))) := bl_alloc (bl_alloc (Below.refl _ _) _) _
  have HO := hid h0.own
  have q1 := hid (text_any (w.heap.size + 1) k _ _ [] [] 0 w.heap.size 0 t h0 (hP.move (Keeps.of_below (bl_alloc (Below.refl _ _) _)) (fun _ h => h)) (by simp; omega) (by omega) (by simpa using hl))
  rw [List.nil_append] at q1
  have q2 : Hid (∀ oz wz, Below w.heap.size w wz → Tx (w.heap.size + 1) wz oz [] (t.txt []) (0 + t.cnt * 8388608) → Calls Tryz.prog 33 #[.pointer (some ⟨w.heap.size + 1, 0, none⟩)] wz fun e w' => e = .returned (.string ⟨(t.txt []).toArray⟩) ∧ Below w.heap.size w w') := fun oz wz hb hz => (String_any _ oz [] _ _ wz hz (Tt.txt_ne t [])).mono fun e w' ⟨h1, h3⟩ => ⟨h1, hb.trans (h3.mono (by omega))⟩
  obtain ⟨a', c', a, c, rfl⟩ := hT.form
  clear hT hl hP hA h0 hc
  generalize (⟨(t.txt []).toArray⟩ : ByteArray) = txt at q2
  go_enter Tryz.func14, Tryz.ntmps14
  go_wp2_with (first
    | (go_at_call 32; refine (q1.out).mono ?_; rintro r w2 ⟨rfl, own2, h2, e2⟩; have BB := hid (B2.out.trans (e2.below (B := w.heap.size) B2.out.size (fun b hb => by have := (HO.out b hb).1; omega))); clear q1)
    | (go_at_call 33; refine (q2.out _ _ BB.out h2).mono ?_; rintro r w3 ⟨rfl, hb3⟩; clear q2))
  go_ret
  exact ⟨rfl, hb3⟩
end Go.Proofs.YtfeppchgmobfpaaGreatDoor
