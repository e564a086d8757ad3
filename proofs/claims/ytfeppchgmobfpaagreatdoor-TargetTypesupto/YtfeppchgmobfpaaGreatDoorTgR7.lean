/- The document's text and Text. -/
import Derived.Test.YtfeppchgmobfpaaGreatDoorTgR6
import Derived.Test.YtfeppchgmobfpaaGreatDoorTgW5
namespace Go.Proofs.YtfeppchgmobfpaaGreatDoor
open Go.RowKit
set_option linter.unusedVariables false
set_option linter.unusedSimpArgs false

theorem envOf_lt : ∀ (n : Nat) (B : List Int) (x j : Int), B.length = n → lk (envOf B) x = some j → j < B.length
  | 0, B, x, j, hl, h => by rw [List.eq_nil_of_length_eq_zero hl] at h; cases h
  | n + 1, B, x, j, hl, h => by
    have hne : B ≠ [] := fun e => by rw [e] at hl; cases hl
    rw [← List.dropLast_concat_getLast hne, envOf_snoc, lk_cons] at h
    split at h
    · injection h with h; rw [← h, envOf_len, List.length_dropLast]; omega
    · have := envOf_lt n B.dropLast x j (by rw [List.length_dropLast]; omega) h
      rw [List.length_dropLast] at this
      omega
theorem env_not {t : Tt} {B : List Int} (h : bindsK t.k = false) : t.env (envOf B) = envOf B := by
  unfold Tt.env
  rw [Tt.binds_k, h]
  simp
theorem env_is {t : Tt} {B : List Int} (h : bindsK t.k = true) : t.env (envOf B) = envOf (B ++ [t.n]) := by
  unfold Tt.env
  rw [Tt.binds_k, h, envOf_snoc]
  simp

set_option maxHeartbeats 8000000 in
set_option maxRecDepth 100000 in
theorem rtext_step (n : Nat) (ih : RTextOf n) : RTextOf (n + 1) := by
  intro w a' c' a c t bv B h hB hc hl
  have hpart := part_of n ih
  have hT0 := h
  obtain ⟨_, _, hv, hk64, hn64, hSl, hL⟩ := h
  injection hv with _ hv; injection hv with _ hv; injection hv with e2 hv; injection hv with e3 _
  subst e2 e3
  have hlm : t.ks.length ≤ 9223372036854775807 := by obtain ⟨_, _, _, hm⟩ := TAtL.form hL; exact hm
  have hll64 : t.ls.length ≤ 9223372036854775807 := by obtain ⟨_, _, hv, hm⟩ := hSl.form; exact hm
  have XA : Hid (Arr (w.alloc (.cells #[.int .i64 t.k, .int .i64 t.n, .slice a' t.ls.length c', .slice a t.ks.length c] TY)) w.heap.size TY [.int .i64 t.k, .int .i64 t.n, .slice a' t.ls.length c', .slice a t.ks.length c]) := ⟨heap_alloc_at _ _⟩
  have B1 : Hid (Below w.heap.size w (w.alloc (.cells #[.int .i64 t.k, .int .i64 t.n, .slice a' t.ls.length c', .slice a t.ks.length c] TY))) := bl_alloc (Below.refl _ _) _
  have HX : Hid (∀ wz, Below (w.alloc (.cells #[.int .i64 t.k, .int .i64 t.n, .slice a' t.ls.length c', .slice a t.ks.length c] TY)).heap.size (w.alloc (.cells #[.int .i64 t.k, .int .i64 t.n, .slice a' t.ls.length c', .slice a t.ks.length c] TY)) wz → ∀ j, wz.cell? ⟨w.heap.size, j, none⟩ = [.int .i64 t.k, .int .i64 t.n, .slice a' t.ls.length c', .slice a t.ks.length c][j]?) := fun wz hz j => (XA.out.stays hz).cell j
  have HL : Hid (∀ wz, Below w.heap.size w wz → TAtL wz Any n (.slice a t.ks.length c) t.ks) := fun wz hz => TAtL.below hL hz
  have KQ : Hid (Calls Tryz.prog 49 #[.int .i64 t.k] (w.alloc (.cells #[.int .i64 t.k, .int .i64 t.n, .slice a' t.ls.length c', .slice a t.ks.length c] TY)) fun e w' => e = .returned (.int .i64 (kidsOf t.k)) ∧ w' = (w.alloc (.cells #[.int .i64 t.k, .int .i64 t.n, .slice a' t.ls.length c', .slice a t.ks.length c] TY))) := kids_any _ t.k
  have x0 := HX.out _ (Below.refl _ _)
  have hcc := Tt.cnt_ks t
  have HIH := hid ih
  have HP := hid hpart
  have HO : Hid (∀ wz, Below w.heap.size w wz → Ow wz bv B) := fun wz hz => hB.below hz
  clear ih hpart
  by_cases h1 : t.k = 1
  · rw [show kidsOf t.k = 0 by rw [h1]; rfl] at KQ
    have g1 : (t.k == 1) = true := by simp [h1]
    have g2 : (t.k == 2) = false := by simp [h1]
    have g3 : (t.k == 3) = false := by simp [h1]
    have g6 : (t.k == 6) = false := by simp [h1]
    have g4 : (t.k == 4) = false := by simp [h1]
    have g5 : (t.k == 5) = false := by simp [h1]
    have g7 : (t.k == 7) = false := by simp [h1]
    have g8 : (t.k == 8) = false := by simp [h1]
    have g10 : (t.k == 10) = false := by simp [h1]
    have g11 : (t.k == 11) = false := by simp [h1]
    by_cases hlen : t.ks.length = 0
    · have gn : ((t.ks.length : Int) != 0) = false := by simp [hlen]
      have hfit := (show Tt.fitN t.k t.ks.length t.ls.length = true by rw [h1]; simp [Tt.fitN, hlen])
      have hT1 := Tt.txt_fit (envOf B) hfit
      clear hfit
      have HT : Hid (t.txt (envOf B) = [105, 110, 116]) := by show _ = _; rw [hT1]; simp [h1]
      generalize t.txt (envOf B) = res at HT hT1 hl ⊢
      clear hT0 hSl hL hk64 hn64 hcc hc hl HIH HP HL HO hB hT1 hlen h1
      go_enter Tryz.func34, Tryz.ntmps34
      go_wp2_with (first | (go_at_call 49; refine (KQ.out).mono ?_; rintro e wk ⟨rfl, hwk⟩; rw [hwk]; clear hwk wk KQ))
      go_ret
      exact ⟨ret_str (by rw [HT.out]), B1.out⟩
    · have gn : ((t.ks.length : Int) != 0) = true := bne_iff_ne.2 (by omega)
      have HT : Hid (t.txt (envOf B) = [63]) := Tt.txt_bad _ (by rw [h1]; simp [Tt.fitN, hlen])
      generalize t.txt (envOf B) = res at HT hl ⊢
      clear hT0 hSl hL hk64 hn64 hcc hc hl HIH HP HL HO hB hlen h1
      go_enter Tryz.func34, Tryz.ntmps34
      go_wp2_with (first | (go_at_call 49; refine (KQ.out).mono ?_; rintro e wk ⟨rfl, hwk⟩; rw [hwk]; clear hwk wk KQ))
      go_ret
      exact ⟨ret_str (by rw [HT.out]), B1.out⟩
  by_cases h2 : t.k = 2
  · rw [show kidsOf t.k = 0 by rw [h2]; rfl] at KQ
    have g1 : (t.k == 1) = false := by simp [h2]
    have g2 : (t.k == 2) = true := by simp [h2]
    have g3 : (t.k == 3) = false := by simp [h2]
    have g6 : (t.k == 6) = false := by simp [h2]
    have g4 : (t.k == 4) = false := by simp [h2]
    have g5 : (t.k == 5) = false := by simp [h2]
    have g7 : (t.k == 7) = false := by simp [h2]
    have g8 : (t.k == 8) = false := by simp [h2]
    have g10 : (t.k == 10) = false := by simp [h2]
    have g11 : (t.k == 11) = false := by simp [h2]
    by_cases hlen : t.ks.length = 0
    · have gn : ((t.ks.length : Int) != 0) = false := by simp [hlen]
      have hfit := (show Tt.fitN t.k t.ks.length t.ls.length = true by rw [h2]; simp [Tt.fitN, hlen])
      have hT1 := Tt.txt_fit (envOf B) hfit
      clear hfit
      have HT : Hid (t.txt (envOf B) = [98, 111, 111, 108]) := by show _ = _; rw [hT1]; simp [h2]
      generalize t.txt (envOf B) = res at HT hT1 hl ⊢
      clear hT0 hSl hL hk64 hn64 hcc hc hl HIH HP HL HO hB hT1 hlen h2
      go_enter Tryz.func34, Tryz.ntmps34
      go_wp2_with (first | (go_at_call 49; refine (KQ.out).mono ?_; rintro e wk ⟨rfl, hwk⟩; rw [hwk]; clear hwk wk KQ))
      go_ret
      exact ⟨ret_str (by rw [HT.out]), B1.out⟩
    · have gn : ((t.ks.length : Int) != 0) = true := bne_iff_ne.2 (by omega)
      have HT : Hid (t.txt (envOf B) = [63]) := Tt.txt_bad _ (by rw [h2]; simp [Tt.fitN, hlen])
      generalize t.txt (envOf B) = res at HT hl ⊢
      clear hT0 hSl hL hk64 hn64 hcc hc hl HIH HP HL HO hB hlen h2
      go_enter Tryz.func34, Tryz.ntmps34
      go_wp2_with (first | (go_at_call 49; refine (KQ.out).mono ?_; rintro e wk ⟨rfl, hwk⟩; rw [hwk]; clear hwk wk KQ))
      go_ret
      exact ⟨ret_str (by rw [HT.out]), B1.out⟩
  by_cases h3 : t.k = 3
  · rw [show kidsOf t.k = 0 by rw [h3]; rfl] at KQ
    have g1 : (t.k == 1) = false := by simp [h3]
    have g2 : (t.k == 2) = false := by simp [h3]
    have g3 : (t.k == 3) = true := by simp [h3]
    have g6 : (t.k == 6) = false := by simp [h3]
    have g4 : (t.k == 4) = false := by simp [h3]
    have g5 : (t.k == 5) = false := by simp [h3]
    have g7 : (t.k == 7) = false := by simp [h3]
    have g8 : (t.k == 8) = false := by simp [h3]
    have g10 : (t.k == 10) = false := by simp [h3]
    have g11 : (t.k == 11) = false := by simp [h3]
    by_cases hlen : t.ks.length = 0
    · have gn : ((t.ks.length : Int) != 0) = false := by simp [hlen]
      have hfit := (show Tt.fitN t.k t.ks.length t.ls.length = true by rw [h3]; simp [Tt.fitN, hlen])
      have hT1 := Tt.txt_fit (envOf B) hfit
      clear hfit
      have HT : Hid (t.txt (envOf B) = [117, 110, 105, 116]) := by show _ = _; rw [hT1]; simp [h3]
      generalize t.txt (envOf B) = res at HT hT1 hl ⊢
      clear hT0 hSl hL hk64 hn64 hcc hc hl HIH HP HL HO hB hT1 hlen h3
      go_enter Tryz.func34, Tryz.ntmps34
      go_wp2_with (first | (go_at_call 49; refine (KQ.out).mono ?_; rintro e wk ⟨rfl, hwk⟩; rw [hwk]; clear hwk wk KQ))
      go_ret
      exact ⟨ret_str (by rw [HT.out]), B1.out⟩
    · have gn : ((t.ks.length : Int) != 0) = true := bne_iff_ne.2 (by omega)
      have HT : Hid (t.txt (envOf B) = [63]) := Tt.txt_bad _ (by rw [h3]; simp [Tt.fitN, hlen])
      generalize t.txt (envOf B) = res at HT hl ⊢
      clear hT0 hSl hL hk64 hn64 hcc hc hl HIH HP HL HO hB hlen h3
      go_enter Tryz.func34, Tryz.ntmps34
      go_wp2_with (first | (go_at_call 49; refine (KQ.out).mono ?_; rintro e wk ⟨rfl, hwk⟩; rw [hwk]; clear hwk wk KQ))
      go_ret
      exact ⟨ret_str (by rw [HT.out]), B1.out⟩
  by_cases h6 : t.k = 6
  · rw [show kidsOf t.k = 0 by rw [h6]; rfl] at KQ
    have g1 : (t.k == 1) = false := by simp [h6]
    have g2 : (t.k == 2) = false := by simp [h6]
    have g3 : (t.k == 3) = false := by simp [h6]
    have g6 : (t.k == 6) = true := by simp [h6]
    have g4 : (t.k == 4) = false := by simp [h6]
    have g5 : (t.k == 5) = false := by simp [h6]
    have g7 : (t.k == 7) = false := by simp [h6]
    have g8 : (t.k == 8) = false := by simp [h6]
    have g10 : (t.k == 10) = false := by simp [h6]
    have g11 : (t.k == 11) = false := by simp [h6]
    by_cases hlen : t.ks.length = 0
    · have gn : ((t.ks.length : Int) != 0) = false := by simp [hlen]
      have hfit := (show Tt.fitN t.k t.ks.length t.ls.length = true by rw [h6]; simp [Tt.fitN, hlen])
      have hT1 := Tt.txt_fit (envOf B) hfit
      clear hfit
      have HT : Hid (t.txt (envOf B) = Tt.varT (envOf B) t.n) := by show _ = _; rw [hT1]; simp [h6]
      have LQ := hid (level_any (w.alloc (.cells #[.int .i64 t.k, .int .i64 t.n, .slice a' t.ls.length c', .slice a t.ks.length c] TY)) bv B t.n (HO.out _ B1.out))
      unfold Tt.varT at HT
      generalize t.txt (envOf B) = res at HT hT1 hl ⊢
      cases hlk : lk (envOf B) t.n with
      | none =>
        rw [hlk] at HT LQ
        have DQ := hid (Decimal_any (w.alloc (.cells #[.int .i64 t.k, .int .i64 t.n, .slice a' t.ls.length c', .slice a t.ks.length c] TY)) t.n hn64)
        have hd1 : ¬ 9223372036854775807 < 1 + (Lib.itoa t.n).length := by have := itoa_len hn64; omega
        generalize Lib.itoa t.n = D at HT DQ hd1
        clear hT0 hSl hL hk64 hn64 hcc hc hl HIH HP HL HO hB hT1 hlen h6 hlk
        have LQ : Hid (Calls Tryz.prog 57 #[bv, .int .i64 t.n] (w.alloc (.cells #[.int .i64 t.k, .int .i64 t.n, .slice a' t.ls.length c', .slice a t.ks.length c] TY)) fun e w' => e = .returned (.int .i64 (-1)) ∧ w' = (w.alloc (.cells #[.int .i64 t.k, .int .i64 t.n, .slice a' t.ls.length c', .slice a t.ks.length c] TY))) := LQ
        go_enter Tryz.func34, Tryz.ntmps34
        go_wp2_with (first | (go_at_call 49; refine (KQ.out).mono ?_; rintro e wk ⟨rfl, hwk⟩; rw [hwk]; clear hwk wk KQ) | (go_at_call 57; refine (LQ.out).mono ?_; rintro e wk ⟨rfl, hwk⟩; rw [hwk]; clear hwk wk LQ) | (go_at_call 69; refine (DQ.out).mono ?_; rintro e w3 ⟨rfl, b3⟩; clear DQ))
        go_ret
        exact ⟨ret_str (by rw [HT.out, ← ByteArray.mk_append_mk]), bl_tr B1.out b3⟩
      | some jj =>
        rw [hlk] at HT LQ
        have hj0 := envOf_pos _ B t.n jj rfl hlk
        have hj1 := envOf_lt _ B t.n jj rfl hlk
        have hj64 : R64 jj := by unfold R64; omega
        have DQ := hid (Decimal_any (w.alloc (.cells #[.int .i64 t.k, .int .i64 t.n, .slice a' t.ls.length c', .slice a t.ks.length c] TY)) jj hj64)
        have hd1 : ¬ 9223372036854775807 < 1 + (Lib.itoa jj).length := by have := itoa_len hj64; omega
        have hneg : ¬ jj < 0 := by omega
        have HT : Hid (res = [116] ++ Lib.itoa jj) := HT
        generalize Lib.itoa jj = D at HT DQ hd1
        clear hT0 hSl hL hk64 hn64 hcc hc hl HIH HP HL HO hB hT1 hlen h6 hlk hj0 hj1 hj64
        have LQ : Hid (Calls Tryz.prog 57 #[bv, .int .i64 t.n] (w.alloc (.cells #[.int .i64 t.k, .int .i64 t.n, .slice a' t.ls.length c', .slice a t.ks.length c] TY)) fun e w' => e = .returned (.int .i64 jj) ∧ w' = (w.alloc (.cells #[.int .i64 t.k, .int .i64 t.n, .slice a' t.ls.length c', .slice a t.ks.length c] TY))) := LQ
        go_enter Tryz.func34, Tryz.ntmps34
        go_wp2_with (first | (go_at_call 49; refine (KQ.out).mono ?_; rintro e wk ⟨rfl, hwk⟩; rw [hwk]; clear hwk wk KQ) | (go_at_call 57; refine (LQ.out).mono ?_; rintro e wk ⟨rfl, hwk⟩; rw [hwk]; clear hwk wk LQ) | (go_at_call 69; refine (DQ.out).mono ?_; rintro e w3 ⟨rfl, b3⟩; clear DQ))
        go_ret
        exact ⟨ret_str (by rw [HT.out, ← ByteArray.mk_append_mk]), bl_tr B1.out b3⟩
    · have gn : ((t.ks.length : Int) != 0) = true := bne_iff_ne.2 (by omega)
      have HT : Hid (t.txt (envOf B) = [63]) := Tt.txt_bad _ (by rw [h6]; simp [Tt.fitN, hlen])
      generalize t.txt (envOf B) = res at HT hl ⊢
      clear hT0 hSl hL hk64 hn64 hcc hc hl HIH HP HL HO hB hlen h6
      go_enter Tryz.func34, Tryz.ntmps34
      go_wp2_with (first | (go_at_call 49; refine (KQ.out).mono ?_; rintro e wk ⟨rfl, hwk⟩; rw [hwk]; clear hwk wk KQ))
      go_ret
      exact ⟨ret_str (by rw [HT.out]), B1.out⟩
  by_cases h4 : t.k = 4
  · rw [show kidsOf t.k = 2 by rw [h4]; rfl] at KQ
    have g1 : (t.k == 1) = false := by simp [h4]
    have g2 : (t.k == 2) = false := by simp [h4]
    have g3 : (t.k == 3) = false := by simp [h4]
    have g6 : (t.k == 6) = false := by simp [h4]
    have g4 : (t.k == 4) = true := by simp [h4]
    have g5 : (t.k == 5) = false := by simp [h4]
    have g7 : (t.k == 7) = false := by simp [h4]
    have g8 : (t.k == 8) = false := by simp [h4]
    have g10 : (t.k == 10) = false := by simp [h4]
    have g11 : (t.k == 11) = false := by simp [h4]
    by_cases hlen : t.ks.length = 2
    · have gn : ((t.ks.length : Int) != 2) = false := by simp [hlen]
      have hfit := (show Tt.fitN t.k t.ks.length t.ls.length = true by rw [h4]; simp [Tt.fitN, hlen])
      have hT1 := Tt.txt_fit (envOf B) hfit
      clear hfit
      obtain ⟨x, y, hxy⟩ := Tt.two hlen
      have hx : t.ks[0]? = some x := by rw [hxy]; rfl
      have hy : t.ks[1]? = some y := by rw [hxy]; rfl
      have HT : Hid (t.txt (envOf B) = Tt.clo x.k (x.txt (envOf B)) ++ [32, 45, 62, 32] ++ y.txt (envOf B)) := by show _ = _; rw [hT1, env_not (by rw [h4]; rfl), hxy, Tt.txtL2]; simp [h4]
      have hlT := congrArg List.length HT.out
      simp only [List.length_append, List.length_cons, List.length_nil] at hlT
      have hcx := Tt.cnt_at hx
      have hcy := Tt.cnt_at hy
      obtain ⟨kb, ko, k1, k2, k3, k4, rfl, hcap, q0, q1, q2, q3, hTx⟩ := (HL.out _ B1.out).load hx
      obtain ⟨kb2, ko2, m1, m2, m3, m4, hko, -, r0, r1, r2, r3, hTy⟩ := (HL.out _ B1.out).load hy
      injection hko with hko
      injection hko with e1 e2
      subst e1 e2
      simp only [Nat.zero_mul, Nat.add_zero, Nat.one_mul, Nat.add_assoc, Nat.reduceAdd] at q0 q1 q2 q3 r0 r1 r2 r3
      have KC : Hid (∀ wz, Below (w.alloc (.cells #[.int .i64 t.k, .int .i64 t.n, .slice a' t.ls.length c', .slice (some ⟨kb, ko, none⟩) t.ks.length c] TY)).heap.size (w.alloc (.cells #[.int .i64 t.k, .int .i64 t.n, .slice a' t.ls.length c', .slice (some ⟨kb, ko, none⟩) t.ks.length c] TY)) wz → (wz.cell? ⟨kb, ko, none⟩ = some (.int .i64 x.k) ∧ wz.cell? ⟨kb, ko + 1, none⟩ = some (.int .i64 x.n) ∧ wz.cell? ⟨kb, ko + 2, none⟩ = some (.slice k1 x.ls.length k2) ∧ wz.cell? ⟨kb, ko + 3, none⟩ = some (.slice k3 x.ks.length k4)) ∧ wz.cell? ⟨kb, ko + 4, none⟩ = some (.int .i64 y.k) ∧ wz.cell? ⟨kb, ko + 5, none⟩ = some (.int .i64 y.n) ∧ wz.cell? ⟨kb, ko + 6, none⟩ = some (.slice m1 y.ls.length m2) ∧ wz.cell? ⟨kb, ko + 7, none⟩ = some (.slice m3 y.ks.length m4)) := fun wz hz => ⟨⟨cell_on hz q0, cell_on hz q1, cell_on hz q2, cell_on hz q3⟩, cell_on hz r0, cell_on hz r1, cell_on hz r2, cell_on hz r3⟩
      have XQ : Hid (∀ wz, Below (w.alloc (.cells #[.int .i64 t.k, .int .i64 t.n, .slice a' t.ls.length c', .slice (some ⟨kb, ko, none⟩) t.ks.length c] TY)).heap.size (w.alloc (.cells #[.int .i64 t.k, .int .i64 t.n, .slice a' t.ls.length c', .slice (some ⟨kb, ko, none⟩) t.ks.length c] TY)) wz → Calls Tryz.prog 70 #[.agg #[.int .i64 x.k, .int .i64 x.n, .slice k1 x.ls.length k2, .slice k3 x.ks.length k4], bv] wz fun e w' => e = .returned (.string ⟨(Tt.clo x.k (x.txt (envOf B))).toArray⟩) ∧ Below wz.heap.size wz w') := fun wz hz => HP.out wz k1 k2 k3 k4 x bv B (hTx.below hz) (HO.out _ (bl_tr B1.out hz)) (by omega) (by omega)
      have YQ : Hid (∀ wz, Below (w.alloc (.cells #[.int .i64 t.k, .int .i64 t.n, .slice a' t.ls.length c', .slice (some ⟨kb, ko, none⟩) t.ks.length c] TY)).heap.size (w.alloc (.cells #[.int .i64 t.k, .int .i64 t.n, .slice a' t.ls.length c', .slice (some ⟨kb, ko, none⟩) t.ks.length c] TY)) wz → Calls Tryz.prog 34 #[.agg #[.int .i64 y.k, .int .i64 y.n, .slice m1 y.ls.length m2, .slice m3 y.ks.length m4], bv] wz fun e w' => e = .returned (.string ⟨(y.txt (envOf B)).toArray⟩) ∧ Below wz.heap.size wz w') := fun wz hz => HIH.out wz m1 m2 m3 m4 y bv B (hTy.below hz) (HO.out _ (bl_tr B1.out hz)) (by omega) (by omega)
      generalize Tt.clo x.k (x.txt (envOf B)) = P at HT hlT XQ
      generalize y.txt (envOf B) = Q at HT hlT YQ
      generalize t.txt (envOf B) = res at HT hT1 hl hlT ⊢
      have hs1 : ¬ 9223372036854775807 < P.length + 4 := by omega
      have hs2 : ¬ 9223372036854775807 < P.length + 4 + Q.length := by omega
      have hl2 : (1 : Int) < t.ks.length := by omega
      have hl4 : 1 < t.ks.length := by omega
      have hl3 : (0 : Int) < t.ks.length := by omega
      have hl5 : 0 < t.ks.length := by omega
      clear hT0 hSl hL hk64 hn64 hcc hc hl HIH HP HL HO hB hT1 hlen h4 hxy hx hy hcx hcy hlT hTx hTy q0 q1 q2 q3 r0 r1 r2 r3
      go_enter Tryz.func34, Tryz.ntmps34
      go_wp2_with (first | (go_at_call 49; refine (KQ.out).mono ?_; rintro e wk ⟨rfl, hwk⟩; rw [hwk]; clear hwk wk KQ))
      refine wp_region_held_drew (S := fun wz => Below (w.alloc (.cells #[.int .i64 t.k, .int .i64 t.n, .slice a' t.ls.length c', .slice (some ⟨kb, ko, none⟩) t.ks.length c] TY)).heap.size (w.alloc (.cells #[.int .i64 t.k, .int .i64 t.n, .slice a' t.ls.length c', .slice (some ⟨kb, ko, none⟩) t.ks.length c] TY)) wz) (by kernel_rfl) ((Below.refl _ _).drew) (fun hS => ?_)
      generalize (w.alloc (.cells #[.int .i64 t.k, .int .i64 t.n, .slice a' t.ls.length c', .slice (some ⟨kb, ko, none⟩) t.ks.length c] TY)).drew = wc0 at hS   ⊢
      refine wpAnyH_take (i := 0) (v := ?_) rfl (by kernel_rfl) (by kernel_rfl) (by kernel_rfl) (fun _ _ _ h => h) (Or.inl ⟨by rfl, ?_⟩) hS ?_
      rotate_left
      · intro wz hz; go_simp; try with_reducible rfl
      try simp only [Act.put, List.setIfInBounds_toArray, List.set_cons_zero, List.set_cons_succ, List.getElem_toArray, List.getElem_cons_succ, List.getElem_cons_zero]
      refine wpAnyH_take (i := 1) (v := ?_) rfl (by kernel_rfl) (by kernel_rfl) (by kernel_rfl) (fun _ _ _ h => h) (Or.inl ⟨by rfl, ?_⟩) hS ?_
      rotate_left
      · intro wz hz; have yy0 := HX.out wz hz; have yy1 := KC.out wz hz; go_simp; try with_reducible rfl
      try simp only [Act.put, List.setIfInBounds_toArray, List.set_cons_zero, List.set_cons_succ, List.getElem_toArray, List.getElem_cons_succ, List.getElem_cons_zero]
      refine wpAnyH_take (i := 2) (v := ?_) rfl (by kernel_rfl) (by kernel_rfl) (by kernel_rfl) (fun _ _ _ h => h) (Or.inl ⟨by rfl, ?_⟩) hS ?_
      rotate_left
      · intro wz hz; go_simp; try with_reducible rfl
      try simp only [Act.put, List.setIfInBounds_toArray, List.set_cons_zero, List.set_cons_succ, List.getElem_toArray, List.getElem_cons_succ, List.getElem_cons_zero]
      refine wpAnyH_take (i := 3) (v := ?_) rfl (by kernel_rfl) (by kernel_rfl) (by kernel_rfl) (fun _ _ _ h => h) (Or.inl ⟨by rfl, ?_⟩) hS ?_
      rotate_left
      · intro wz hz; have yy0 := HX.out wz hz; have yy1 := KC.out wz hz; go_simp; try with_reducible rfl
      try simp only [Act.put, List.setIfInBounds_toArray, List.set_cons_zero, List.set_cons_succ, List.getElem_toArray, List.getElem_cons_succ, List.getElem_cons_zero]
      refine wpAnyH_take (i := 4) (v := ?_) rfl (by kernel_rfl) (by kernel_rfl) (by kernel_rfl) (fun _ _ _ h => h) (Or.inl ⟨by rfl, ?_⟩) hS ?_
      rotate_left
      · intro wz hz; go_simp; try with_reducible rfl
      try simp only [Act.put, List.setIfInBounds_toArray, List.set_cons_zero, List.set_cons_succ, List.getElem_toArray, List.getElem_cons_succ, List.getElem_cons_zero]
      refine wpAnyH_take (i := 7) (v := ?_) rfl (by kernel_rfl) (by kernel_rfl) (by kernel_rfl) (fun _ _ _ h => h) (Or.inl ⟨by rfl, ?_⟩) hS ?_
      rotate_left
      · intro wz hz; go_simp; try with_reducible rfl
      try simp only [Act.put, List.setIfInBounds_toArray, List.set_cons_zero, List.set_cons_succ, List.getElem_toArray, List.getElem_cons_succ, List.getElem_cons_zero]
      refine wpAnyH_take (i := 8) (v := ?_) rfl (by kernel_rfl) (by kernel_rfl) (by kernel_rfl) (fun _ _ _ h => h) (Or.inl ⟨by rfl, ?_⟩) hS ?_
      rotate_left
      · intro wz hz; have yy0 := HX.out wz hz; have yy1 := KC.out wz hz; go_simp; try with_reducible rfl
      try simp only [Act.put, List.setIfInBounds_toArray, List.set_cons_zero, List.set_cons_succ, List.getElem_toArray, List.getElem_cons_succ, List.getElem_cons_zero]
      refine wpAnyH_take (i := 9) (v := ?_) rfl (by kernel_rfl) (by kernel_rfl) (by kernel_rfl) (fun _ _ _ h => h) (Or.inl ⟨by rfl, ?_⟩) hS ?_
      rotate_left
      · intro wz hz; go_simp; try with_reducible rfl
      try simp only [Act.put, List.setIfInBounds_toArray, List.set_cons_zero, List.set_cons_succ, List.getElem_toArray, List.getElem_cons_succ, List.getElem_cons_zero]
      refine wpAnyH_take (i := 10) (v := ?_) rfl (by kernel_rfl) (by kernel_rfl) (by kernel_rfl) (fun _ _ _ h => h) (Or.inl ⟨by rfl, ?_⟩) hS ?_
      rotate_left
      · intro wz hz; have yy0 := HX.out wz hz; have yy1 := KC.out wz hz; go_simp; try with_reducible rfl
      try simp only [Act.put, List.setIfInBounds_toArray, List.set_cons_zero, List.set_cons_succ, List.getElem_toArray, List.getElem_cons_succ, List.getElem_cons_zero]
      refine wpAnyH_take (i := 11) (v := ?_) rfl (by kernel_rfl) (by kernel_rfl) (by kernel_rfl) (fun _ _ _ h => h) (Or.inl ⟨by rfl, ?_⟩) hS ?_
      rotate_left
      · intro wz hz; go_simp; try with_reducible rfl
      try simp only [Act.put, List.setIfInBounds_toArray, List.set_cons_zero, List.set_cons_succ, List.getElem_toArray, List.getElem_cons_succ, List.getElem_cons_zero]
      refine wpAnyH_ready (rs := [5]) (by kernel_rfl) (by simp) (AllReadyH.cons rfl (fun K hK => ?a1_5) AllReadyH.nil)
      case' a1_5 =>
        go_simp
        refine (XQ.out wc0 hS).mono ?_
        rintro e wc1 ⟨rfl, hb⟩
        refine hK.out _ _ (bl_on hS hb) (fun hSn => ?_)
        clear hK K hS
        have hS := hSn
        clear hSn
        try simp only [Act.put, List.setIfInBounds_toArray, List.set_cons_zero, List.set_cons_succ, List.getElem_toArray, List.getElem_cons_succ, List.getElem_cons_zero]
        clear hb
        refine wpAnyH_take (i := 6) (v := ?_) rfl (by kernel_rfl) (by kernel_rfl) (by kernel_rfl) (fun _ _ _ h => h) (Or.inl ⟨by rfl, ?_⟩) hS ?_
        rotate_left
        · intro wz hz; go_simp; try with_reducible rfl
        try simp only [Act.put, List.setIfInBounds_toArray, List.set_cons_zero, List.set_cons_succ, List.getElem_toArray, List.getElem_cons_succ, List.getElem_cons_zero]
        refine wpAnyH_ready (rs := [12]) (by kernel_rfl) (by simp) (AllReadyH.cons rfl (fun K hK => ?a2_12) AllReadyH.nil)
        case' a2_12 =>
          go_simp
          refine (YQ.out wc1 hS).mono ?_
          rintro e wc2 ⟨rfl, hb⟩
          refine hK.out _ _ (bl_on hS hb) (fun hSn => ?_)
          clear hK K hS
          have hS := hSn
          clear hSn
          try simp only [Act.put, List.setIfInBounds_toArray, List.set_cons_zero, List.set_cons_succ, List.getElem_toArray, List.getElem_cons_succ, List.getElem_cons_zero]
          clear hb
          refine wpAnyH_take (i := 13) (v := ?_) rfl (by kernel_rfl) (by kernel_rfl) (by kernel_rfl) (fun _ _ _ h => h) (Or.inl ⟨by rfl, ?_⟩) hS ?_
          rotate_left
          · intro wz hz; go_simp; try with_reducible rfl
          try simp only [Act.put, List.setIfInBounds_toArray, List.set_cons_zero, List.set_cons_succ, List.getElem_toArray, List.getElem_cons_succ, List.getElem_cons_zero]
          refine wpAnyH_take (i := 14) (v := ?_) rfl (by kernel_rfl) (by kernel_rfl) (by kernel_rfl) (fun _ _ _ h => h) (Or.inl ⟨by rfl, ?_⟩) hS ?_
          rotate_left
          · intro wz hz; go_simp; try with_reducible rfl
          try simp only [Act.put, List.setIfInBounds_toArray, List.set_cons_zero, List.set_cons_succ, List.getElem_toArray, List.getElem_cons_succ, List.getElem_cons_zero]
          refine wpAnyH_done (by kernel_rfl) ?_ _
      all_goals (
        go_wp2
        go_ret
        exact ⟨ret_str (by rw [HT.out]; simp only [ByteArray.mk_append_mk, List.append_assoc]), bl_tr B1.out hS⟩)
    · have gn : ((t.ks.length : Int) != 2) = true := bne_iff_ne.2 (by omega)
      have HT : Hid (t.txt (envOf B) = [63]) := Tt.txt_bad _ (by rw [h4]; simp [Tt.fitN, hlen])
      generalize t.txt (envOf B) = res at HT hl ⊢
      clear hT0 hSl hL hk64 hn64 hcc hc hl HIH HP HL HO hB hlen h4
      go_enter Tryz.func34, Tryz.ntmps34
      go_wp2_with (first | (go_at_call 49; refine (KQ.out).mono ?_; rintro e wk ⟨rfl, hwk⟩; rw [hwk]; clear hwk wk KQ))
      go_ret
      exact ⟨ret_str (by rw [HT.out]), B1.out⟩
  by_cases h5 : t.k = 5
  · rw [show kidsOf t.k = 2 by rw [h5]; rfl] at KQ
    have g1 : (t.k == 1) = false := by simp [h5]
    have g2 : (t.k == 2) = false := by simp [h5]
    have g3 : (t.k == 3) = false := by simp [h5]
    have g6 : (t.k == 6) = false := by simp [h5]
    have g4 : (t.k == 4) = false := by simp [h5]
    have g5 : (t.k == 5) = true := by simp [h5]
    have g7 : (t.k == 7) = false := by simp [h5]
    have g8 : (t.k == 8) = false := by simp [h5]
    have g10 : (t.k == 10) = false := by simp [h5]
    have g11 : (t.k == 11) = false := by simp [h5]
    by_cases hlen : t.ks.length = 2
    · have gn : ((t.ks.length : Int) != 2) = false := by simp [hlen]
      have hfit := (show Tt.fitN t.k t.ks.length t.ls.length = true by rw [h5]; simp [Tt.fitN, hlen])
      have hT1 := Tt.txt_fit (envOf B) hfit
      clear hfit
      obtain ⟨x, y, hxy⟩ := Tt.two hlen
      have hx : t.ks[0]? = some x := by rw [hxy]; rfl
      have hy : t.ks[1]? = some y := by rw [hxy]; rfl
      have HT : Hid (t.txt (envOf B) = [40] ++ Tt.clo x.k (x.txt (envOf B)) ++ [32, 42, 32] ++ Tt.clo y.k (y.txt (envOf B)) ++ [41]) := by show _ = _; rw [hT1, env_not (by rw [h5]; rfl), hxy, Tt.txtL2]; simp [h5]
      have hlT := congrArg List.length HT.out
      simp only [List.length_append, List.length_cons, List.length_nil] at hlT
      have hcx := Tt.cnt_at hx
      have hcy := Tt.cnt_at hy
      obtain ⟨kb, ko, k1, k2, k3, k4, rfl, hcap, q0, q1, q2, q3, hTx⟩ := (HL.out _ B1.out).load hx
      obtain ⟨kb2, ko2, m1, m2, m3, m4, hko, -, r0, r1, r2, r3, hTy⟩ := (HL.out _ B1.out).load hy
      injection hko with hko
      injection hko with e1 e2
      subst e1 e2
      simp only [Nat.zero_mul, Nat.add_zero, Nat.one_mul, Nat.add_assoc, Nat.reduceAdd] at q0 q1 q2 q3 r0 r1 r2 r3
      have KC : Hid (∀ wz, Below (w.alloc (.cells #[.int .i64 t.k, .int .i64 t.n, .slice a' t.ls.length c', .slice (some ⟨kb, ko, none⟩) t.ks.length c] TY)).heap.size (w.alloc (.cells #[.int .i64 t.k, .int .i64 t.n, .slice a' t.ls.length c', .slice (some ⟨kb, ko, none⟩) t.ks.length c] TY)) wz → (wz.cell? ⟨kb, ko, none⟩ = some (.int .i64 x.k) ∧ wz.cell? ⟨kb, ko + 1, none⟩ = some (.int .i64 x.n) ∧ wz.cell? ⟨kb, ko + 2, none⟩ = some (.slice k1 x.ls.length k2) ∧ wz.cell? ⟨kb, ko + 3, none⟩ = some (.slice k3 x.ks.length k4)) ∧ wz.cell? ⟨kb, ko + 4, none⟩ = some (.int .i64 y.k) ∧ wz.cell? ⟨kb, ko + 5, none⟩ = some (.int .i64 y.n) ∧ wz.cell? ⟨kb, ko + 6, none⟩ = some (.slice m1 y.ls.length m2) ∧ wz.cell? ⟨kb, ko + 7, none⟩ = some (.slice m3 y.ks.length m4)) := fun wz hz => ⟨⟨cell_on hz q0, cell_on hz q1, cell_on hz q2, cell_on hz q3⟩, cell_on hz r0, cell_on hz r1, cell_on hz r2, cell_on hz r3⟩
      have XQ : Hid (∀ wz, Below (w.alloc (.cells #[.int .i64 t.k, .int .i64 t.n, .slice a' t.ls.length c', .slice (some ⟨kb, ko, none⟩) t.ks.length c] TY)).heap.size (w.alloc (.cells #[.int .i64 t.k, .int .i64 t.n, .slice a' t.ls.length c', .slice (some ⟨kb, ko, none⟩) t.ks.length c] TY)) wz → Calls Tryz.prog 70 #[.agg #[.int .i64 x.k, .int .i64 x.n, .slice k1 x.ls.length k2, .slice k3 x.ks.length k4], bv] wz fun e w' => e = .returned (.string ⟨(Tt.clo x.k (x.txt (envOf B))).toArray⟩) ∧ Below wz.heap.size wz w') := fun wz hz => HP.out wz k1 k2 k3 k4 x bv B (hTx.below hz) (HO.out _ (bl_tr B1.out hz)) (by omega) (by omega)
      have YQ : Hid (∀ wz, Below (w.alloc (.cells #[.int .i64 t.k, .int .i64 t.n, .slice a' t.ls.length c', .slice (some ⟨kb, ko, none⟩) t.ks.length c] TY)).heap.size (w.alloc (.cells #[.int .i64 t.k, .int .i64 t.n, .slice a' t.ls.length c', .slice (some ⟨kb, ko, none⟩) t.ks.length c] TY)) wz → Calls Tryz.prog 70 #[.agg #[.int .i64 y.k, .int .i64 y.n, .slice m1 y.ls.length m2, .slice m3 y.ks.length m4], bv] wz fun e w' => e = .returned (.string ⟨(Tt.clo y.k (y.txt (envOf B))).toArray⟩) ∧ Below wz.heap.size wz w') := fun wz hz => HP.out wz m1 m2 m3 m4 y bv B (hTy.below hz) (HO.out _ (bl_tr B1.out hz)) (by omega) (by omega)
      generalize Tt.clo x.k (x.txt (envOf B)) = P at HT hlT XQ
      generalize Tt.clo y.k (y.txt (envOf B)) = Q at HT hlT YQ
      generalize t.txt (envOf B) = res at HT hT1 hl hlT ⊢
      have hs1 : ¬ 9223372036854775807 < 1 + P.length := by omega
      have hs2 : ¬ 9223372036854775807 < 1 + P.length + 3 := by omega
      have hs3 : ¬ 9223372036854775807 < 1 + P.length + 3 + Q.length := by omega
      have hs4 : ¬ 9223372036854775807 < 1 + P.length + 3 + Q.length + 1 := by omega
      have hl2 : (1 : Int) < t.ks.length := by omega
      have hl4 : 1 < t.ks.length := by omega
      have hl3 : (0 : Int) < t.ks.length := by omega
      have hl5 : 0 < t.ks.length := by omega
      clear hT0 hSl hL hk64 hn64 hcc hc hl HIH HP HL HO hB hT1 hlen h5 hxy hx hy hcx hcy hlT hTx hTy q0 q1 q2 q3 r0 r1 r2 r3
      go_enter Tryz.func34, Tryz.ntmps34
      go_wp2_with (first | (go_at_call 49; refine (KQ.out).mono ?_; rintro e wk ⟨rfl, hwk⟩; rw [hwk]; clear hwk wk KQ))
      refine wp_region_held_drew (S := fun wz => Below (w.alloc (.cells #[.int .i64 t.k, .int .i64 t.n, .slice a' t.ls.length c', .slice (some ⟨kb, ko, none⟩) t.ks.length c] TY)).heap.size (w.alloc (.cells #[.int .i64 t.k, .int .i64 t.n, .slice a' t.ls.length c', .slice (some ⟨kb, ko, none⟩) t.ks.length c] TY)) wz) (by kernel_rfl) ((Below.refl _ _).drew) (fun hS => ?_)
      generalize (w.alloc (.cells #[.int .i64 t.k, .int .i64 t.n, .slice a' t.ls.length c', .slice (some ⟨kb, ko, none⟩) t.ks.length c] TY)).drew = wc0 at hS   ⊢
      refine wpAnyH_take (i := 0) (v := ?_) rfl (by kernel_rfl) (by kernel_rfl) (by kernel_rfl) (fun _ _ _ h => h) (Or.inl ⟨by rfl, ?_⟩) hS ?_
      rotate_left
      · intro wz hz; go_simp; try with_reducible rfl
      try simp only [Act.put, List.setIfInBounds_toArray, List.set_cons_zero, List.set_cons_succ, List.getElem_toArray, List.getElem_cons_succ, List.getElem_cons_zero]
      refine wpAnyH_take (i := 1) (v := ?_) rfl (by kernel_rfl) (by kernel_rfl) (by kernel_rfl) (fun _ _ _ h => h) (Or.inl ⟨by rfl, ?_⟩) hS ?_
      rotate_left
      · intro wz hz; have yy0 := HX.out wz hz; have yy1 := KC.out wz hz; go_simp; try with_reducible rfl
      try simp only [Act.put, List.setIfInBounds_toArray, List.set_cons_zero, List.set_cons_succ, List.getElem_toArray, List.getElem_cons_succ, List.getElem_cons_zero]
      refine wpAnyH_take (i := 2) (v := ?_) rfl (by kernel_rfl) (by kernel_rfl) (by kernel_rfl) (fun _ _ _ h => h) (Or.inl ⟨by rfl, ?_⟩) hS ?_
      rotate_left
      · intro wz hz; go_simp; try with_reducible rfl
      try simp only [Act.put, List.setIfInBounds_toArray, List.set_cons_zero, List.set_cons_succ, List.getElem_toArray, List.getElem_cons_succ, List.getElem_cons_zero]
      refine wpAnyH_take (i := 3) (v := ?_) rfl (by kernel_rfl) (by kernel_rfl) (by kernel_rfl) (fun _ _ _ h => h) (Or.inl ⟨by rfl, ?_⟩) hS ?_
      rotate_left
      · intro wz hz; have yy0 := HX.out wz hz; have yy1 := KC.out wz hz; go_simp; try with_reducible rfl
      try simp only [Act.put, List.setIfInBounds_toArray, List.set_cons_zero, List.set_cons_succ, List.getElem_toArray, List.getElem_cons_succ, List.getElem_cons_zero]
      refine wpAnyH_take (i := 4) (v := ?_) rfl (by kernel_rfl) (by kernel_rfl) (by kernel_rfl) (fun _ _ _ h => h) (Or.inl ⟨by rfl, ?_⟩) hS ?_
      rotate_left
      · intro wz hz; go_simp; try with_reducible rfl
      try simp only [Act.put, List.setIfInBounds_toArray, List.set_cons_zero, List.set_cons_succ, List.getElem_toArray, List.getElem_cons_succ, List.getElem_cons_zero]
      refine wpAnyH_take (i := 8) (v := ?_) rfl (by kernel_rfl) (by kernel_rfl) (by kernel_rfl) (fun _ _ _ h => h) (Or.inl ⟨by rfl, ?_⟩) hS ?_
      rotate_left
      · intro wz hz; go_simp; try with_reducible rfl
      try simp only [Act.put, List.setIfInBounds_toArray, List.set_cons_zero, List.set_cons_succ, List.getElem_toArray, List.getElem_cons_succ, List.getElem_cons_zero]
      refine wpAnyH_take (i := 9) (v := ?_) rfl (by kernel_rfl) (by kernel_rfl) (by kernel_rfl) (fun _ _ _ h => h) (Or.inl ⟨by rfl, ?_⟩) hS ?_
      rotate_left
      · intro wz hz; have yy0 := HX.out wz hz; have yy1 := KC.out wz hz; go_simp; try with_reducible rfl
      try simp only [Act.put, List.setIfInBounds_toArray, List.set_cons_zero, List.set_cons_succ, List.getElem_toArray, List.getElem_cons_succ, List.getElem_cons_zero]
      refine wpAnyH_take (i := 10) (v := ?_) rfl (by kernel_rfl) (by kernel_rfl) (by kernel_rfl) (fun _ _ _ h => h) (Or.inl ⟨by rfl, ?_⟩) hS ?_
      rotate_left
      · intro wz hz; go_simp; try with_reducible rfl
      try simp only [Act.put, List.setIfInBounds_toArray, List.set_cons_zero, List.set_cons_succ, List.getElem_toArray, List.getElem_cons_succ, List.getElem_cons_zero]
      refine wpAnyH_take (i := 11) (v := ?_) rfl (by kernel_rfl) (by kernel_rfl) (by kernel_rfl) (fun _ _ _ h => h) (Or.inl ⟨by rfl, ?_⟩) hS ?_
      rotate_left
      · intro wz hz; have yy0 := HX.out wz hz; have yy1 := KC.out wz hz; go_simp; try with_reducible rfl
      try simp only [Act.put, List.setIfInBounds_toArray, List.set_cons_zero, List.set_cons_succ, List.getElem_toArray, List.getElem_cons_succ, List.getElem_cons_zero]
      refine wpAnyH_take (i := 12) (v := ?_) rfl (by kernel_rfl) (by kernel_rfl) (by kernel_rfl) (fun _ _ _ h => h) (Or.inl ⟨by rfl, ?_⟩) hS ?_
      rotate_left
      · intro wz hz; go_simp; try with_reducible rfl
      try simp only [Act.put, List.setIfInBounds_toArray, List.set_cons_zero, List.set_cons_succ, List.getElem_toArray, List.getElem_cons_succ, List.getElem_cons_zero]
      refine wpAnyH_ready (rs := [5]) (by kernel_rfl) (by simp) (AllReadyH.cons rfl (fun K hK => ?a3_5) AllReadyH.nil)
      case' a3_5 =>
        go_simp
        refine (XQ.out wc0 hS).mono ?_
        rintro e wc1 ⟨rfl, hb⟩
        refine hK.out _ _ (bl_on hS hb) (fun hSn => ?_)
        clear hK K hS
        have hS := hSn
        clear hSn
        try simp only [Act.put, List.setIfInBounds_toArray, List.set_cons_zero, List.set_cons_succ, List.getElem_toArray, List.getElem_cons_succ, List.getElem_cons_zero]
        clear hb
        refine wpAnyH_take (i := 6) (v := ?_) rfl (by kernel_rfl) (by kernel_rfl) (by kernel_rfl) (fun _ _ _ h => h) (Or.inl ⟨by rfl, ?_⟩) hS ?_
        rotate_left
        · intro wz hz; go_simp; try with_reducible rfl
        try simp only [Act.put, List.setIfInBounds_toArray, List.set_cons_zero, List.set_cons_succ, List.getElem_toArray, List.getElem_cons_succ, List.getElem_cons_zero]
        refine wpAnyH_take (i := 7) (v := ?_) rfl (by kernel_rfl) (by kernel_rfl) (by kernel_rfl) (fun _ _ _ h => h) (Or.inl ⟨by rfl, ?_⟩) hS ?_
        rotate_left
        · intro wz hz; go_simp; try with_reducible rfl
        try simp only [Act.put, List.setIfInBounds_toArray, List.set_cons_zero, List.set_cons_succ, List.getElem_toArray, List.getElem_cons_succ, List.getElem_cons_zero]
        refine wpAnyH_ready (rs := [13]) (by kernel_rfl) (by simp) (AllReadyH.cons rfl (fun K hK => ?a4_13) AllReadyH.nil)
        case' a4_13 =>
          go_simp
          refine (YQ.out wc1 hS).mono ?_
          rintro e wc2 ⟨rfl, hb⟩
          refine hK.out _ _ (bl_on hS hb) (fun hSn => ?_)
          clear hK K hS
          have hS := hSn
          clear hSn
          try simp only [Act.put, List.setIfInBounds_toArray, List.set_cons_zero, List.set_cons_succ, List.getElem_toArray, List.getElem_cons_succ, List.getElem_cons_zero]
          clear hb
          refine wpAnyH_take (i := 14) (v := ?_) rfl (by kernel_rfl) (by kernel_rfl) (by kernel_rfl) (fun _ _ _ h => h) (Or.inl ⟨by rfl, ?_⟩) hS ?_
          rotate_left
          · intro wz hz; go_simp; try with_reducible rfl
          try simp only [Act.put, List.setIfInBounds_toArray, List.set_cons_zero, List.set_cons_succ, List.getElem_toArray, List.getElem_cons_succ, List.getElem_cons_zero]
          refine wpAnyH_take (i := 15) (v := ?_) rfl (by kernel_rfl) (by kernel_rfl) (by kernel_rfl) (fun _ _ _ h => h) (Or.inl ⟨by rfl, ?_⟩) hS ?_
          rotate_left
          · intro wz hz; go_simp; try with_reducible rfl
          try simp only [Act.put, List.setIfInBounds_toArray, List.set_cons_zero, List.set_cons_succ, List.getElem_toArray, List.getElem_cons_succ, List.getElem_cons_zero]
          refine wpAnyH_take (i := 16) (v := ?_) rfl (by kernel_rfl) (by kernel_rfl) (by kernel_rfl) (fun _ _ _ h => h) (Or.inl ⟨by rfl, ?_⟩) hS ?_
          rotate_left
          · intro wz hz; go_simp; try with_reducible rfl
          try simp only [Act.put, List.setIfInBounds_toArray, List.set_cons_zero, List.set_cons_succ, List.getElem_toArray, List.getElem_cons_succ, List.getElem_cons_zero]
          refine wpAnyH_done (by kernel_rfl) ?_ _
      all_goals (
        go_wp2
        go_ret
        exact ⟨ret_str (by rw [HT.out]; simp only [ByteArray.mk_append_mk, List.append_assoc]), bl_tr B1.out hS⟩)
    · have gn : ((t.ks.length : Int) != 2) = true := bne_iff_ne.2 (by omega)
      have HT : Hid (t.txt (envOf B) = [63]) := Tt.txt_bad _ (by rw [h5]; simp [Tt.fitN, hlen])
      generalize t.txt (envOf B) = res at HT hl ⊢
      clear hT0 hSl hL hk64 hn64 hcc hc hl HIH HP HL HO hB hlen h5
      go_enter Tryz.func34, Tryz.ntmps34
      go_wp2_with (first | (go_at_call 49; refine (KQ.out).mono ?_; rintro e wk ⟨rfl, hwk⟩; rw [hwk]; clear hwk wk KQ))
      go_ret
      exact ⟨ret_str (by rw [HT.out]), B1.out⟩
  by_cases h7 : t.k = 7
  · rw [show kidsOf t.k = -1 by rw [h7]; rfl] at KQ
    have g1 : (t.k == 1) = false := by simp [h7]
    have g2 : (t.k == 2) = false := by simp [h7]
    have g3 : (t.k == 3) = false := by simp [h7]
    have g6 : (t.k == 6) = false := by simp [h7]
    have g4 : (t.k == 4) = false := by simp [h7]
    have g5 : (t.k == 5) = false := by simp [h7]
    have g7 : (t.k == 7) = true := by simp [h7]
    have g8 : (t.k == 8) = false := by simp [h7]
    have g10 : (t.k == 10) = false := by simp [h7]
    have g11 : (t.k == 11) = false := by simp [h7]
    by_cases hlen : t.ls.length = t.ks.length
    · have gn : ((t.ls.length : Int) != (t.ks.length : Int)) = false := by simp [hlen]
      have hfit := (show Tt.fitN t.k t.ks.length t.ls.length = true by rw [h7]; simp [Tt.fitN, hlen])
      have hT1 := Tt.txt_fit (envOf B) hfit
      clear hfit
      have HT : Hid (t.txt (envOf B) = [123] ++ Tt.recT 0 t.ls (Tt.txtL t.ks (envOf B)) ++ [125]) := by show _ = _; rw [hT1, env_not (by rw [h7]; rfl)]; simp [h7]
      have LQ := hid (list_rec n HP.out (w.alloc (.cells #[.int .i64 t.k, .int .i64 t.n, .slice a' t.ls.length c', .slice a t.ks.length c] TY)) a' c' a c t bv B (hT0.below B1.out) (HO.out _ B1.out) hc h7 hlen (by rw [← HT.out]; exact hl))
      rw [← HT.out] at LQ
      generalize t.txt (envOf B) = res at LQ HT hT1 hl ⊢
      clear hT0 hSl hL hk64 hn64 hcc hc hl HIH HP HL HO hB hT1 hlen h7 HT
      go_enter Tryz.func34, Tryz.ntmps34
      go_wp2_with (first | (go_at_call 49; refine (KQ.out).mono ?_; rintro e wk ⟨rfl, hwk⟩; rw [hwk]; clear hwk wk KQ) | (go_at_call 71; refine (LQ.out).mono ?_; rintro e w3 ⟨rfl, b3⟩; clear LQ))
      go_ret
      exact ⟨rfl, bl_tr B1.out b3⟩
    · have gn : ((t.ls.length : Int) != (t.ks.length : Int)) = true := bne_iff_ne.2 (by omega)
      have HT : Hid (t.txt (envOf B) = [63]) := Tt.txt_bad _ (by rw [h7]; simp [Tt.fitN, hlen])
      generalize t.txt (envOf B) = res at HT hl ⊢
      clear hT0 hSl hL hk64 hn64 hcc hc hl HIH HP HL HO hB hlen h7
      go_enter Tryz.func34, Tryz.ntmps34
      go_wp2_with (first | (go_at_call 49; refine (KQ.out).mono ?_; rintro e wk ⟨rfl, hwk⟩; rw [hwk]; clear hwk wk KQ))
      go_ret
      exact ⟨ret_str (by rw [HT.out]), B1.out⟩
  by_cases h8 : t.k = 8
  · rw [show kidsOf t.k = -1 by rw [h8]; rfl] at KQ
    have g1 : (t.k == 1) = false := by simp [h8]
    have g2 : (t.k == 2) = false := by simp [h8]
    have g3 : (t.k == 3) = false := by simp [h8]
    have g6 : (t.k == 6) = false := by simp [h8]
    have g4 : (t.k == 4) = false := by simp [h8]
    have g5 : (t.k == 5) = false := by simp [h8]
    have g7 : (t.k == 7) = false := by simp [h8]
    have g8 : (t.k == 8) = true := by simp [h8]
    have g10 : (t.k == 10) = false := by simp [h8]
    have g11 : (t.k == 11) = false := by simp [h8]
    ·
      have hfit := (show Tt.fitN t.k t.ks.length t.ls.length = true by rw [h8]; simp [Tt.fitN])
      have hT1 := Tt.txt_fit (envOf B) hfit
      clear hfit
      have HT : Hid (t.txt (envOf B) = [91] ++ Tt.sumT 0 (Tt.txtL t.ks (envOf B)) ++ [93]) := by show _ = _; rw [hT1, env_not (by rw [h8]; rfl)]; simp [h8]
      have LQ := hid (list_sum n HP.out (w.alloc (.cells #[.int .i64 t.k, .int .i64 t.n, .slice a' t.ls.length c', .slice a t.ks.length c] TY)) a' c' a c t bv B (hT0.below B1.out) (HO.out _ B1.out) hc h8  (by rw [← HT.out]; exact hl))
      rw [← HT.out] at LQ
      generalize t.txt (envOf B) = res at LQ HT hT1 hl ⊢
      clear hT0 hSl hL hk64 hn64 hcc hc hl HIH HP HL HO hB hT1  h8 HT
      go_enter Tryz.func34, Tryz.ntmps34
      go_wp2_with (first | (go_at_call 49; refine (KQ.out).mono ?_; rintro e wk ⟨rfl, hwk⟩; rw [hwk]; clear hwk wk KQ) | (go_at_call 71; refine (LQ.out).mono ?_; rintro e w3 ⟨rfl, b3⟩; clear LQ))
      go_ret
      exact ⟨rfl, bl_tr B1.out b3⟩
  by_cases h9 : t.k = 9
  · rw [show kidsOf t.k = 1 by rw [h9]; rfl] at KQ
    have g1 : (t.k == 1) = false := by simp [h9]
    have g2 : (t.k == 2) = false := by simp [h9]
    have g3 : (t.k == 3) = false := by simp [h9]
    have g6 : (t.k == 6) = false := by simp [h9]
    have g4 : (t.k == 4) = false := by simp [h9]
    have g5 : (t.k == 5) = false := by simp [h9]
    have g7 : (t.k == 7) = false := by simp [h9]
    have g8 : (t.k == 8) = false := by simp [h9]
    have g10 : (t.k == 10) = false := by simp [h9]
    have g11 : (t.k == 11) = false := by simp [h9]
    by_cases hlen : t.ks.length = 1
    · have gn : ((t.ks.length : Int) != 1) = false := by simp [hlen]
      have hfit := (show Tt.fitN t.k t.ks.length t.ls.length = true by rw [h9]; simp [Tt.fitN, hlen])
      have hT1 := Tt.txt_fit (envOf B) hfit
      clear hfit
      obtain ⟨x, hxy⟩ := Tt.one' hlen
      have hx : t.ks[0]? = some x := by rw [hxy]; rfl
      have HT : Hid (t.txt (envOf B) = [109, 117] ++ [32] ++ ([116] ++ Lib.itoa B.length) ++ [46, 32] ++ x.txt (envOf (B ++ [t.n]))) := by show _ = _; rw [hT1, env_is (by rw [h9]; rfl), hxy, Tt.txtL1, envOf_len]; simp [h9, Tt.word]
      have hlT := congrArg List.length HT.out
      simp only [List.length_append, List.length_cons, List.length_nil] at hlT
      have hcx := Tt.cnt_at hx
      obtain ⟨kb, ko, k1, k2, k3, k4, rfl, hcap, q0, q1, q2, q3, hTx⟩ := (HL.out _ B1.out).load hx
      simp only [Nat.zero_mul, Nat.add_zero] at q0 q1 q2 q3
      obtain ⟨ba, bc, rfl, hbm, -, -⟩ := hB.form
      have hB64 : R64 (B.length : Int) := by unfold R64; omega
      have KC : Hid (∀ wz, Below (w.alloc (.cells #[.int .i64 t.k, .int .i64 t.n, .slice a' t.ls.length c', .slice (some ⟨kb, ko, none⟩) t.ks.length c] TY)).heap.size (w.alloc (.cells #[.int .i64 t.k, .int .i64 t.n, .slice a' t.ls.length c', .slice (some ⟨kb, ko, none⟩) t.ks.length c] TY)) wz → wz.cell? ⟨kb, ko, none⟩ = some (.int .i64 x.k) ∧ wz.cell? ⟨kb, ko + 1, none⟩ = some (.int .i64 x.n) ∧ wz.cell? ⟨kb, ko + 2, none⟩ = some (.slice k1 x.ls.length k2) ∧ wz.cell? ⟨kb, ko + 3, none⟩ = some (.slice k3 x.ks.length k4)) := fun wz hz => ⟨cell_on hz q0, cell_on hz q1, cell_on hz q2, cell_on hz q3⟩
      have DQ : Hid (∀ wz, Below (w.alloc (.cells #[.int .i64 t.k, .int .i64 t.n, .slice a' t.ls.length c', .slice (some ⟨kb, ko, none⟩) t.ks.length c] TY)).heap.size (w.alloc (.cells #[.int .i64 t.k, .int .i64 t.n, .slice a' t.ls.length c', .slice (some ⟨kb, ko, none⟩) t.ks.length c] TY)) wz → Calls Tryz.prog 69 #[.int .i64 (B.length : Int)] wz fun e w' => e = .returned (.string ⟨(Lib.itoa B.length).toArray⟩) ∧ Below wz.heap.size wz w') := fun wz _ => Decimal_any wz _ hB64
      have WQ : Hid (∀ wz, Below (w.alloc (.cells #[.int .i64 t.k, .int .i64 t.n, .slice a' t.ls.length c', .slice (some ⟨kb, ko, none⟩) t.ks.length c] TY)).heap.size (w.alloc (.cells #[.int .i64 t.k, .int .i64 t.n, .slice a' t.ls.length c', .slice (some ⟨kb, ko, none⟩) t.ks.length c] TY)) wz → Calls Tryz.prog 58 #[.slice ba B.length bc, .int .i64 t.n] wz fun e w' => ∃ v', e = .returned v' ∧ Ow w' v' (B ++ [t.n]) ∧ Below wz.heap.size wz w') := fun wz hz => with_any wz _ B t.n (HO.out _ (bl_tr B1.out hz)) (by omega)
      have XQ : Hid (∀ wz v2, Below (w.alloc (.cells #[.int .i64 t.k, .int .i64 t.n, .slice a' t.ls.length c', .slice (some ⟨kb, ko, none⟩) t.ks.length c] TY)).heap.size (w.alloc (.cells #[.int .i64 t.k, .int .i64 t.n, .slice a' t.ls.length c', .slice (some ⟨kb, ko, none⟩) t.ks.length c] TY)) wz → Ow wz v2 (B ++ [t.n]) → Calls Tryz.prog 34 #[.agg #[.int .i64 x.k, .int .i64 x.n, .slice k1 x.ls.length k2, .slice k3 x.ks.length k4], v2] wz fun e w' => e = .returned (.string ⟨(x.txt (envOf (B ++ [t.n]))).toArray⟩) ∧ Below wz.heap.size wz w') := fun wz v2 hz ho => HIH.out wz k1 k2 k3 k4 x v2 (B ++ [t.n]) (hTx.below hz) ho (by rw [List.length_append]; simp only [List.length_cons, List.length_nil]; omega) (by omega)
      generalize x.txt (envOf (B ++ [t.n])) = Q at HT hlT XQ
      generalize Lib.itoa B.length = D at HT hlT DQ
      generalize t.txt (envOf B) = res at HT hT1 hl hlT ⊢
      have hs1 : ¬ 9223372036854775807 < 4 + D.length := by omega
      have hs2 : ¬ 9223372036854775807 < 4 + D.length + 2 := by omega
      have hs3 : ¬ 9223372036854775807 < 4 + D.length + 2 + Q.length := by omega
      have hl3 : (0 : Int) < t.ks.length := by omega
      have hl5 : 0 < t.ks.length := by omega
      clear hT0 hSl hL hk64 hn64 hcc hc hl HIH HP HL HO hB hT1 hlen h9 hxy hx hcx hlT hTx q0 q1 q2 q3 hbm hB64
      go_enter Tryz.func34, Tryz.ntmps34
      go_wp2_with (first | (go_at_call 49; refine (KQ.out).mono ?_; rintro e wk ⟨rfl, hwk⟩; rw [hwk]; clear hwk wk KQ))
      refine wp_region_held_drew (S := fun wz => Below (w.alloc (.cells #[.int .i64 t.k, .int .i64 t.n, .slice a' t.ls.length c', .slice (some ⟨kb, ko, none⟩) t.ks.length c] TY)).heap.size (w.alloc (.cells #[.int .i64 t.k, .int .i64 t.n, .slice a' t.ls.length c', .slice (some ⟨kb, ko, none⟩) t.ks.length c] TY)) wz) (by kernel_rfl) ((Below.refl _ _).drew) (fun hS => ?_)
      generalize (w.alloc (.cells #[.int .i64 t.k, .int .i64 t.n, .slice a' t.ls.length c', .slice (some ⟨kb, ko, none⟩) t.ks.length c] TY)).drew = wc0 at hS   ⊢
      refine wpAnyH_take (i := 0) (v := ?_) rfl (by kernel_rfl) (by kernel_rfl) (by kernel_rfl) (fun _ _ _ h => h) (Or.inl ⟨by rfl, ?_⟩) hS ?_
      rotate_left
      · intro wz hz; go_simp; try with_reducible rfl
      try simp only [Act.put, List.setIfInBounds_toArray, List.set_cons_zero, List.set_cons_succ, List.getElem_toArray, List.getElem_cons_succ, List.getElem_cons_zero]
      refine wpAnyH_take (i := 1) (v := ?_) rfl (by kernel_rfl) (by kernel_rfl) (by kernel_rfl) (fun _ _ _ h => h) (Or.inl ⟨by rfl, ?_⟩) hS ?_
      rotate_left
      · intro wz hz; go_simp; try with_reducible rfl
      try simp only [Act.put, List.setIfInBounds_toArray, List.set_cons_zero, List.set_cons_succ, List.getElem_toArray, List.getElem_cons_succ, List.getElem_cons_zero]
      refine wpAnyH_take (i := 2) (v := ?_) rfl (by kernel_rfl) (by kernel_rfl) (by kernel_rfl) (fun _ _ _ h => h) (Or.inl ⟨by rfl, ?_⟩) hS ?_
      rotate_left
      · intro wz hz; go_simp; try with_reducible rfl
      try simp only [Act.put, List.setIfInBounds_toArray, List.set_cons_zero, List.set_cons_succ, List.getElem_toArray, List.getElem_cons_succ, List.getElem_cons_zero]
      refine wpAnyH_take (i := 3) (v := ?_) rfl (by kernel_rfl) (by kernel_rfl) (by kernel_rfl) (fun _ _ _ h => h) (Or.inl ⟨by rfl, ?_⟩) hS ?_
      rotate_left
      · intro wz hz; go_simp; try with_reducible rfl
      try simp only [Act.put, List.setIfInBounds_toArray, List.set_cons_zero, List.set_cons_succ, List.getElem_toArray, List.getElem_cons_succ, List.getElem_cons_zero]
      refine wpAnyH_take (i := 7) (v := ?_) rfl (by kernel_rfl) (by kernel_rfl) (by kernel_rfl) (fun _ _ _ h => h) (Or.inl ⟨by rfl, ?_⟩) hS ?_
      rotate_left
      · intro wz hz; go_simp; try with_reducible rfl
      try simp only [Act.put, List.setIfInBounds_toArray, List.set_cons_zero, List.set_cons_succ, List.getElem_toArray, List.getElem_cons_succ, List.getElem_cons_zero]
      refine wpAnyH_take (i := 8) (v := ?_) rfl (by kernel_rfl) (by kernel_rfl) (by kernel_rfl) (fun _ _ _ h => h) (Or.inl ⟨by rfl, ?_⟩) hS ?_
      rotate_left
      · intro wz hz; have yy0 := HX.out wz hz; have yy1 := KC.out wz hz; go_simp; try with_reducible rfl
      try simp only [Act.put, List.setIfInBounds_toArray, List.set_cons_zero, List.set_cons_succ, List.getElem_toArray, List.getElem_cons_succ, List.getElem_cons_zero]
      refine wpAnyH_take (i := 9) (v := ?_) rfl (by kernel_rfl) (by kernel_rfl) (by kernel_rfl) (fun _ _ _ h => h) (Or.inl ⟨by rfl, ?_⟩) hS ?_
      rotate_left
      · intro wz hz; go_simp; try with_reducible rfl
      try simp only [Act.put, List.setIfInBounds_toArray, List.set_cons_zero, List.set_cons_succ, List.getElem_toArray, List.getElem_cons_succ, List.getElem_cons_zero]
      refine wpAnyH_take (i := 10) (v := ?_) rfl (by kernel_rfl) (by kernel_rfl) (by kernel_rfl) (fun _ _ _ h => h) (Or.inl ⟨by rfl, ?_⟩) hS ?_
      rotate_left
      · intro wz hz; have yy0 := HX.out wz hz; have yy1 := KC.out wz hz; go_simp; try with_reducible rfl
      try simp only [Act.put, List.setIfInBounds_toArray, List.set_cons_zero, List.set_cons_succ, List.getElem_toArray, List.getElem_cons_succ, List.getElem_cons_zero]
      refine wpAnyH_take (i := 11) (v := ?_) rfl (by kernel_rfl) (by kernel_rfl) (by kernel_rfl) (fun _ _ _ h => h) (Or.inl ⟨by rfl, ?_⟩) hS ?_
      rotate_left
      · intro wz hz; go_simp; try with_reducible rfl
      try simp only [Act.put, List.setIfInBounds_toArray, List.set_cons_zero, List.set_cons_succ, List.getElem_toArray, List.getElem_cons_succ, List.getElem_cons_zero]
      refine wpAnyH_take (i := 12) (v := ?_) rfl (by kernel_rfl) (by kernel_rfl) (by kernel_rfl) (fun _ _ _ h => h) (Or.inl ⟨by rfl, ?_⟩) hS ?_
      rotate_left
      · intro wz hz; go_simp; try with_reducible rfl
      try simp only [Act.put, List.setIfInBounds_toArray, List.set_cons_zero, List.set_cons_succ, List.getElem_toArray, List.getElem_cons_succ, List.getElem_cons_zero]
      refine wpAnyH_take (i := 13) (v := ?_) rfl (by kernel_rfl) (by kernel_rfl) (by kernel_rfl) (fun _ _ _ h => h) (Or.inl ⟨by rfl, ?_⟩) hS ?_
      rotate_left
      · intro wz hz; have yy0 := HX.out wz hz; have yy1 := KC.out wz hz; go_simp; try with_reducible rfl
      try simp only [Act.put, List.setIfInBounds_toArray, List.set_cons_zero, List.set_cons_succ, List.getElem_toArray, List.getElem_cons_succ, List.getElem_cons_zero]
      refine wpAnyH_ready (rs := [4]) (by kernel_rfl) (by simp) (AllReadyH.cons rfl (fun K hK => ?a5_4) AllReadyH.nil)
      case' a5_4 =>
        go_simp
        refine (DQ.out wc0 hS).mono ?_
        rintro e wc1 ⟨rfl, hb⟩
        refine hK.out _ _ (bl_on hS hb) (fun hSn => ?_)
        clear hK K hS
        have hS := hSn
        clear hSn
        try simp only [Act.put, List.setIfInBounds_toArray, List.set_cons_zero, List.set_cons_succ, List.getElem_toArray, List.getElem_cons_succ, List.getElem_cons_zero]
        clear hb
        refine wpAnyH_take (i := 5) (v := ?_) rfl (by kernel_rfl) (by kernel_rfl) (by kernel_rfl) (fun _ _ _ h => h) (Or.inl ⟨by rfl, ?_⟩) hS ?_
        rotate_left
        · intro wz hz; go_simp; try with_reducible rfl
        try simp only [Act.put, List.setIfInBounds_toArray, List.set_cons_zero, List.set_cons_succ, List.getElem_toArray, List.getElem_cons_succ, List.getElem_cons_zero]
        refine wpAnyH_take (i := 6) (v := ?_) rfl (by kernel_rfl) (by kernel_rfl) (by kernel_rfl) (fun _ _ _ h => h) (Or.inl ⟨by rfl, ?_⟩) hS ?_
        rotate_left
        · intro wz hz; go_simp; try with_reducible rfl
        try simp only [Act.put, List.setIfInBounds_toArray, List.set_cons_zero, List.set_cons_succ, List.getElem_toArray, List.getElem_cons_succ, List.getElem_cons_zero]
        refine wpAnyH_ready (rs := [14]) (by kernel_rfl) (by simp) (AllReadyH.cons rfl (fun K hK => ?a6_14) AllReadyH.nil)
        case' a6_14 =>
          go_simp
          refine (WQ.out wc1 hS).mono ?_
          rintro e wc2 ⟨v2, rfl, hO2, hb⟩
          have OW := hid hO2
          clear hO2
          refine hK.out _ _ (bl_on hS hb) (fun hSn => ?_)
          clear hK K hS
          have hS := hSn
          clear hSn
          try simp only [Act.put, List.setIfInBounds_toArray, List.set_cons_zero, List.set_cons_succ, List.getElem_toArray, List.getElem_cons_succ, List.getElem_cons_zero]
          clear hb
          refine wpAnyH_ready (rs := [15]) (by kernel_rfl) (by simp) (AllReadyH.cons rfl (fun K hK => ?a7_15) AllReadyH.nil)
          case' a7_15 =>
            go_simp
            refine (XQ.out wc2 _ hS OW.out).mono ?_
            rintro e wc3 ⟨rfl, hb⟩
            refine hK.out _ _ (bl_on hS hb) (fun hSn => ?_)
            clear hK K hS
            have hS := hSn
            clear hSn
            try simp only [Act.put, List.setIfInBounds_toArray, List.set_cons_zero, List.set_cons_succ, List.getElem_toArray, List.getElem_cons_succ, List.getElem_cons_zero]
            clear hb
            refine wpAnyH_take (i := 16) (v := ?_) rfl (by kernel_rfl) (by kernel_rfl) (by kernel_rfl) (fun _ _ _ h => h) (Or.inl ⟨by rfl, ?_⟩) hS ?_
            rotate_left
            · intro wz hz; go_simp; try with_reducible rfl
            try simp only [Act.put, List.setIfInBounds_toArray, List.set_cons_zero, List.set_cons_succ, List.getElem_toArray, List.getElem_cons_succ, List.getElem_cons_zero]
            refine wpAnyH_take (i := 17) (v := ?_) rfl (by kernel_rfl) (by kernel_rfl) (by kernel_rfl) (fun _ _ _ h => h) (Or.inl ⟨by rfl, ?_⟩) hS ?_
            rotate_left
            · intro wz hz; go_simp; try with_reducible rfl
            try simp only [Act.put, List.setIfInBounds_toArray, List.set_cons_zero, List.set_cons_succ, List.getElem_toArray, List.getElem_cons_succ, List.getElem_cons_zero]
            refine wpAnyH_done (by kernel_rfl) ?_ _
      all_goals (
        go_wp2
        go_ret
        exact ⟨ret_str (by rw [HT.out]; simp only [ByteArray.mk_append_mk, List.append_assoc]; rfl), bl_tr B1.out hS⟩)
    · have gn : ((t.ks.length : Int) != 1) = true := bne_iff_ne.2 (by omega)
      have HT : Hid (t.txt (envOf B) = [63]) := Tt.txt_bad _ (by rw [h9]; simp [Tt.fitN, hlen])
      generalize t.txt (envOf B) = res at HT hl ⊢
      clear hT0 hSl hL hk64 hn64 hcc hc hl HIH HP HL HO hB hlen h9
      go_enter Tryz.func34, Tryz.ntmps34
      go_wp2_with (first | (go_at_call 49; refine (KQ.out).mono ?_; rintro e wk ⟨rfl, hwk⟩; rw [hwk]; clear hwk wk KQ))
      go_ret
      exact ⟨ret_str (by rw [HT.out]), B1.out⟩
  by_cases h10 : t.k = 10
  · rw [show kidsOf t.k = 1 by rw [h10]; rfl] at KQ
    have g1 : (t.k == 1) = false := by simp [h10]
    have g2 : (t.k == 2) = false := by simp [h10]
    have g3 : (t.k == 3) = false := by simp [h10]
    have g6 : (t.k == 6) = false := by simp [h10]
    have g4 : (t.k == 4) = false := by simp [h10]
    have g5 : (t.k == 5) = false := by simp [h10]
    have g7 : (t.k == 7) = false := by simp [h10]
    have g8 : (t.k == 8) = false := by simp [h10]
    have g10 : (t.k == 10) = true := by simp [h10]
    have g11 : (t.k == 11) = false := by simp [h10]
    by_cases hlen : t.ks.length = 1
    · have gn : ((t.ks.length : Int) != 1) = false := by simp [hlen]
      have hfit := (show Tt.fitN t.k t.ks.length t.ls.length = true by rw [h10]; simp [Tt.fitN, hlen])
      have hT1 := Tt.txt_fit (envOf B) hfit
      clear hfit
      obtain ⟨x, hxy⟩ := Tt.one' hlen
      have hx : t.ks[0]? = some x := by rw [hxy]; rfl
      have HT : Hid (t.txt (envOf B) = [97, 108, 108] ++ [32] ++ ([116] ++ Lib.itoa B.length) ++ [46, 32] ++ x.txt (envOf (B ++ [t.n]))) := by show _ = _; rw [hT1, env_is (by rw [h10]; rfl), hxy, Tt.txtL1, envOf_len]; simp [h10, Tt.word]
      have hlT := congrArg List.length HT.out
      simp only [List.length_append, List.length_cons, List.length_nil] at hlT
      have hcx := Tt.cnt_at hx
      obtain ⟨kb, ko, k1, k2, k3, k4, rfl, hcap, q0, q1, q2, q3, hTx⟩ := (HL.out _ B1.out).load hx
      simp only [Nat.zero_mul, Nat.add_zero] at q0 q1 q2 q3
      obtain ⟨ba, bc, rfl, hbm, -, -⟩ := hB.form
      have hB64 : R64 (B.length : Int) := by unfold R64; omega
      have KC : Hid (∀ wz, Below (w.alloc (.cells #[.int .i64 t.k, .int .i64 t.n, .slice a' t.ls.length c', .slice (some ⟨kb, ko, none⟩) t.ks.length c] TY)).heap.size (w.alloc (.cells #[.int .i64 t.k, .int .i64 t.n, .slice a' t.ls.length c', .slice (some ⟨kb, ko, none⟩) t.ks.length c] TY)) wz → wz.cell? ⟨kb, ko, none⟩ = some (.int .i64 x.k) ∧ wz.cell? ⟨kb, ko + 1, none⟩ = some (.int .i64 x.n) ∧ wz.cell? ⟨kb, ko + 2, none⟩ = some (.slice k1 x.ls.length k2) ∧ wz.cell? ⟨kb, ko + 3, none⟩ = some (.slice k3 x.ks.length k4)) := fun wz hz => ⟨cell_on hz q0, cell_on hz q1, cell_on hz q2, cell_on hz q3⟩
      have DQ : Hid (∀ wz, Below (w.alloc (.cells #[.int .i64 t.k, .int .i64 t.n, .slice a' t.ls.length c', .slice (some ⟨kb, ko, none⟩) t.ks.length c] TY)).heap.size (w.alloc (.cells #[.int .i64 t.k, .int .i64 t.n, .slice a' t.ls.length c', .slice (some ⟨kb, ko, none⟩) t.ks.length c] TY)) wz → Calls Tryz.prog 69 #[.int .i64 (B.length : Int)] wz fun e w' => e = .returned (.string ⟨(Lib.itoa B.length).toArray⟩) ∧ Below wz.heap.size wz w') := fun wz _ => Decimal_any wz _ hB64
      have WQ : Hid (∀ wz, Below (w.alloc (.cells #[.int .i64 t.k, .int .i64 t.n, .slice a' t.ls.length c', .slice (some ⟨kb, ko, none⟩) t.ks.length c] TY)).heap.size (w.alloc (.cells #[.int .i64 t.k, .int .i64 t.n, .slice a' t.ls.length c', .slice (some ⟨kb, ko, none⟩) t.ks.length c] TY)) wz → Calls Tryz.prog 58 #[.slice ba B.length bc, .int .i64 t.n] wz fun e w' => ∃ v', e = .returned v' ∧ Ow w' v' (B ++ [t.n]) ∧ Below wz.heap.size wz w') := fun wz hz => with_any wz _ B t.n (HO.out _ (bl_tr B1.out hz)) (by omega)
      have XQ : Hid (∀ wz v2, Below (w.alloc (.cells #[.int .i64 t.k, .int .i64 t.n, .slice a' t.ls.length c', .slice (some ⟨kb, ko, none⟩) t.ks.length c] TY)).heap.size (w.alloc (.cells #[.int .i64 t.k, .int .i64 t.n, .slice a' t.ls.length c', .slice (some ⟨kb, ko, none⟩) t.ks.length c] TY)) wz → Ow wz v2 (B ++ [t.n]) → Calls Tryz.prog 34 #[.agg #[.int .i64 x.k, .int .i64 x.n, .slice k1 x.ls.length k2, .slice k3 x.ks.length k4], v2] wz fun e w' => e = .returned (.string ⟨(x.txt (envOf (B ++ [t.n]))).toArray⟩) ∧ Below wz.heap.size wz w') := fun wz v2 hz ho => HIH.out wz k1 k2 k3 k4 x v2 (B ++ [t.n]) (hTx.below hz) ho (by rw [List.length_append]; simp only [List.length_cons, List.length_nil]; omega) (by omega)
      generalize x.txt (envOf (B ++ [t.n])) = Q at HT hlT XQ
      generalize Lib.itoa B.length = D at HT hlT DQ
      generalize t.txt (envOf B) = res at HT hT1 hl hlT ⊢
      have hs1 : ¬ 9223372036854775807 < 5 + D.length := by omega
      have hs2 : ¬ 9223372036854775807 < 5 + D.length + 2 := by omega
      have hs3 : ¬ 9223372036854775807 < 5 + D.length + 2 + Q.length := by omega
      have hl3 : (0 : Int) < t.ks.length := by omega
      have hl5 : 0 < t.ks.length := by omega
      clear hT0 hSl hL hk64 hn64 hcc hc hl HIH HP HL HO hB hT1 hlen h10 hxy hx hcx hlT hTx q0 q1 q2 q3 hbm hB64
      go_enter Tryz.func34, Tryz.ntmps34
      go_wp2_with (first | (go_at_call 49; refine (KQ.out).mono ?_; rintro e wk ⟨rfl, hwk⟩; rw [hwk]; clear hwk wk KQ))
      refine wp_region_held_drew (S := fun wz => Below (w.alloc (.cells #[.int .i64 t.k, .int .i64 t.n, .slice a' t.ls.length c', .slice (some ⟨kb, ko, none⟩) t.ks.length c] TY)).heap.size (w.alloc (.cells #[.int .i64 t.k, .int .i64 t.n, .slice a' t.ls.length c', .slice (some ⟨kb, ko, none⟩) t.ks.length c] TY)) wz) (by kernel_rfl) ((Below.refl _ _).drew) (fun hS => ?_)
      generalize (w.alloc (.cells #[.int .i64 t.k, .int .i64 t.n, .slice a' t.ls.length c', .slice (some ⟨kb, ko, none⟩) t.ks.length c] TY)).drew = wc0 at hS   ⊢
      refine wpAnyH_take (i := 0) (v := ?_) rfl (by kernel_rfl) (by kernel_rfl) (by kernel_rfl) (fun _ _ _ h => h) (Or.inl ⟨by rfl, ?_⟩) hS ?_
      rotate_left
      · intro wz hz; go_simp; try with_reducible rfl
      try simp only [Act.put, List.setIfInBounds_toArray, List.set_cons_zero, List.set_cons_succ, List.getElem_toArray, List.getElem_cons_succ, List.getElem_cons_zero]
      refine wpAnyH_take (i := 1) (v := ?_) rfl (by kernel_rfl) (by kernel_rfl) (by kernel_rfl) (fun _ _ _ h => h) (Or.inl ⟨by rfl, ?_⟩) hS ?_
      rotate_left
      · intro wz hz; go_simp; try with_reducible rfl
      try simp only [Act.put, List.setIfInBounds_toArray, List.set_cons_zero, List.set_cons_succ, List.getElem_toArray, List.getElem_cons_succ, List.getElem_cons_zero]
      refine wpAnyH_take (i := 2) (v := ?_) rfl (by kernel_rfl) (by kernel_rfl) (by kernel_rfl) (fun _ _ _ h => h) (Or.inl ⟨by rfl, ?_⟩) hS ?_
      rotate_left
      · intro wz hz; go_simp; try with_reducible rfl
      try simp only [Act.put, List.setIfInBounds_toArray, List.set_cons_zero, List.set_cons_succ, List.getElem_toArray, List.getElem_cons_succ, List.getElem_cons_zero]
      refine wpAnyH_take (i := 3) (v := ?_) rfl (by kernel_rfl) (by kernel_rfl) (by kernel_rfl) (fun _ _ _ h => h) (Or.inl ⟨by rfl, ?_⟩) hS ?_
      rotate_left
      · intro wz hz; go_simp; try with_reducible rfl
      try simp only [Act.put, List.setIfInBounds_toArray, List.set_cons_zero, List.set_cons_succ, List.getElem_toArray, List.getElem_cons_succ, List.getElem_cons_zero]
      refine wpAnyH_take (i := 7) (v := ?_) rfl (by kernel_rfl) (by kernel_rfl) (by kernel_rfl) (fun _ _ _ h => h) (Or.inl ⟨by rfl, ?_⟩) hS ?_
      rotate_left
      · intro wz hz; go_simp; try with_reducible rfl
      try simp only [Act.put, List.setIfInBounds_toArray, List.set_cons_zero, List.set_cons_succ, List.getElem_toArray, List.getElem_cons_succ, List.getElem_cons_zero]
      refine wpAnyH_take (i := 8) (v := ?_) rfl (by kernel_rfl) (by kernel_rfl) (by kernel_rfl) (fun _ _ _ h => h) (Or.inl ⟨by rfl, ?_⟩) hS ?_
      rotate_left
      · intro wz hz; have yy0 := HX.out wz hz; have yy1 := KC.out wz hz; go_simp; try with_reducible rfl
      try simp only [Act.put, List.setIfInBounds_toArray, List.set_cons_zero, List.set_cons_succ, List.getElem_toArray, List.getElem_cons_succ, List.getElem_cons_zero]
      refine wpAnyH_take (i := 9) (v := ?_) rfl (by kernel_rfl) (by kernel_rfl) (by kernel_rfl) (fun _ _ _ h => h) (Or.inl ⟨by rfl, ?_⟩) hS ?_
      rotate_left
      · intro wz hz; go_simp; try with_reducible rfl
      try simp only [Act.put, List.setIfInBounds_toArray, List.set_cons_zero, List.set_cons_succ, List.getElem_toArray, List.getElem_cons_succ, List.getElem_cons_zero]
      refine wpAnyH_take (i := 10) (v := ?_) rfl (by kernel_rfl) (by kernel_rfl) (by kernel_rfl) (fun _ _ _ h => h) (Or.inl ⟨by rfl, ?_⟩) hS ?_
      rotate_left
      · intro wz hz; have yy0 := HX.out wz hz; have yy1 := KC.out wz hz; go_simp; try with_reducible rfl
      try simp only [Act.put, List.setIfInBounds_toArray, List.set_cons_zero, List.set_cons_succ, List.getElem_toArray, List.getElem_cons_succ, List.getElem_cons_zero]
      refine wpAnyH_take (i := 11) (v := ?_) rfl (by kernel_rfl) (by kernel_rfl) (by kernel_rfl) (fun _ _ _ h => h) (Or.inl ⟨by rfl, ?_⟩) hS ?_
      rotate_left
      · intro wz hz; go_simp; try with_reducible rfl
      try simp only [Act.put, List.setIfInBounds_toArray, List.set_cons_zero, List.set_cons_succ, List.getElem_toArray, List.getElem_cons_succ, List.getElem_cons_zero]
      refine wpAnyH_take (i := 12) (v := ?_) rfl (by kernel_rfl) (by kernel_rfl) (by kernel_rfl) (fun _ _ _ h => h) (Or.inl ⟨by rfl, ?_⟩) hS ?_
      rotate_left
      · intro wz hz; go_simp; try with_reducible rfl
      try simp only [Act.put, List.setIfInBounds_toArray, List.set_cons_zero, List.set_cons_succ, List.getElem_toArray, List.getElem_cons_succ, List.getElem_cons_zero]
      refine wpAnyH_take (i := 13) (v := ?_) rfl (by kernel_rfl) (by kernel_rfl) (by kernel_rfl) (fun _ _ _ h => h) (Or.inl ⟨by rfl, ?_⟩) hS ?_
      rotate_left
      · intro wz hz; have yy0 := HX.out wz hz; have yy1 := KC.out wz hz; go_simp; try with_reducible rfl
      try simp only [Act.put, List.setIfInBounds_toArray, List.set_cons_zero, List.set_cons_succ, List.getElem_toArray, List.getElem_cons_succ, List.getElem_cons_zero]
      refine wpAnyH_ready (rs := [4]) (by kernel_rfl) (by simp) (AllReadyH.cons rfl (fun K hK => ?a8_4) AllReadyH.nil)
      case' a8_4 =>
        go_simp
        refine (DQ.out wc0 hS).mono ?_
        rintro e wc1 ⟨rfl, hb⟩
        refine hK.out _ _ (bl_on hS hb) (fun hSn => ?_)
        clear hK K hS
        have hS := hSn
        clear hSn
        try simp only [Act.put, List.setIfInBounds_toArray, List.set_cons_zero, List.set_cons_succ, List.getElem_toArray, List.getElem_cons_succ, List.getElem_cons_zero]
        clear hb
        refine wpAnyH_take (i := 5) (v := ?_) rfl (by kernel_rfl) (by kernel_rfl) (by kernel_rfl) (fun _ _ _ h => h) (Or.inl ⟨by rfl, ?_⟩) hS ?_
        rotate_left
        · intro wz hz; go_simp; try with_reducible rfl
        try simp only [Act.put, List.setIfInBounds_toArray, List.set_cons_zero, List.set_cons_succ, List.getElem_toArray, List.getElem_cons_succ, List.getElem_cons_zero]
        refine wpAnyH_take (i := 6) (v := ?_) rfl (by kernel_rfl) (by kernel_rfl) (by kernel_rfl) (fun _ _ _ h => h) (Or.inl ⟨by rfl, ?_⟩) hS ?_
        rotate_left
        · intro wz hz; go_simp; try with_reducible rfl
        try simp only [Act.put, List.setIfInBounds_toArray, List.set_cons_zero, List.set_cons_succ, List.getElem_toArray, List.getElem_cons_succ, List.getElem_cons_zero]
        refine wpAnyH_ready (rs := [14]) (by kernel_rfl) (by simp) (AllReadyH.cons rfl (fun K hK => ?a9_14) AllReadyH.nil)
        case' a9_14 =>
          go_simp
          refine (WQ.out wc1 hS).mono ?_
          rintro e wc2 ⟨v2, rfl, hO2, hb⟩
          have OW := hid hO2
          clear hO2
          refine hK.out _ _ (bl_on hS hb) (fun hSn => ?_)
          clear hK K hS
          have hS := hSn
          clear hSn
          try simp only [Act.put, List.setIfInBounds_toArray, List.set_cons_zero, List.set_cons_succ, List.getElem_toArray, List.getElem_cons_succ, List.getElem_cons_zero]
          clear hb
          refine wpAnyH_ready (rs := [15]) (by kernel_rfl) (by simp) (AllReadyH.cons rfl (fun K hK => ?a10_15) AllReadyH.nil)
          case' a10_15 =>
            go_simp
            refine (XQ.out wc2 _ hS OW.out).mono ?_
            rintro e wc3 ⟨rfl, hb⟩
            refine hK.out _ _ (bl_on hS hb) (fun hSn => ?_)
            clear hK K hS
            have hS := hSn
            clear hSn
            try simp only [Act.put, List.setIfInBounds_toArray, List.set_cons_zero, List.set_cons_succ, List.getElem_toArray, List.getElem_cons_succ, List.getElem_cons_zero]
            clear hb
            refine wpAnyH_take (i := 16) (v := ?_) rfl (by kernel_rfl) (by kernel_rfl) (by kernel_rfl) (fun _ _ _ h => h) (Or.inl ⟨by rfl, ?_⟩) hS ?_
            rotate_left
            · intro wz hz; go_simp; try with_reducible rfl
            try simp only [Act.put, List.setIfInBounds_toArray, List.set_cons_zero, List.set_cons_succ, List.getElem_toArray, List.getElem_cons_succ, List.getElem_cons_zero]
            refine wpAnyH_take (i := 17) (v := ?_) rfl (by kernel_rfl) (by kernel_rfl) (by kernel_rfl) (fun _ _ _ h => h) (Or.inl ⟨by rfl, ?_⟩) hS ?_
            rotate_left
            · intro wz hz; go_simp; try with_reducible rfl
            try simp only [Act.put, List.setIfInBounds_toArray, List.set_cons_zero, List.set_cons_succ, List.getElem_toArray, List.getElem_cons_succ, List.getElem_cons_zero]
            refine wpAnyH_done (by kernel_rfl) ?_ _
      all_goals (
        go_wp2
        go_ret
        exact ⟨ret_str (by rw [HT.out]; simp only [ByteArray.mk_append_mk, List.append_assoc]; rfl), bl_tr B1.out hS⟩)
    · have gn : ((t.ks.length : Int) != 1) = true := bne_iff_ne.2 (by omega)
      have HT : Hid (t.txt (envOf B) = [63]) := Tt.txt_bad _ (by rw [h10]; simp [Tt.fitN, hlen])
      generalize t.txt (envOf B) = res at HT hl ⊢
      clear hT0 hSl hL hk64 hn64 hcc hc hl HIH HP HL HO hB hlen h10
      go_enter Tryz.func34, Tryz.ntmps34
      go_wp2_with (first | (go_at_call 49; refine (KQ.out).mono ?_; rintro e wk ⟨rfl, hwk⟩; rw [hwk]; clear hwk wk KQ))
      go_ret
      exact ⟨ret_str (by rw [HT.out]), B1.out⟩
  by_cases h11 : t.k = 11
  · rw [show kidsOf t.k = 1 by rw [h11]; rfl] at KQ
    have g1 : (t.k == 1) = false := by simp [h11]
    have g2 : (t.k == 2) = false := by simp [h11]
    have g3 : (t.k == 3) = false := by simp [h11]
    have g6 : (t.k == 6) = false := by simp [h11]
    have g4 : (t.k == 4) = false := by simp [h11]
    have g5 : (t.k == 5) = false := by simp [h11]
    have g7 : (t.k == 7) = false := by simp [h11]
    have g8 : (t.k == 8) = false := by simp [h11]
    have g10 : (t.k == 10) = false := by simp [h11]
    have g11 : (t.k == 11) = true := by simp [h11]
    by_cases hlen : t.ks.length = 1
    · have gn : ((t.ks.length : Int) != 1) = false := by simp [hlen]
      have hfit := (show Tt.fitN t.k t.ks.length t.ls.length = true by rw [h11]; simp [Tt.fitN, hlen])
      have hT1 := Tt.txt_fit (envOf B) hfit
      clear hfit
      obtain ⟨x, hxy⟩ := Tt.one' hlen
      have hx : t.ks[0]? = some x := by rw [hxy]; rfl
      have HT : Hid (t.txt (envOf B) = [115, 111, 109, 101] ++ [32] ++ ([116] ++ Lib.itoa B.length) ++ [46, 32] ++ x.txt (envOf (B ++ [t.n]))) := by show _ = _; rw [hT1, env_is (by rw [h11]; rfl), hxy, Tt.txtL1, envOf_len]; simp [h11, Tt.word]
      have hlT := congrArg List.length HT.out
      simp only [List.length_append, List.length_cons, List.length_nil] at hlT
      have hcx := Tt.cnt_at hx
      obtain ⟨kb, ko, k1, k2, k3, k4, rfl, hcap, q0, q1, q2, q3, hTx⟩ := (HL.out _ B1.out).load hx
      simp only [Nat.zero_mul, Nat.add_zero] at q0 q1 q2 q3
      obtain ⟨ba, bc, rfl, hbm, -, -⟩ := hB.form
      have hB64 : R64 (B.length : Int) := by unfold R64; omega
      have KC : Hid (∀ wz, Below (w.alloc (.cells #[.int .i64 t.k, .int .i64 t.n, .slice a' t.ls.length c', .slice (some ⟨kb, ko, none⟩) t.ks.length c] TY)).heap.size (w.alloc (.cells #[.int .i64 t.k, .int .i64 t.n, .slice a' t.ls.length c', .slice (some ⟨kb, ko, none⟩) t.ks.length c] TY)) wz → wz.cell? ⟨kb, ko, none⟩ = some (.int .i64 x.k) ∧ wz.cell? ⟨kb, ko + 1, none⟩ = some (.int .i64 x.n) ∧ wz.cell? ⟨kb, ko + 2, none⟩ = some (.slice k1 x.ls.length k2) ∧ wz.cell? ⟨kb, ko + 3, none⟩ = some (.slice k3 x.ks.length k4)) := fun wz hz => ⟨cell_on hz q0, cell_on hz q1, cell_on hz q2, cell_on hz q3⟩
      have DQ : Hid (∀ wz, Below (w.alloc (.cells #[.int .i64 t.k, .int .i64 t.n, .slice a' t.ls.length c', .slice (some ⟨kb, ko, none⟩) t.ks.length c] TY)).heap.size (w.alloc (.cells #[.int .i64 t.k, .int .i64 t.n, .slice a' t.ls.length c', .slice (some ⟨kb, ko, none⟩) t.ks.length c] TY)) wz → Calls Tryz.prog 69 #[.int .i64 (B.length : Int)] wz fun e w' => e = .returned (.string ⟨(Lib.itoa B.length).toArray⟩) ∧ Below wz.heap.size wz w') := fun wz _ => Decimal_any wz _ hB64
      have WQ : Hid (∀ wz, Below (w.alloc (.cells #[.int .i64 t.k, .int .i64 t.n, .slice a' t.ls.length c', .slice (some ⟨kb, ko, none⟩) t.ks.length c] TY)).heap.size (w.alloc (.cells #[.int .i64 t.k, .int .i64 t.n, .slice a' t.ls.length c', .slice (some ⟨kb, ko, none⟩) t.ks.length c] TY)) wz → Calls Tryz.prog 58 #[.slice ba B.length bc, .int .i64 t.n] wz fun e w' => ∃ v', e = .returned v' ∧ Ow w' v' (B ++ [t.n]) ∧ Below wz.heap.size wz w') := fun wz hz => with_any wz _ B t.n (HO.out _ (bl_tr B1.out hz)) (by omega)
      have XQ : Hid (∀ wz v2, Below (w.alloc (.cells #[.int .i64 t.k, .int .i64 t.n, .slice a' t.ls.length c', .slice (some ⟨kb, ko, none⟩) t.ks.length c] TY)).heap.size (w.alloc (.cells #[.int .i64 t.k, .int .i64 t.n, .slice a' t.ls.length c', .slice (some ⟨kb, ko, none⟩) t.ks.length c] TY)) wz → Ow wz v2 (B ++ [t.n]) → Calls Tryz.prog 34 #[.agg #[.int .i64 x.k, .int .i64 x.n, .slice k1 x.ls.length k2, .slice k3 x.ks.length k4], v2] wz fun e w' => e = .returned (.string ⟨(x.txt (envOf (B ++ [t.n]))).toArray⟩) ∧ Below wz.heap.size wz w') := fun wz v2 hz ho => HIH.out wz k1 k2 k3 k4 x v2 (B ++ [t.n]) (hTx.below hz) ho (by rw [List.length_append]; simp only [List.length_cons, List.length_nil]; omega) (by omega)
      generalize x.txt (envOf (B ++ [t.n])) = Q at HT hlT XQ
      generalize Lib.itoa B.length = D at HT hlT DQ
      generalize t.txt (envOf B) = res at HT hT1 hl hlT ⊢
      have hs1 : ¬ 9223372036854775807 < 6 + D.length := by omega
      have hs2 : ¬ 9223372036854775807 < 6 + D.length + 2 := by omega
      have hs3 : ¬ 9223372036854775807 < 6 + D.length + 2 + Q.length := by omega
      have hl3 : (0 : Int) < t.ks.length := by omega
      have hl5 : 0 < t.ks.length := by omega
      clear hT0 hSl hL hk64 hn64 hcc hc hl HIH HP HL HO hB hT1 hlen h11 hxy hx hcx hlT hTx q0 q1 q2 q3 hbm hB64
      go_enter Tryz.func34, Tryz.ntmps34
      go_wp2_with (first | (go_at_call 49; refine (KQ.out).mono ?_; rintro e wk ⟨rfl, hwk⟩; rw [hwk]; clear hwk wk KQ))
      refine wp_region_held_drew (S := fun wz => Below (w.alloc (.cells #[.int .i64 t.k, .int .i64 t.n, .slice a' t.ls.length c', .slice (some ⟨kb, ko, none⟩) t.ks.length c] TY)).heap.size (w.alloc (.cells #[.int .i64 t.k, .int .i64 t.n, .slice a' t.ls.length c', .slice (some ⟨kb, ko, none⟩) t.ks.length c] TY)) wz) (by kernel_rfl) ((Below.refl _ _).drew) (fun hS => ?_)
      generalize (w.alloc (.cells #[.int .i64 t.k, .int .i64 t.n, .slice a' t.ls.length c', .slice (some ⟨kb, ko, none⟩) t.ks.length c] TY)).drew = wc0 at hS   ⊢
      refine wpAnyH_take (i := 0) (v := ?_) rfl (by kernel_rfl) (by kernel_rfl) (by kernel_rfl) (fun _ _ _ h => h) (Or.inl ⟨by rfl, ?_⟩) hS ?_
      rotate_left
      · intro wz hz; go_simp; try with_reducible rfl
      try simp only [Act.put, List.setIfInBounds_toArray, List.set_cons_zero, List.set_cons_succ, List.getElem_toArray, List.getElem_cons_succ, List.getElem_cons_zero]
      refine wpAnyH_take (i := 1) (v := ?_) rfl (by kernel_rfl) (by kernel_rfl) (by kernel_rfl) (fun _ _ _ h => h) (Or.inl ⟨by rfl, ?_⟩) hS ?_
      rotate_left
      · intro wz hz; go_simp; try with_reducible rfl
      try simp only [Act.put, List.setIfInBounds_toArray, List.set_cons_zero, List.set_cons_succ, List.getElem_toArray, List.getElem_cons_succ, List.getElem_cons_zero]
      refine wpAnyH_take (i := 2) (v := ?_) rfl (by kernel_rfl) (by kernel_rfl) (by kernel_rfl) (fun _ _ _ h => h) (Or.inl ⟨by rfl, ?_⟩) hS ?_
      rotate_left
      · intro wz hz; go_simp; try with_reducible rfl
      try simp only [Act.put, List.setIfInBounds_toArray, List.set_cons_zero, List.set_cons_succ, List.getElem_toArray, List.getElem_cons_succ, List.getElem_cons_zero]
      refine wpAnyH_take (i := 3) (v := ?_) rfl (by kernel_rfl) (by kernel_rfl) (by kernel_rfl) (fun _ _ _ h => h) (Or.inl ⟨by rfl, ?_⟩) hS ?_
      rotate_left
      · intro wz hz; go_simp; try with_reducible rfl
      try simp only [Act.put, List.setIfInBounds_toArray, List.set_cons_zero, List.set_cons_succ, List.getElem_toArray, List.getElem_cons_succ, List.getElem_cons_zero]
      refine wpAnyH_take (i := 7) (v := ?_) rfl (by kernel_rfl) (by kernel_rfl) (by kernel_rfl) (fun _ _ _ h => h) (Or.inl ⟨by rfl, ?_⟩) hS ?_
      rotate_left
      · intro wz hz; go_simp; try with_reducible rfl
      try simp only [Act.put, List.setIfInBounds_toArray, List.set_cons_zero, List.set_cons_succ, List.getElem_toArray, List.getElem_cons_succ, List.getElem_cons_zero]
      refine wpAnyH_take (i := 8) (v := ?_) rfl (by kernel_rfl) (by kernel_rfl) (by kernel_rfl) (fun _ _ _ h => h) (Or.inl ⟨by rfl, ?_⟩) hS ?_
      rotate_left
      · intro wz hz; have yy0 := HX.out wz hz; have yy1 := KC.out wz hz; go_simp; try with_reducible rfl
      try simp only [Act.put, List.setIfInBounds_toArray, List.set_cons_zero, List.set_cons_succ, List.getElem_toArray, List.getElem_cons_succ, List.getElem_cons_zero]
      refine wpAnyH_take (i := 9) (v := ?_) rfl (by kernel_rfl) (by kernel_rfl) (by kernel_rfl) (fun _ _ _ h => h) (Or.inl ⟨by rfl, ?_⟩) hS ?_
      rotate_left
      · intro wz hz; go_simp; try with_reducible rfl
      try simp only [Act.put, List.setIfInBounds_toArray, List.set_cons_zero, List.set_cons_succ, List.getElem_toArray, List.getElem_cons_succ, List.getElem_cons_zero]
      refine wpAnyH_take (i := 10) (v := ?_) rfl (by kernel_rfl) (by kernel_rfl) (by kernel_rfl) (fun _ _ _ h => h) (Or.inl ⟨by rfl, ?_⟩) hS ?_
      rotate_left
      · intro wz hz; have yy0 := HX.out wz hz; have yy1 := KC.out wz hz; go_simp; try with_reducible rfl
      try simp only [Act.put, List.setIfInBounds_toArray, List.set_cons_zero, List.set_cons_succ, List.getElem_toArray, List.getElem_cons_succ, List.getElem_cons_zero]
      refine wpAnyH_take (i := 11) (v := ?_) rfl (by kernel_rfl) (by kernel_rfl) (by kernel_rfl) (fun _ _ _ h => h) (Or.inl ⟨by rfl, ?_⟩) hS ?_
      rotate_left
      · intro wz hz; go_simp; try with_reducible rfl
      try simp only [Act.put, List.setIfInBounds_toArray, List.set_cons_zero, List.set_cons_succ, List.getElem_toArray, List.getElem_cons_succ, List.getElem_cons_zero]
      refine wpAnyH_take (i := 12) (v := ?_) rfl (by kernel_rfl) (by kernel_rfl) (by kernel_rfl) (fun _ _ _ h => h) (Or.inl ⟨by rfl, ?_⟩) hS ?_
      rotate_left
      · intro wz hz; go_simp; try with_reducible rfl
      try simp only [Act.put, List.setIfInBounds_toArray, List.set_cons_zero, List.set_cons_succ, List.getElem_toArray, List.getElem_cons_succ, List.getElem_cons_zero]
      refine wpAnyH_take (i := 13) (v := ?_) rfl (by kernel_rfl) (by kernel_rfl) (by kernel_rfl) (fun _ _ _ h => h) (Or.inl ⟨by rfl, ?_⟩) hS ?_
      rotate_left
      · intro wz hz; have yy0 := HX.out wz hz; have yy1 := KC.out wz hz; go_simp; try with_reducible rfl
      try simp only [Act.put, List.setIfInBounds_toArray, List.set_cons_zero, List.set_cons_succ, List.getElem_toArray, List.getElem_cons_succ, List.getElem_cons_zero]
      refine wpAnyH_ready (rs := [4]) (by kernel_rfl) (by simp) (AllReadyH.cons rfl (fun K hK => ?a11_4) AllReadyH.nil)
      case' a11_4 =>
        go_simp
        refine (DQ.out wc0 hS).mono ?_
        rintro e wc1 ⟨rfl, hb⟩
        refine hK.out _ _ (bl_on hS hb) (fun hSn => ?_)
        clear hK K hS
        have hS := hSn
        clear hSn
        try simp only [Act.put, List.setIfInBounds_toArray, List.set_cons_zero, List.set_cons_succ, List.getElem_toArray, List.getElem_cons_succ, List.getElem_cons_zero]
        clear hb
        refine wpAnyH_take (i := 5) (v := ?_) rfl (by kernel_rfl) (by kernel_rfl) (by kernel_rfl) (fun _ _ _ h => h) (Or.inl ⟨by rfl, ?_⟩) hS ?_
        rotate_left
        · intro wz hz; go_simp; try with_reducible rfl
        try simp only [Act.put, List.setIfInBounds_toArray, List.set_cons_zero, List.set_cons_succ, List.getElem_toArray, List.getElem_cons_succ, List.getElem_cons_zero]
        refine wpAnyH_take (i := 6) (v := ?_) rfl (by kernel_rfl) (by kernel_rfl) (by kernel_rfl) (fun _ _ _ h => h) (Or.inl ⟨by rfl, ?_⟩) hS ?_
        rotate_left
        · intro wz hz; go_simp; try with_reducible rfl
        try simp only [Act.put, List.setIfInBounds_toArray, List.set_cons_zero, List.set_cons_succ, List.getElem_toArray, List.getElem_cons_succ, List.getElem_cons_zero]
        refine wpAnyH_ready (rs := [14]) (by kernel_rfl) (by simp) (AllReadyH.cons rfl (fun K hK => ?a12_14) AllReadyH.nil)
        case' a12_14 =>
          go_simp
          refine (WQ.out wc1 hS).mono ?_
          rintro e wc2 ⟨v2, rfl, hO2, hb⟩
          have OW := hid hO2
          clear hO2
          refine hK.out _ _ (bl_on hS hb) (fun hSn => ?_)
          clear hK K hS
          have hS := hSn
          clear hSn
          try simp only [Act.put, List.setIfInBounds_toArray, List.set_cons_zero, List.set_cons_succ, List.getElem_toArray, List.getElem_cons_succ, List.getElem_cons_zero]
          clear hb
          refine wpAnyH_ready (rs := [15]) (by kernel_rfl) (by simp) (AllReadyH.cons rfl (fun K hK => ?a13_15) AllReadyH.nil)
          case' a13_15 =>
            go_simp
            refine (XQ.out wc2 _ hS OW.out).mono ?_
            rintro e wc3 ⟨rfl, hb⟩
            refine hK.out _ _ (bl_on hS hb) (fun hSn => ?_)
            clear hK K hS
            have hS := hSn
            clear hSn
            try simp only [Act.put, List.setIfInBounds_toArray, List.set_cons_zero, List.set_cons_succ, List.getElem_toArray, List.getElem_cons_succ, List.getElem_cons_zero]
            clear hb
            refine wpAnyH_take (i := 16) (v := ?_) rfl (by kernel_rfl) (by kernel_rfl) (by kernel_rfl) (fun _ _ _ h => h) (Or.inl ⟨by rfl, ?_⟩) hS ?_
            rotate_left
            · intro wz hz; go_simp; try with_reducible rfl
            try simp only [Act.put, List.setIfInBounds_toArray, List.set_cons_zero, List.set_cons_succ, List.getElem_toArray, List.getElem_cons_succ, List.getElem_cons_zero]
            refine wpAnyH_take (i := 17) (v := ?_) rfl (by kernel_rfl) (by kernel_rfl) (by kernel_rfl) (fun _ _ _ h => h) (Or.inl ⟨by rfl, ?_⟩) hS ?_
            rotate_left
            · intro wz hz; go_simp; try with_reducible rfl
            try simp only [Act.put, List.setIfInBounds_toArray, List.set_cons_zero, List.set_cons_succ, List.getElem_toArray, List.getElem_cons_succ, List.getElem_cons_zero]
            refine wpAnyH_done (by kernel_rfl) ?_ _
      all_goals (
        go_wp2
        go_ret
        exact ⟨ret_str (by rw [HT.out]; simp only [ByteArray.mk_append_mk, List.append_assoc]; rfl), bl_tr B1.out hS⟩)
    · have gn : ((t.ks.length : Int) != 1) = true := bne_iff_ne.2 (by omega)
      have HT : Hid (t.txt (envOf B) = [63]) := Tt.txt_bad _ (by rw [h11]; simp [Tt.fitN, hlen])
      generalize t.txt (envOf B) = res at HT hl ⊢
      clear hT0 hSl hL hk64 hn64 hcc hc hl HIH HP HL HO hB hlen h11
      go_enter Tryz.func34, Tryz.ntmps34
      go_wp2_with (first | (go_at_call 49; refine (KQ.out).mono ?_; rintro e wk ⟨rfl, hwk⟩; rw [hwk]; clear hwk wk KQ))
      go_ret
      exact ⟨ret_str (by rw [HT.out]), B1.out⟩
  have HT : Hid (t.txt (envOf B) = [63]) := Tt.txt_bad _ (by unfold Tt.fitN; simp [h1, h2, h3, h4, h5, h6, h7, h8, h9, h10, h11])
  rw [show kidsOf t.k = -2 by unfold kidsOf; simp [h1, h2, h3, h4, h5, h6, h7, h8, h9, h10, h11]] at KQ
  generalize t.txt (envOf B) = res at HT hl ⊢
  clear hT0 hSl hL hk64 hn64 hcc hc hl HIH HP HL HO hB h1 h2 h3 h4 h5 h6 h7 h8 h9 h10 h11
  go_enter Tryz.func34, Tryz.ntmps34
  go_wp2_with (first | (go_at_call 49; refine (KQ.out).mono ?_; rintro e wk ⟨rfl, hwk⟩; rw [hwk]; clear hwk wk KQ))
  go_ret
  exact ⟨ret_str (by rw [HT.out]), B1.out⟩
theorem rtext_any : ∀ n, RTextOf n
  | 0 => fun w a' c' a c t bv B h => h.elim
  | n + 1 => rtext_step n (rtext_any n)

set_option maxHeartbeats 1000000 in
set_option maxRecDepth 100000 in
theorem RText_any (w : World) (n : Nat) (us : List Value) (t : Tt) (h : TAt w Any n us t) (hc : t.cnt ≤ 1099511627776) (hl : (t.txt []).length ≤ 140737488355328) : Calls Tryz.prog 15 #[.agg us.toArray] w fun e w' => e = .returned (.string ⟨(t.txt []).toArray⟩) ∧ Below w.heap.size w w' := by
  obtain ⟨a', c', a, c, rfl⟩ := h.form
  have B1 : Hid (Below w.heap.size w (w.alloc (.cells #[.int .i64 t.k, .int .i64 t.n, .slice a' t.ls.length c', .slice a t.ks.length c] TY))) := bl_alloc (Below.refl _ _) _
  have XA : Hid (Arr (w.alloc (.cells #[.int .i64 t.k, .int .i64 t.n, .slice a' t.ls.length c', .slice a t.ks.length c] TY)) w.heap.size TY [.int .i64 t.k, .int .i64 t.n, .slice a' t.ls.length c', .slice a t.ks.length c]) := ⟨heap_alloc_at _ _⟩
  have x0 := XA.out.cell
  have Q := hid (rtext_any n (w.alloc (.cells #[.int .i64 t.k, .int .i64 t.n, .slice a' t.ls.length c', .slice a t.ks.length c] TY)) a' c' a c t (.slice none 0 0) [] (h.below B1.out) (Ow.nil _) (by simpa using hc) hl)
  clear h hc hl
  go_enter Tryz.func15, Tryz.ntmps15
  go_wp2_with (go_at_call 34; refine (Q.out).mono ?_; rintro e w3 ⟨rfl, b3⟩; clear Q)
  go_ret
  exact ⟨rfl, bl_tr B1.out b3⟩
end Go.Proofs.YtfeppchgmobfpaaGreatDoor
