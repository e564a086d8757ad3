/- TreeFirst: the walk. -/
import Derived.Test.YtgiegjghldhppabLwCounts
import Derived.Test.YtgiegjghldhppabNdH
namespace Go.Proofs.Ytgiegjghldhppab
open Go.RowKit
set_option linter.unusedVariables false

theorem Nd.errAt_bound : ∀ (b : List Nd) (k : Nat), 0 ≤ (Nd.errAt k b).1 ∧ (Nd.errAt k b).1 ≤ k + b.length
  | [], k => ⟨Int.le_refl _, by show (0 : Int) ≤ _; simp only [List.length_nil]; omega⟩
  | x :: r, k => by
    rw [Nd.errAt]
    by_cases hx : Nd.err 3 x = 0
    · rw [if_pos hx]
      have := Nd.errAt_bound r (k + 1)
      exact ⟨this.1, by rw [List.length_cons]; omega⟩
    · rw [if_neg hx]
      exact ⟨by show (0 : Int) ≤ (k : Int); omega, by show (k : Int) ≤ _; rw [List.length_cons]; omega⟩
theorem right_at {w : World} {n : Nat} {v : Value} {l : List Nd} {i e : Int} (h : AtL w Any n 3 v l) (hr : Nd.rightL l = (i, e)) (W : World) (hW : Below w.heap.size w W) :
    Calls Try.prog 10 #[v] W fun x w' => x = .returned (.tuple #[.int .i64 i, .int .i64 e]) ∧ Below W.heap.size W w' := by
  have := rightL_any n W v l (h.below hW)
  rw [hr] at this
  exact this

set_option maxHeartbeats 16000000 in
set_option maxRecDepth 100000 in
theorem first_walk (w : World) (na nb : Nat) (va : Value) (La : List Nd) (ha : AtL w Any na 3 va La) (vb : Value) (Lb : List Nd) (hb : AtL w Any nb 3 vb Lb)
    (fva : va = .slice none 0 0 ∨ ∃ ad m c, va = .slice (some ad) m c) (fvb : vb = .slice none 0 0 ∨ ∃ ad m c, vb = .slice (some ad) m c) (hbd : Nd.cntL La + Nd.cntL Lb ≤ 1048576) :
    Calls Try.prog 5 #[va, vb] w fun e w' => e = .returned (.bool true) ∧ Below w.heap.size w w' := by
  obtain ⟨i0, hi, hz0, hz1, hz2⟩ := nd_info_parts info_dec
  have row0 := row_start w 38
  have la := Nd.len_le La
  have lb := Nd.len_le Lb
  have hbytes : La.length ≤ 1048576 ∧ Lb.length ≤ 1048576 := by omega
  have hcA : Nd.cntL (La ++ Lb) ≤ 4194304 := by rw [Nd.cntL_append]; omega
  have HCA : Hid (Nd.cntL (La ++ Lb) ≤ 4194304) := hcA
  have hca := Nd.cntL_append La Lb
  have hda := Nd.depL_append La Lb
  obtain ⟨ka, ea, hRa⟩ : ∃ k e, Nd.rightL La = (k, e) := ⟨_, _, rfl⟩
  obtain ⟨kb, eb, hRb⟩ : ∃ k e, Nd.rightL Lb = (k, e) := ⟨_, _, rfl⟩
  obtain ⟨kc, ec, hRc⟩ : ∃ k e, Nd.rightL (La ++ Lb) = (k, e) := ⟨_, _, rfl⟩
  have qRa : Hid (∀ W, Below w.heap.size w W → _) := fun W hW => right_at ha hRa W hW
  have qRb : Hid (∀ W, Below w.heap.size w W → _) := fun W hW => right_at hb hRb W hW
  have HRA : Hid (Nd.rightL (La ++ Lb) = (kc, ec)) := hRc
  -- the cases, in plain words
  have HC : Hid ((4096 < Nd.cntL (La ++ Lb) ∧ (ec = 3 ∨ ec = 4)) ∨ (Nd.cntL (La ++ Lb) ≤ 4096 ∧ 100 < Nd.depL (La ++ Lb) ∧ ec = 4) ∨ (Nd.cntL (La ++ Lb) ≤ 4096 ∧ Nd.depL (La ++ Lb) ≤ 100 ∧ ((ea ≠ 0 ∧ kc = ka ∧ ec = ea) ∨ (ea = 0 ∧ ec = eb ∧ (eb = 0 ∨ (eb ≠ 0 ∧ kc = kb + La.length ∧ 0 ≤ kb ∧ kb ≤ 1048576)))))) := by
    show _ ∨ _
    by_cases h1 : 4096 < Nd.cntL (La ++ Lb)
    · refine .inl ⟨h1, ?_⟩
      by_cases h2 : 100 < Nd.depL (La ++ Lb)
      · have := Nd.rightL_deep2 hcA h2
        rw [hRc] at this
        exact .inr this
      · have := Nd.rightL_big2 hcA (by omega) h1
        rw [hRc] at this
        exact .inl this
    · by_cases h2 : 100 < Nd.depL (La ++ Lb)
      · have := Nd.rightL_deep2 hcA h2
        rw [hRc] at this
        exact .inr (.inl ⟨by omega, h2, this⟩)
      · refine .inr (.inr ⟨by omega, by omega, ?_⟩)
        have ra := Nd.rightL_small (l := La) (by omega) (by omega)
        have rb := Nd.rightL_small (l := Lb) (by omega) (by omega)
        have rc := Nd.rightL_small (l := La ++ Lb) (by omega) (by omega)
        rw [hRa] at ra
        rw [hRb] at rb
        rw [hRc] at rc
        by_cases he : ea = 0
        · have h3 := Nd.errAt_append_ok La Lb 0 (by rw [← ra]; exact he)
          rw [← rc, Nat.zero_add] at h3
          have h4 := Nd.errAt_shift Lb La.length 0
          rw [Nat.add_zero, ← h3, ← rb] at h4
          refine .inr ⟨he, h4.1, ?_⟩
          by_cases hg : eb = 0
          · exact .inl hg
          · have h7 := Nd.errAt_bound Lb 0
            rw [← rb] at h7
            exact .inr ⟨hg, h4.2 hg, h7.1, by have := h7.2; simp only at this; omega⟩
        · have h3 := Nd.errAt_append_err La Lb 0 (by rw [← ra]; exact he)
          rw [← rc, ← ra] at h3
          injection h3 with h5 h6
          exact .inl ⟨he, h5, h6⟩
  obtain ⟨CN, hCN⟩ : ∃ C : Int, (Nd.cntL (La ++ Lb) : Int) = C := ⟨_, rfl⟩
  obtain ⟨DN, hDN⟩ : ∃ D : Int, (Nd.depL (La ++ Lb) : Int) = D := ⟨_, rfl⟩
  have HCN : Hid ((Nd.cntL (La ++ Lb) : Int) = CN) := hCN
  have HDN : Hid ((Nd.depL (La ++ Lb) : Int) = DN) := hDN
  have HD : Hid ((4096 < CN ∧ (ec = 3 ∨ ec = 4)) ∨ (¬ 4096 < CN ∧ 100 < DN ∧ ec = 4) ∨ (¬ 4096 < CN ∧ ¬ 100 < DN ∧ ((ea ≠ 0 ∧ kc = ka ∧ ec = ea) ∨ (ea = 0 ∧ ec = eb ∧ (eb = 0 ∨ (eb ≠ 0 ∧ kc = kb + La.length ∧ 0 ≤ kb ∧ kb ≤ 1048576)))))) := by
    show _ ∨ _
    rcases HC.out with ⟨h1, h2⟩ | ⟨h1, h2, h3⟩ | ⟨h1, h2, h3⟩
    · exact .inl ⟨by omega, h2⟩
    · exact .inr (.inl ⟨by omega, by omega, h3⟩)
    · exact .inr (.inr ⟨by omega, by omega, h3⟩)
  clear HC hCN hDN hbd
  have hln : (La ++ Lb).length = La.length + Lb.length := List.length_append
  obtain ⟨Ln, hLn⟩ : ∃ Ln, (La ++ Lb).length = Ln := ⟨_, rfl⟩
  have hLN : Hid True := True.intro
  clear hcA hca hda hRa hRb hRc
  rcases ha.flat fva with ⟨rfl, rfl⟩ | ⟨ada, ca, valsa, rfl, fa, xa⟩

  · rcases hb.flat fvb with ⟨rfl, rfl⟩ | ⟨adb, cb, valsb, rfl, fb, xb⟩
    · skip
      have hf : Flat w (max na nb) ([] ++ []) [] := by
        have h := Flat.append (w := w) (n := max na nb) (Flat.nil _ _) (Flat.nil _ _)
        simpa using h
      have hAL : ∀ (W : World) (v : Value) (hB : Below w.heap.size w W), W.ownsRow w.heap.size 38 9 v (0) [] → (∃ a c, v = .slice a Ln c) ∧ AtL W Any (max na nb) 3 v ([] ++ []) := by
        intro W v hB ho
        have h := AtL.of_own ho (hf.below hB) (by simp)
        obtain ⟨a, c, e, -⟩ := h.form
        exact ⟨⟨a, c, by rw [e, hLn]⟩, h⟩
      obtain rfl : 0 = Ln := by simpa using hLn
      clear hLn hln ha hb fva fvb la lb hf
      rcases HD.out with ⟨t1, he⟩ | ⟨t1, t2, he⟩ | ⟨t1, t2, hc⟩
      · clear HD
        rcases he with rfl | rfl
        · skip
          have m0 := True.intro
          go_enter Try.func5, Try.ntmps5
          go_wp2_with (first | (go_at_call 7; refine (alive_any _).mono ?_; rintro e u2 ⟨rfl, hb2⟩; have X2 := bl_tr X1 hb2) | (go_at_call 10; have _ := m3; refine (right_at hA2 HRA.out _ X0).mono ?_; rintro e u1 ⟨rfl, hb1⟩; have X1 := bl_tr X0 hb1; have m4 := True.intro; clear m3 hb1) | (go_at_call 9; have _ := m2; refine (nodes_at hA2 HCA.out HCN.out _ (Below.refl _ _)).mono ?_; rintro e u0 ⟨rfl, hb0⟩; have X0 := hb0; have m3 := True.intro; clear m2 hb0) | (at_builtin; have _ := m1; refine wpList_append_own_none rfl _ _ 22 rfl w.heap.size 38 i0 9 Try.underlying22 hi _ _ _ rfl hown1 rfl ?_; have B2 := B1; have hAll := hAL _ _ B2 hown1; have hZ := hLN.out; have hA2 := hAll.2;  have m2 := True.intro; clear m1 hAll hown1) | (at_builtin; have _ := m0; refine wpList_append_own_none rfl _ _ 22 rfl w.heap.size 38 i0 9 Try.underlying22 hi _ _ _ rfl row0 rfl ?_; have hown1 := row0; have B1 : Below w.heap.size w (w.alloc (.cells #[] 38)) := (bl_alloc (Below.refl _ _) _); have m1 := True.intro; clear m0))
          go_ret
          exact ⟨rfl, bl_tr B2 X2⟩
        · skip
          have m0 := True.intro
          go_enter Try.func5, Try.ntmps5
          go_wp2_with (first | (go_at_call 7; refine (alive_any _).mono ?_; rintro e u2 ⟨rfl, hb2⟩; have X2 := bl_tr X1 hb2) | (go_at_call 10; have _ := m3; refine (right_at hA2 HRA.out _ X0).mono ?_; rintro e u1 ⟨rfl, hb1⟩; have X1 := bl_tr X0 hb1; have m4 := True.intro; clear m3 hb1) | (go_at_call 9; have _ := m2; refine (nodes_at hA2 HCA.out HCN.out _ (Below.refl _ _)).mono ?_; rintro e u0 ⟨rfl, hb0⟩; have X0 := hb0; have m3 := True.intro; clear m2 hb0) | (at_builtin; have _ := m1; refine wpList_append_own_none rfl _ _ 22 rfl w.heap.size 38 i0 9 Try.underlying22 hi _ _ _ rfl hown1 rfl ?_; have B2 := B1; have hAll := hAL _ _ B2 hown1; have hZ := hLN.out; have hA2 := hAll.2;  have m2 := True.intro; clear m1 hAll hown1) | (at_builtin; have _ := m0; refine wpList_append_own_none rfl _ _ 22 rfl w.heap.size 38 i0 9 Try.underlying22 hi _ _ _ rfl row0 rfl ?_; have hown1 := row0; have B1 : Below w.heap.size w (w.alloc (.cells #[] 38)) := (bl_alloc (Below.refl _ _) _); have m1 := True.intro; clear m0))
          go_ret
          exact ⟨rfl, bl_tr B2 X2⟩
      · subst he
        clear HD
        have m0 := True.intro
        go_enter Try.func5, Try.ntmps5
        go_wp2_with (first | (go_at_call 7; refine (alive_any _).mono ?_; rintro e u3 ⟨rfl, hb3⟩; have X3 := bl_tr X2 hb3) | (go_at_call 10; have _ := m4; refine (right_at hA2 HRA.out _ X1).mono ?_; rintro e u2 ⟨rfl, hb2⟩; have X2 := bl_tr X1 hb2; have m5 := True.intro; clear m4 hb2) | (go_at_call 8; have _ := m3; refine (depth_at hA2 HCA.out HDN.out _ X0).mono ?_; rintro e u1 ⟨rfl, hb1⟩; have X1 := bl_tr X0 hb1; have m4 := True.intro; clear m3 hb1) | (go_at_call 9; have _ := m2; refine (nodes_at hA2 HCA.out HCN.out _ (Below.refl _ _)).mono ?_; rintro e u0 ⟨rfl, hb0⟩; have X0 := hb0; have m3 := True.intro; clear m2 hb0) | (at_builtin; have _ := m1; refine wpList_append_own_none rfl _ _ 22 rfl w.heap.size 38 i0 9 Try.underlying22 hi _ _ _ rfl hown1 rfl ?_; have B2 := B1; have hAll := hAL _ _ B2 hown1; have hZ := hLN.out; have hA2 := hAll.2;  have m2 := True.intro; clear m1 hAll hown1) | (at_builtin; have _ := m0; refine wpList_append_own_none rfl _ _ 22 rfl w.heap.size 38 i0 9 Try.underlying22 hi _ _ _ rfl row0 rfl ?_; have hown1 := row0; have B1 : Below w.heap.size w (w.alloc (.cells #[] 38)) := (bl_alloc (Below.refl _ _) _); have m1 := True.intro; clear m0))
        go_ret
        exact ⟨rfl, bl_tr B2 X3⟩
      · clear HD
        rcases hc with ⟨he, rfl, rfl⟩ | ⟨rfl, rfl, hg⟩
        · have t3 : (ec != 0) = true := by rw [bne_iff_ne]; exact he
          have t4 : (ec == 0) = false := by rw [beq_eq_false_iff_ne]; exact he
          have m0 := True.intro
          go_enter Try.func5, Try.ntmps5
          go_wp2_with (first | (go_at_call 7; refine (alive_any _).mono ?_; rintro e u5 ⟨rfl, hb5⟩; have X5 := bl_tr X4 hb5) | (go_at_call 10; have _ := m6; refine (qRb.out _ (bl_tr B2 X3)).mono ?_; rintro e u4 ⟨rfl, hb4⟩; have X4 := bl_tr X3 hb4; have m7 := True.intro; clear m6 hb4) | (go_at_call 10; have _ := m5; refine (right_at hA2 HRA.out _ X2).mono ?_; rintro e u3 ⟨rfl, hb3⟩; have X3 := bl_tr X2 hb3; have m6 := True.intro; clear m5 hb3) | (go_at_call 10; have _ := m4; refine (qRa.out _ (bl_tr B2 X1)).mono ?_; rintro e u2 ⟨rfl, hb2⟩; have X2 := bl_tr X1 hb2; have m5 := True.intro; clear m4 hb2) | (go_at_call 8; have _ := m3; refine (depth_at hA2 HCA.out HDN.out _ X0).mono ?_; rintro e u1 ⟨rfl, hb1⟩; have X1 := bl_tr X0 hb1; have m4 := True.intro; clear m3 hb1) | (go_at_call 9; have _ := m2; refine (nodes_at hA2 HCA.out HCN.out _ (Below.refl _ _)).mono ?_; rintro e u0 ⟨rfl, hb0⟩; have X0 := hb0; have m3 := True.intro; clear m2 hb0) | (at_builtin; have _ := m1; refine wpList_append_own_none rfl _ _ 22 rfl w.heap.size 38 i0 9 Try.underlying22 hi _ _ _ rfl hown1 rfl ?_; have B2 := B1; have hAll := hAL _ _ B2 hown1; have hZ := hLN.out; have hA2 := hAll.2;  have m2 := True.intro; clear m1 hAll hown1) | (at_builtin; have _ := m0; refine wpList_append_own_none rfl _ _ 22 rfl w.heap.size 38 i0 9 Try.underlying22 hi _ _ _ rfl row0 rfl ?_; have hown1 := row0; have B1 : Below w.heap.size w (w.alloc (.cells #[] 38)) := (bl_alloc (Below.refl _ _) _); have m1 := True.intro; clear m0))
          go_ret
          exact ⟨rfl, bl_tr B2 X5⟩
        · rcases hg with rfl | ⟨hg, rfl, hk0, hk1⟩
          · skip
            have m0 := True.intro
            go_enter Try.func5, Try.ntmps5
            go_wp2_with (first | (go_at_call 7; refine (alive_any _).mono ?_; rintro e u5 ⟨rfl, hb5⟩; have X5 := bl_tr X4 hb5) | (go_at_call 10; have _ := m6; refine (qRb.out _ (bl_tr B2 X3)).mono ?_; rintro e u4 ⟨rfl, hb4⟩; have X4 := bl_tr X3 hb4; have m7 := True.intro; clear m6 hb4) | (go_at_call 10; have _ := m5; refine (right_at hA2 HRA.out _ X2).mono ?_; rintro e u3 ⟨rfl, hb3⟩; have X3 := bl_tr X2 hb3; have m6 := True.intro; clear m5 hb3) | (go_at_call 10; have _ := m4; refine (qRa.out _ (bl_tr B2 X1)).mono ?_; rintro e u2 ⟨rfl, hb2⟩; have X2 := bl_tr X1 hb2; have m5 := True.intro; clear m4 hb2) | (go_at_call 8; have _ := m3; refine (depth_at hA2 HCA.out HDN.out _ X0).mono ?_; rintro e u1 ⟨rfl, hb1⟩; have X1 := bl_tr X0 hb1; have m4 := True.intro; clear m3 hb1) | (go_at_call 9; have _ := m2; refine (nodes_at hA2 HCA.out HCN.out _ (Below.refl _ _)).mono ?_; rintro e u0 ⟨rfl, hb0⟩; have X0 := hb0; have m3 := True.intro; clear m2 hb0) | (at_builtin; have _ := m1; refine wpList_append_own_none rfl _ _ 22 rfl w.heap.size 38 i0 9 Try.underlying22 hi _ _ _ rfl hown1 rfl ?_; have B2 := B1; have hAll := hAL _ _ B2 hown1; have hZ := hLN.out; have hA2 := hAll.2;  have m2 := True.intro; clear m1 hAll hown1) | (at_builtin; have _ := m0; refine wpList_append_own_none rfl _ _ 22 rfl w.heap.size 38 i0 9 Try.underlying22 hi _ _ _ rfl row0 rfl ?_; have hown1 := row0; have B1 : Below w.heap.size w (w.alloc (.cells #[] 38)) := (bl_alloc (Below.refl _ _) _); have m1 := True.intro; clear m0))
            go_ret
            exact ⟨rfl, bl_tr B2 X5⟩
          · have t3 : (ec != 0) = true := by rw [bne_iff_ne]; exact hg
            have t4 : (ec == 0) = false := by rw [beq_eq_false_iff_ne]; exact hg
            have m0 := True.intro
            go_enter Try.func5, Try.ntmps5
            go_wp2_with (first | (go_at_call 7; refine (alive_any _).mono ?_; rintro e u5 ⟨rfl, hb5⟩; have X5 := bl_tr X4 hb5) | (go_at_call 10; have _ := m6; refine (qRb.out _ (bl_tr B2 X3)).mono ?_; rintro e u4 ⟨rfl, hb4⟩; have X4 := bl_tr X3 hb4; have m7 := True.intro; clear m6 hb4) | (go_at_call 10; have _ := m5; refine (right_at hA2 HRA.out _ X2).mono ?_; rintro e u3 ⟨rfl, hb3⟩; have X3 := bl_tr X2 hb3; have m6 := True.intro; clear m5 hb3) | (go_at_call 10; have _ := m4; refine (qRa.out _ (bl_tr B2 X1)).mono ?_; rintro e u2 ⟨rfl, hb2⟩; have X2 := bl_tr X1 hb2; have m5 := True.intro; clear m4 hb2) | (go_at_call 8; have _ := m3; refine (depth_at hA2 HCA.out HDN.out _ X0).mono ?_; rintro e u1 ⟨rfl, hb1⟩; have X1 := bl_tr X0 hb1; have m4 := True.intro; clear m3 hb1) | (go_at_call 9; have _ := m2; refine (nodes_at hA2 HCA.out HCN.out _ (Below.refl _ _)).mono ?_; rintro e u0 ⟨rfl, hb0⟩; have X0 := hb0; have m3 := True.intro; clear m2 hb0) | (at_builtin; have _ := m1; refine wpList_append_own_none rfl _ _ 22 rfl w.heap.size 38 i0 9 Try.underlying22 hi _ _ _ rfl hown1 rfl ?_; have B2 := B1; have hAll := hAL _ _ B2 hown1; have hZ := hLN.out; have hA2 := hAll.2;  have m2 := True.intro; clear m1 hAll hown1) | (at_builtin; have _ := m0; refine wpList_append_own_none rfl _ _ 22 rfl w.heap.size 38 i0 9 Try.underlying22 hi _ _ _ rfl row0 rfl ?_; have hown1 := row0; have B1 : Below w.heap.size w (w.alloc (.cells #[] 38)) := (bl_alloc (Below.refl _ _) _); have m1 := True.intro; clear m0))
            go_ret
            exact ⟨rfl, bl_tr B2 X5⟩
    · skip
      have XB : Hid (∀ W, Below w.heap.size w W → ∀ (j : Nat) u, valsb[j]? = some u → W.cell? (adb.add j) = some u) := fun W hW j u hu => (hW.cell (World.block_lt_of_cell? w _ (xb j u hu))).trans (xb j u hu)
      have hf : Flat w (max na nb) ([] ++ Lb) ([] ++ valsb) := by
        have h := Flat.append (w := w) (n := max na nb) (Flat.nil _ _) (fb.le (Nat.le_max_right na nb))
        simpa using h
      have hAL : ∀ (W : World) (v : Value) (hB : Below w.heap.size w W), W.ownsRow w.heap.size 38 9 v (0 + Lb.length) ([] ++ valsb) → (∃ a c, v = .slice a Ln c) ∧ AtL W Any (max na nb) 3 v ([] ++ Lb) := by
        intro W v hB ho
        have h := AtL.of_own ho (hf.below hB) (by simp)
        obtain ⟨a, c, e, -⟩ := h.form
        exact ⟨⟨a, c, by rw [e, hLn]⟩, h⟩
      clear hLn hln ha hb fva fvb la lb hf xb
      rcases HD.out with ⟨t1, he⟩ | ⟨t1, t2, he⟩ | ⟨t1, t2, hc⟩
      · clear HD
        rcases he with rfl | rfl
        · skip
          have m0 := True.intro
          go_enter Try.func5, Try.ntmps5
          go_wp2_with (first | (go_at_call 7; refine (alive_any _).mono ?_; rintro e u2 ⟨rfl, hb2⟩; have X2 := bl_tr X1 hb2) | (go_at_call 10; have _ := m3; refine (right_at hA2 HRA.out _ X0).mono ?_; rintro e u1 ⟨rfl, hb1⟩; have X1 := bl_tr X0 hb1; have m4 := True.intro; clear m3 hb1) | (go_at_call 9; have _ := m2; refine (nodes_at hA2 HCA.out HCN.out _ (Below.refl _ _)).mono ?_; rintro e u0 ⟨rfl, hb0⟩; have X0 := hb0; have m3 := True.intro; clear m2 hb0) | (at_builtin; have _ := m1; refine wpList_append_own _ rfl _ _ 22 rfl w.heap.size 38 i0 (.agg #[.int .i64 0, .int .i64 0, .string ⟨#[]⟩, .slice none 0 0, .slice none 0 0, .slice none 0 0, .slice none 0 0, .slice none 0 0, .slice none 0 0]) 9 176 Try.underlying22 hi hz0 hz1 hz2 rfl (by decide) _ _ _ rfl hown1 adb Lb.length cb valsb rfl fb.1 (XB.out _ B1) fb.2.1 (by unfold maxLen; omega) (by omega) B1.size ?_; intro v2 w2 hown2 hgrow2 _; have B2 : Below w.heap.size w w2 := B1.grown hgrow2 B1.size (own_block hown1); have hAll := hAL w2 v2 B2 hown2; have hZ := hLN.out; obtain ⟨aA, cA, rfl⟩ := hAll.1; have hA2 := hAll.2; have m2 := True.intro; clear m1 hgrow2 hAll hown2 hown1) | (at_builtin; have _ := m0; refine wpList_append_own_none rfl _ _ 22 rfl w.heap.size 38 i0 9 Try.underlying22 hi _ _ _ rfl row0 rfl ?_; have hown1 := row0; have B1 : Below w.heap.size w (w.alloc (.cells #[] 38)) := (bl_alloc (Below.refl _ _) _); have m1 := True.intro; clear m0))
          go_ret
          exact ⟨rfl, bl_tr B2 X2⟩
        · skip
          have m0 := True.intro
          go_enter Try.func5, Try.ntmps5
          go_wp2_with (first | (go_at_call 7; refine (alive_any _).mono ?_; rintro e u2 ⟨rfl, hb2⟩; have X2 := bl_tr X1 hb2) | (go_at_call 10; have _ := m3; refine (right_at hA2 HRA.out _ X0).mono ?_; rintro e u1 ⟨rfl, hb1⟩; have X1 := bl_tr X0 hb1; have m4 := True.intro; clear m3 hb1) | (go_at_call 9; have _ := m2; refine (nodes_at hA2 HCA.out HCN.out _ (Below.refl _ _)).mono ?_; rintro e u0 ⟨rfl, hb0⟩; have X0 := hb0; have m3 := True.intro; clear m2 hb0) | (at_builtin; have _ := m1; refine wpList_append_own _ rfl _ _ 22 rfl w.heap.size 38 i0 (.agg #[.int .i64 0, .int .i64 0, .string ⟨#[]⟩, .slice none 0 0, .slice none 0 0, .slice none 0 0, .slice none 0 0, .slice none 0 0, .slice none 0 0]) 9 176 Try.underlying22 hi hz0 hz1 hz2 rfl (by decide) _ _ _ rfl hown1 adb Lb.length cb valsb rfl fb.1 (XB.out _ B1) fb.2.1 (by unfold maxLen; omega) (by omega) B1.size ?_; intro v2 w2 hown2 hgrow2 _; have B2 : Below w.heap.size w w2 := B1.grown hgrow2 B1.size (own_block hown1); have hAll := hAL w2 v2 B2 hown2; have hZ := hLN.out; obtain ⟨aA, cA, rfl⟩ := hAll.1; have hA2 := hAll.2; have m2 := True.intro; clear m1 hgrow2 hAll hown2 hown1) | (at_builtin; have _ := m0; refine wpList_append_own_none rfl _ _ 22 rfl w.heap.size 38 i0 9 Try.underlying22 hi _ _ _ rfl row0 rfl ?_; have hown1 := row0; have B1 : Below w.heap.size w (w.alloc (.cells #[] 38)) := (bl_alloc (Below.refl _ _) _); have m1 := True.intro; clear m0))
          go_ret
          exact ⟨rfl, bl_tr B2 X2⟩
      · subst he
        clear HD
        have m0 := True.intro
        go_enter Try.func5, Try.ntmps5
        go_wp2_with (first | (go_at_call 7; refine (alive_any _).mono ?_; rintro e u3 ⟨rfl, hb3⟩; have X3 := bl_tr X2 hb3) | (go_at_call 10; have _ := m4; refine (right_at hA2 HRA.out _ X1).mono ?_; rintro e u2 ⟨rfl, hb2⟩; have X2 := bl_tr X1 hb2; have m5 := True.intro; clear m4 hb2) | (go_at_call 8; have _ := m3; refine (depth_at hA2 HCA.out HDN.out _ X0).mono ?_; rintro e u1 ⟨rfl, hb1⟩; have X1 := bl_tr X0 hb1; have m4 := True.intro; clear m3 hb1) | (go_at_call 9; have _ := m2; refine (nodes_at hA2 HCA.out HCN.out _ (Below.refl _ _)).mono ?_; rintro e u0 ⟨rfl, hb0⟩; have X0 := hb0; have m3 := True.intro; clear m2 hb0) | (at_builtin; have _ := m1; refine wpList_append_own _ rfl _ _ 22 rfl w.heap.size 38 i0 (.agg #[.int .i64 0, .int .i64 0, .string ⟨#[]⟩, .slice none 0 0, .slice none 0 0, .slice none 0 0, .slice none 0 0, .slice none 0 0, .slice none 0 0]) 9 176 Try.underlying22 hi hz0 hz1 hz2 rfl (by decide) _ _ _ rfl hown1 adb Lb.length cb valsb rfl fb.1 (XB.out _ B1) fb.2.1 (by unfold maxLen; omega) (by omega) B1.size ?_; intro v2 w2 hown2 hgrow2 _; have B2 : Below w.heap.size w w2 := B1.grown hgrow2 B1.size (own_block hown1); have hAll := hAL w2 v2 B2 hown2; have hZ := hLN.out; obtain ⟨aA, cA, rfl⟩ := hAll.1; have hA2 := hAll.2; have m2 := True.intro; clear m1 hgrow2 hAll hown2 hown1) | (at_builtin; have _ := m0; refine wpList_append_own_none rfl _ _ 22 rfl w.heap.size 38 i0 9 Try.underlying22 hi _ _ _ rfl row0 rfl ?_; have hown1 := row0; have B1 : Below w.heap.size w (w.alloc (.cells #[] 38)) := (bl_alloc (Below.refl _ _) _); have m1 := True.intro; clear m0))
        go_ret
        exact ⟨rfl, bl_tr B2 X3⟩
      · clear HD
        rcases hc with ⟨he, rfl, rfl⟩ | ⟨rfl, rfl, hg⟩
        · have t3 : (ec != 0) = true := by rw [bne_iff_ne]; exact he
          have t4 : (ec == 0) = false := by rw [beq_eq_false_iff_ne]; exact he
          have m0 := True.intro
          go_enter Try.func5, Try.ntmps5
          go_wp2_with (first | (go_at_call 7; refine (alive_any _).mono ?_; rintro e u5 ⟨rfl, hb5⟩; have X5 := bl_tr X4 hb5) | (go_at_call 10; have _ := m6; refine (qRb.out _ (bl_tr B2 X3)).mono ?_; rintro e u4 ⟨rfl, hb4⟩; have X4 := bl_tr X3 hb4; have m7 := True.intro; clear m6 hb4) | (go_at_call 10; have _ := m5; refine (right_at hA2 HRA.out _ X2).mono ?_; rintro e u3 ⟨rfl, hb3⟩; have X3 := bl_tr X2 hb3; have m6 := True.intro; clear m5 hb3) | (go_at_call 10; have _ := m4; refine (qRa.out _ (bl_tr B2 X1)).mono ?_; rintro e u2 ⟨rfl, hb2⟩; have X2 := bl_tr X1 hb2; have m5 := True.intro; clear m4 hb2) | (go_at_call 8; have _ := m3; refine (depth_at hA2 HCA.out HDN.out _ X0).mono ?_; rintro e u1 ⟨rfl, hb1⟩; have X1 := bl_tr X0 hb1; have m4 := True.intro; clear m3 hb1) | (go_at_call 9; have _ := m2; refine (nodes_at hA2 HCA.out HCN.out _ (Below.refl _ _)).mono ?_; rintro e u0 ⟨rfl, hb0⟩; have X0 := hb0; have m3 := True.intro; clear m2 hb0) | (at_builtin; have _ := m1; refine wpList_append_own _ rfl _ _ 22 rfl w.heap.size 38 i0 (.agg #[.int .i64 0, .int .i64 0, .string ⟨#[]⟩, .slice none 0 0, .slice none 0 0, .slice none 0 0, .slice none 0 0, .slice none 0 0, .slice none 0 0]) 9 176 Try.underlying22 hi hz0 hz1 hz2 rfl (by decide) _ _ _ rfl hown1 adb Lb.length cb valsb rfl fb.1 (XB.out _ B1) fb.2.1 (by unfold maxLen; omega) (by omega) B1.size ?_; intro v2 w2 hown2 hgrow2 _; have B2 : Below w.heap.size w w2 := B1.grown hgrow2 B1.size (own_block hown1); have hAll := hAL w2 v2 B2 hown2; have hZ := hLN.out; obtain ⟨aA, cA, rfl⟩ := hAll.1; have hA2 := hAll.2; have m2 := True.intro; clear m1 hgrow2 hAll hown2 hown1) | (at_builtin; have _ := m0; refine wpList_append_own_none rfl _ _ 22 rfl w.heap.size 38 i0 9 Try.underlying22 hi _ _ _ rfl row0 rfl ?_; have hown1 := row0; have B1 : Below w.heap.size w (w.alloc (.cells #[] 38)) := (bl_alloc (Below.refl _ _) _); have m1 := True.intro; clear m0))
          go_ret
          exact ⟨rfl, bl_tr B2 X5⟩
        · rcases hg with rfl | ⟨hg, rfl, hk0, hk1⟩
          · skip
            have m0 := True.intro
            go_enter Try.func5, Try.ntmps5
            go_wp2_with (first | (go_at_call 7; refine (alive_any _).mono ?_; rintro e u5 ⟨rfl, hb5⟩; have X5 := bl_tr X4 hb5) | (go_at_call 10; have _ := m6; refine (qRb.out _ (bl_tr B2 X3)).mono ?_; rintro e u4 ⟨rfl, hb4⟩; have X4 := bl_tr X3 hb4; have m7 := True.intro; clear m6 hb4) | (go_at_call 10; have _ := m5; refine (right_at hA2 HRA.out _ X2).mono ?_; rintro e u3 ⟨rfl, hb3⟩; have X3 := bl_tr X2 hb3; have m6 := True.intro; clear m5 hb3) | (go_at_call 10; have _ := m4; refine (qRa.out _ (bl_tr B2 X1)).mono ?_; rintro e u2 ⟨rfl, hb2⟩; have X2 := bl_tr X1 hb2; have m5 := True.intro; clear m4 hb2) | (go_at_call 8; have _ := m3; refine (depth_at hA2 HCA.out HDN.out _ X0).mono ?_; rintro e u1 ⟨rfl, hb1⟩; have X1 := bl_tr X0 hb1; have m4 := True.intro; clear m3 hb1) | (go_at_call 9; have _ := m2; refine (nodes_at hA2 HCA.out HCN.out _ (Below.refl _ _)).mono ?_; rintro e u0 ⟨rfl, hb0⟩; have X0 := hb0; have m3 := True.intro; clear m2 hb0) | (at_builtin; have _ := m1; refine wpList_append_own _ rfl _ _ 22 rfl w.heap.size 38 i0 (.agg #[.int .i64 0, .int .i64 0, .string ⟨#[]⟩, .slice none 0 0, .slice none 0 0, .slice none 0 0, .slice none 0 0, .slice none 0 0, .slice none 0 0]) 9 176 Try.underlying22 hi hz0 hz1 hz2 rfl (by decide) _ _ _ rfl hown1 adb Lb.length cb valsb rfl fb.1 (XB.out _ B1) fb.2.1 (by unfold maxLen; omega) (by omega) B1.size ?_; intro v2 w2 hown2 hgrow2 _; have B2 : Below w.heap.size w w2 := B1.grown hgrow2 B1.size (own_block hown1); have hAll := hAL w2 v2 B2 hown2; have hZ := hLN.out; obtain ⟨aA, cA, rfl⟩ := hAll.1; have hA2 := hAll.2; have m2 := True.intro; clear m1 hgrow2 hAll hown2 hown1) | (at_builtin; have _ := m0; refine wpList_append_own_none rfl _ _ 22 rfl w.heap.size 38 i0 9 Try.underlying22 hi _ _ _ rfl row0 rfl ?_; have hown1 := row0; have B1 : Below w.heap.size w (w.alloc (.cells #[] 38)) := (bl_alloc (Below.refl _ _) _); have m1 := True.intro; clear m0))
            go_ret
            exact ⟨rfl, bl_tr B2 X5⟩
          · have t3 : (ec != 0) = true := by rw [bne_iff_ne]; exact hg
            have t4 : (ec == 0) = false := by rw [beq_eq_false_iff_ne]; exact hg
            have m0 := True.intro
            go_enter Try.func5, Try.ntmps5
            go_wp2_with (first | (go_at_call 7; refine (alive_any _).mono ?_; rintro e u5 ⟨rfl, hb5⟩; have X5 := bl_tr X4 hb5) | (go_at_call 10; have _ := m6; refine (qRb.out _ (bl_tr B2 X3)).mono ?_; rintro e u4 ⟨rfl, hb4⟩; have X4 := bl_tr X3 hb4; have m7 := True.intro; clear m6 hb4) | (go_at_call 10; have _ := m5; refine (right_at hA2 HRA.out _ X2).mono ?_; rintro e u3 ⟨rfl, hb3⟩; have X3 := bl_tr X2 hb3; have m6 := True.intro; clear m5 hb3) | (go_at_call 10; have _ := m4; refine (qRa.out _ (bl_tr B2 X1)).mono ?_; rintro e u2 ⟨rfl, hb2⟩; have X2 := bl_tr X1 hb2; have m5 := True.intro; clear m4 hb2) | (go_at_call 8; have _ := m3; refine (depth_at hA2 HCA.out HDN.out _ X0).mono ?_; rintro e u1 ⟨rfl, hb1⟩; have X1 := bl_tr X0 hb1; have m4 := True.intro; clear m3 hb1) | (go_at_call 9; have _ := m2; refine (nodes_at hA2 HCA.out HCN.out _ (Below.refl _ _)).mono ?_; rintro e u0 ⟨rfl, hb0⟩; have X0 := hb0; have m3 := True.intro; clear m2 hb0) | (at_builtin; have _ := m1; refine wpList_append_own _ rfl _ _ 22 rfl w.heap.size 38 i0 (.agg #[.int .i64 0, .int .i64 0, .string ⟨#[]⟩, .slice none 0 0, .slice none 0 0, .slice none 0 0, .slice none 0 0, .slice none 0 0, .slice none 0 0]) 9 176 Try.underlying22 hi hz0 hz1 hz2 rfl (by decide) _ _ _ rfl hown1 adb Lb.length cb valsb rfl fb.1 (XB.out _ B1) fb.2.1 (by unfold maxLen; omega) (by omega) B1.size ?_; intro v2 w2 hown2 hgrow2 _; have B2 : Below w.heap.size w w2 := B1.grown hgrow2 B1.size (own_block hown1); have hAll := hAL w2 v2 B2 hown2; have hZ := hLN.out; obtain ⟨aA, cA, rfl⟩ := hAll.1; have hA2 := hAll.2; have m2 := True.intro; clear m1 hgrow2 hAll hown2 hown1) | (at_builtin; have _ := m0; refine wpList_append_own_none rfl _ _ 22 rfl w.heap.size 38 i0 9 Try.underlying22 hi _ _ _ rfl row0 rfl ?_; have hown1 := row0; have B1 : Below w.heap.size w (w.alloc (.cells #[] 38)) := (bl_alloc (Below.refl _ _) _); have m1 := True.intro; clear m0))
            go_ret
            exact ⟨rfl, bl_tr B2 X5⟩
  · rcases hb.flat fvb with ⟨rfl, rfl⟩ | ⟨adb, cb, valsb, rfl, fb, xb⟩
    · have XA : Hid (∀ W, Below w.heap.size w W → ∀ (j : Nat) u, valsa[j]? = some u → W.cell? (ada.add j) = some u) := fun W hW j u hu => (hW.cell (World.block_lt_of_cell? w _ (xa j u hu))).trans (xa j u hu)
      have hf : Flat w (max na nb) (La ++ []) ([] ++ valsa) := by
        have h := Flat.append (w := w) (n := max na nb) (fa.le (Nat.le_max_left na nb)) (Flat.nil _ _)
        simpa using h
      have hAL : ∀ (W : World) (v : Value) (hB : Below w.heap.size w W), W.ownsRow w.heap.size 38 9 v (0 + La.length) ([] ++ valsa) → (∃ a c, v = .slice a Ln c) ∧ AtL W Any (max na nb) 3 v (La ++ []) := by
        intro W v hB ho
        have h := AtL.of_own ho (hf.below hB) (by simp)
        obtain ⟨a, c, e, -⟩ := h.form
        exact ⟨⟨a, c, by rw [e, hLn]⟩, h⟩
      clear hLn hln ha hb fva fvb la lb hf xa
      rcases HD.out with ⟨t1, he⟩ | ⟨t1, t2, he⟩ | ⟨t1, t2, hc⟩
      · clear HD
        rcases he with rfl | rfl
        · skip
          have m0 := True.intro
          go_enter Try.func5, Try.ntmps5
          go_wp2_with (first | (go_at_call 7; refine (alive_any _).mono ?_; rintro e u2 ⟨rfl, hb2⟩; have X2 := bl_tr X1 hb2) | (go_at_call 10; have _ := m3; refine (right_at hA2 HRA.out _ X0).mono ?_; rintro e u1 ⟨rfl, hb1⟩; have X1 := bl_tr X0 hb1; have m4 := True.intro; clear m3 hb1) | (go_at_call 9; have _ := m2; refine (nodes_at hA2 HCA.out HCN.out _ (Below.refl _ _)).mono ?_; rintro e u0 ⟨rfl, hb0⟩; have X0 := hb0; have m3 := True.intro; clear m2 hb0) | (at_builtin; have _ := m1; refine wpList_append_own_none rfl _ _ 22 rfl w.heap.size 38 i0 9 Try.underlying22 hi _ _ _ rfl hown1 rfl ?_; have B2 := B1; have hAll := hAL _ _ B2 hown1; have hZ := hLN.out; have hA2 := hAll.2; obtain ⟨aA, cA, rfl⟩ := hAll.1; have m2 := True.intro; clear m1 hAll hown1) | (at_builtin; have _ := m0; refine wpList_append_own _ rfl _ _ 22 rfl w.heap.size 38 i0 (.agg #[.int .i64 0, .int .i64 0, .string ⟨#[]⟩, .slice none 0 0, .slice none 0 0, .slice none 0 0, .slice none 0 0, .slice none 0 0, .slice none 0 0]) 9 176 Try.underlying22 hi hz0 hz1 hz2 rfl (by decide) _ _ _ rfl row0 ada La.length ca valsa rfl fa.1 (XA.out _ (bl_alloc (Below.refl _ _) _)) fa.2.1 (by unfold maxLen; omega) (by omega) (by simp) ?_; intro v1 w1 hown1 hgrow1 _; have B1 : Below w.heap.size w w1 := (bl_alloc (Below.refl _ _) _).grown hgrow1 (by simp) (own_block row0); have m1 := True.intro; clear m0 hgrow1))
          go_ret
          exact ⟨rfl, bl_tr B2 X2⟩
        · skip
          have m0 := True.intro
          go_enter Try.func5, Try.ntmps5
          go_wp2_with (first | (go_at_call 7; refine (alive_any _).mono ?_; rintro e u2 ⟨rfl, hb2⟩; have X2 := bl_tr X1 hb2) | (go_at_call 10; have _ := m3; refine (right_at hA2 HRA.out _ X0).mono ?_; rintro e u1 ⟨rfl, hb1⟩; have X1 := bl_tr X0 hb1; have m4 := True.intro; clear m3 hb1) | (go_at_call 9; have _ := m2; refine (nodes_at hA2 HCA.out HCN.out _ (Below.refl _ _)).mono ?_; rintro e u0 ⟨rfl, hb0⟩; have X0 := hb0; have m3 := True.intro; clear m2 hb0) | (at_builtin; have _ := m1; refine wpList_append_own_none rfl _ _ 22 rfl w.heap.size 38 i0 9 Try.underlying22 hi _ _ _ rfl hown1 rfl ?_; have B2 := B1; have hAll := hAL _ _ B2 hown1; have hZ := hLN.out; have hA2 := hAll.2; obtain ⟨aA, cA, rfl⟩ := hAll.1; have m2 := True.intro; clear m1 hAll hown1) | (at_builtin; have _ := m0; refine wpList_append_own _ rfl _ _ 22 rfl w.heap.size 38 i0 (.agg #[.int .i64 0, .int .i64 0, .string ⟨#[]⟩, .slice none 0 0, .slice none 0 0, .slice none 0 0, .slice none 0 0, .slice none 0 0, .slice none 0 0]) 9 176 Try.underlying22 hi hz0 hz1 hz2 rfl (by decide) _ _ _ rfl row0 ada La.length ca valsa rfl fa.1 (XA.out _ (bl_alloc (Below.refl _ _) _)) fa.2.1 (by unfold maxLen; omega) (by omega) (by simp) ?_; intro v1 w1 hown1 hgrow1 _; have B1 : Below w.heap.size w w1 := (bl_alloc (Below.refl _ _) _).grown hgrow1 (by simp) (own_block row0); have m1 := True.intro; clear m0 hgrow1))
          go_ret
          exact ⟨rfl, bl_tr B2 X2⟩
      · subst he
        clear HD
        have m0 := True.intro
        go_enter Try.func5, Try.ntmps5
        go_wp2_with (first | (go_at_call 7; refine (alive_any _).mono ?_; rintro e u3 ⟨rfl, hb3⟩; have X3 := bl_tr X2 hb3) | (go_at_call 10; have _ := m4; refine (right_at hA2 HRA.out _ X1).mono ?_; rintro e u2 ⟨rfl, hb2⟩; have X2 := bl_tr X1 hb2; have m5 := True.intro; clear m4 hb2) | (go_at_call 8; have _ := m3; refine (depth_at hA2 HCA.out HDN.out _ X0).mono ?_; rintro e u1 ⟨rfl, hb1⟩; have X1 := bl_tr X0 hb1; have m4 := True.intro; clear m3 hb1) | (go_at_call 9; have _ := m2; refine (nodes_at hA2 HCA.out HCN.out _ (Below.refl _ _)).mono ?_; rintro e u0 ⟨rfl, hb0⟩; have X0 := hb0; have m3 := True.intro; clear m2 hb0) | (at_builtin; have _ := m1; refine wpList_append_own_none rfl _ _ 22 rfl w.heap.size 38 i0 9 Try.underlying22 hi _ _ _ rfl hown1 rfl ?_; have B2 := B1; have hAll := hAL _ _ B2 hown1; have hZ := hLN.out; have hA2 := hAll.2; obtain ⟨aA, cA, rfl⟩ := hAll.1; have m2 := True.intro; clear m1 hAll hown1) | (at_builtin; have _ := m0; refine wpList_append_own _ rfl _ _ 22 rfl w.heap.size 38 i0 (.agg #[.int .i64 0, .int .i64 0, .string ⟨#[]⟩, .slice none 0 0, .slice none 0 0, .slice none 0 0, .slice none 0 0, .slice none 0 0, .slice none 0 0]) 9 176 Try.underlying22 hi hz0 hz1 hz2 rfl (by decide) _ _ _ rfl row0 ada La.length ca valsa rfl fa.1 (XA.out _ (bl_alloc (Below.refl _ _) _)) fa.2.1 (by unfold maxLen; omega) (by omega) (by simp) ?_; intro v1 w1 hown1 hgrow1 _; have B1 : Below w.heap.size w w1 := (bl_alloc (Below.refl _ _) _).grown hgrow1 (by simp) (own_block row0); have m1 := True.intro; clear m0 hgrow1))
        go_ret
        exact ⟨rfl, bl_tr B2 X3⟩
      · clear HD
        rcases hc with ⟨he, rfl, rfl⟩ | ⟨rfl, rfl, hg⟩
        · have t3 : (ec != 0) = true := by rw [bne_iff_ne]; exact he
          have t4 : (ec == 0) = false := by rw [beq_eq_false_iff_ne]; exact he
          have m0 := True.intro
          go_enter Try.func5, Try.ntmps5
          go_wp2_with (first | (go_at_call 7; refine (alive_any _).mono ?_; rintro e u5 ⟨rfl, hb5⟩; have X5 := bl_tr X4 hb5) | (go_at_call 10; have _ := m6; refine (qRb.out _ (bl_tr B2 X3)).mono ?_; rintro e u4 ⟨rfl, hb4⟩; have X4 := bl_tr X3 hb4; have m7 := True.intro; clear m6 hb4) | (go_at_call 10; have _ := m5; refine (right_at hA2 HRA.out _ X2).mono ?_; rintro e u3 ⟨rfl, hb3⟩; have X3 := bl_tr X2 hb3; have m6 := True.intro; clear m5 hb3) | (go_at_call 10; have _ := m4; refine (qRa.out _ (bl_tr B2 X1)).mono ?_; rintro e u2 ⟨rfl, hb2⟩; have X2 := bl_tr X1 hb2; have m5 := True.intro; clear m4 hb2) | (go_at_call 8; have _ := m3; refine (depth_at hA2 HCA.out HDN.out _ X0).mono ?_; rintro e u1 ⟨rfl, hb1⟩; have X1 := bl_tr X0 hb1; have m4 := True.intro; clear m3 hb1) | (go_at_call 9; have _ := m2; refine (nodes_at hA2 HCA.out HCN.out _ (Below.refl _ _)).mono ?_; rintro e u0 ⟨rfl, hb0⟩; have X0 := hb0; have m3 := True.intro; clear m2 hb0) | (at_builtin; have _ := m1; refine wpList_append_own_none rfl _ _ 22 rfl w.heap.size 38 i0 9 Try.underlying22 hi _ _ _ rfl hown1 rfl ?_; have B2 := B1; have hAll := hAL _ _ B2 hown1; have hZ := hLN.out; have hA2 := hAll.2; obtain ⟨aA, cA, rfl⟩ := hAll.1; have m2 := True.intro; clear m1 hAll hown1) | (at_builtin; have _ := m0; refine wpList_append_own _ rfl _ _ 22 rfl w.heap.size 38 i0 (.agg #[.int .i64 0, .int .i64 0, .string ⟨#[]⟩, .slice none 0 0, .slice none 0 0, .slice none 0 0, .slice none 0 0, .slice none 0 0, .slice none 0 0]) 9 176 Try.underlying22 hi hz0 hz1 hz2 rfl (by decide) _ _ _ rfl row0 ada La.length ca valsa rfl fa.1 (XA.out _ (bl_alloc (Below.refl _ _) _)) fa.2.1 (by unfold maxLen; omega) (by omega) (by simp) ?_; intro v1 w1 hown1 hgrow1 _; have B1 : Below w.heap.size w w1 := (bl_alloc (Below.refl _ _) _).grown hgrow1 (by simp) (own_block row0); have m1 := True.intro; clear m0 hgrow1))
          go_ret
          exact ⟨rfl, bl_tr B2 X5⟩
        · rcases hg with rfl | ⟨hg, rfl, hk0, hk1⟩
          · skip
            have m0 := True.intro
            go_enter Try.func5, Try.ntmps5
            go_wp2_with (first | (go_at_call 7; refine (alive_any _).mono ?_; rintro e u5 ⟨rfl, hb5⟩; have X5 := bl_tr X4 hb5) | (go_at_call 10; have _ := m6; refine (qRb.out _ (bl_tr B2 X3)).mono ?_; rintro e u4 ⟨rfl, hb4⟩; have X4 := bl_tr X3 hb4; have m7 := True.intro; clear m6 hb4) | (go_at_call 10; have _ := m5; refine (right_at hA2 HRA.out _ X2).mono ?_; rintro e u3 ⟨rfl, hb3⟩; have X3 := bl_tr X2 hb3; have m6 := True.intro; clear m5 hb3) | (go_at_call 10; have _ := m4; refine (qRa.out _ (bl_tr B2 X1)).mono ?_; rintro e u2 ⟨rfl, hb2⟩; have X2 := bl_tr X1 hb2; have m5 := True.intro; clear m4 hb2) | (go_at_call 8; have _ := m3; refine (depth_at hA2 HCA.out HDN.out _ X0).mono ?_; rintro e u1 ⟨rfl, hb1⟩; have X1 := bl_tr X0 hb1; have m4 := True.intro; clear m3 hb1) | (go_at_call 9; have _ := m2; refine (nodes_at hA2 HCA.out HCN.out _ (Below.refl _ _)).mono ?_; rintro e u0 ⟨rfl, hb0⟩; have X0 := hb0; have m3 := True.intro; clear m2 hb0) | (at_builtin; have _ := m1; refine wpList_append_own_none rfl _ _ 22 rfl w.heap.size 38 i0 9 Try.underlying22 hi _ _ _ rfl hown1 rfl ?_; have B2 := B1; have hAll := hAL _ _ B2 hown1; have hZ := hLN.out; have hA2 := hAll.2; obtain ⟨aA, cA, rfl⟩ := hAll.1; have m2 := True.intro; clear m1 hAll hown1) | (at_builtin; have _ := m0; refine wpList_append_own _ rfl _ _ 22 rfl w.heap.size 38 i0 (.agg #[.int .i64 0, .int .i64 0, .string ⟨#[]⟩, .slice none 0 0, .slice none 0 0, .slice none 0 0, .slice none 0 0, .slice none 0 0, .slice none 0 0]) 9 176 Try.underlying22 hi hz0 hz1 hz2 rfl (by decide) _ _ _ rfl row0 ada La.length ca valsa rfl fa.1 (XA.out _ (bl_alloc (Below.refl _ _) _)) fa.2.1 (by unfold maxLen; omega) (by omega) (by simp) ?_; intro v1 w1 hown1 hgrow1 _; have B1 : Below w.heap.size w w1 := (bl_alloc (Below.refl _ _) _).grown hgrow1 (by simp) (own_block row0); have m1 := True.intro; clear m0 hgrow1))
            go_ret
            exact ⟨rfl, bl_tr B2 X5⟩
          · have t3 : (ec != 0) = true := by rw [bne_iff_ne]; exact hg
            have t4 : (ec == 0) = false := by rw [beq_eq_false_iff_ne]; exact hg
            have m0 := True.intro
            go_enter Try.func5, Try.ntmps5
            go_wp2_with (first | (go_at_call 7; refine (alive_any _).mono ?_; rintro e u5 ⟨rfl, hb5⟩; have X5 := bl_tr X4 hb5) | (go_at_call 10; have _ := m6; refine (qRb.out _ (bl_tr B2 X3)).mono ?_; rintro e u4 ⟨rfl, hb4⟩; have X4 := bl_tr X3 hb4; have m7 := True.intro; clear m6 hb4) | (go_at_call 10; have _ := m5; refine (right_at hA2 HRA.out _ X2).mono ?_; rintro e u3 ⟨rfl, hb3⟩; have X3 := bl_tr X2 hb3; have m6 := True.intro; clear m5 hb3) | (go_at_call 10; have _ := m4; refine (qRa.out _ (bl_tr B2 X1)).mono ?_; rintro e u2 ⟨rfl, hb2⟩; have X2 := bl_tr X1 hb2; have m5 := True.intro; clear m4 hb2) | (go_at_call 8; have _ := m3; refine (depth_at hA2 HCA.out HDN.out _ X0).mono ?_; rintro e u1 ⟨rfl, hb1⟩; have X1 := bl_tr X0 hb1; have m4 := True.intro; clear m3 hb1) | (go_at_call 9; have _ := m2; refine (nodes_at hA2 HCA.out HCN.out _ (Below.refl _ _)).mono ?_; rintro e u0 ⟨rfl, hb0⟩; have X0 := hb0; have m3 := True.intro; clear m2 hb0) | (at_builtin; have _ := m1; refine wpList_append_own_none rfl _ _ 22 rfl w.heap.size 38 i0 9 Try.underlying22 hi _ _ _ rfl hown1 rfl ?_; have B2 := B1; have hAll := hAL _ _ B2 hown1; have hZ := hLN.out; have hA2 := hAll.2; obtain ⟨aA, cA, rfl⟩ := hAll.1; have m2 := True.intro; clear m1 hAll hown1) | (at_builtin; have _ := m0; refine wpList_append_own _ rfl _ _ 22 rfl w.heap.size 38 i0 (.agg #[.int .i64 0, .int .i64 0, .string ⟨#[]⟩, .slice none 0 0, .slice none 0 0, .slice none 0 0, .slice none 0 0, .slice none 0 0, .slice none 0 0]) 9 176 Try.underlying22 hi hz0 hz1 hz2 rfl (by decide) _ _ _ rfl row0 ada La.length ca valsa rfl fa.1 (XA.out _ (bl_alloc (Below.refl _ _) _)) fa.2.1 (by unfold maxLen; omega) (by omega) (by simp) ?_; intro v1 w1 hown1 hgrow1 _; have B1 : Below w.heap.size w w1 := (bl_alloc (Below.refl _ _) _).grown hgrow1 (by simp) (own_block row0); have m1 := True.intro; clear m0 hgrow1))
            go_ret
            exact ⟨rfl, bl_tr B2 X5⟩
    · have XA : Hid (∀ W, Below w.heap.size w W → ∀ (j : Nat) u, valsa[j]? = some u → W.cell? (ada.add j) = some u) := fun W hW j u hu => (hW.cell (World.block_lt_of_cell? w _ (xa j u hu))).trans (xa j u hu)
      have XB : Hid (∀ W, Below w.heap.size w W → ∀ (j : Nat) u, valsb[j]? = some u → W.cell? (adb.add j) = some u) := fun W hW j u hu => (hW.cell (World.block_lt_of_cell? w _ (xb j u hu))).trans (xb j u hu)
      have hf : Flat w (max na nb) (La ++ Lb) (([] ++ valsa) ++ valsb) := by
        have h := Flat.append (w := w) (n := max na nb) (fa.le (Nat.le_max_left na nb)) (fb.le (Nat.le_max_right na nb))
        simpa using h
      have hAL : ∀ (W : World) (v : Value) (hB : Below w.heap.size w W), W.ownsRow w.heap.size 38 9 v (0 + La.length + Lb.length) (([] ++ valsa) ++ valsb) → (∃ a c, v = .slice a Ln c) ∧ AtL W Any (max na nb) 3 v (La ++ Lb) := by
        intro W v hB ho
        have h := AtL.of_own ho (hf.below hB) (by simp)
        obtain ⟨a, c, e, -⟩ := h.form
        exact ⟨⟨a, c, by rw [e, hLn]⟩, h⟩
      clear hLn hln ha hb fva fvb la lb hf xa xb
      rcases HD.out with ⟨t1, he⟩ | ⟨t1, t2, he⟩ | ⟨t1, t2, hc⟩
      · clear HD
        rcases he with rfl | rfl
        · skip
          have m0 := True.intro
          go_enter Try.func5, Try.ntmps5
          go_wp2_with (first | (go_at_call 7; refine (alive_any _).mono ?_; rintro e u2 ⟨rfl, hb2⟩; have X2 := bl_tr X1 hb2) | (go_at_call 10; have _ := m3; refine (right_at hA2 HRA.out _ X0).mono ?_; rintro e u1 ⟨rfl, hb1⟩; have X1 := bl_tr X0 hb1; have m4 := True.intro; clear m3 hb1) | (go_at_call 9; have _ := m2; refine (nodes_at hA2 HCA.out HCN.out _ (Below.refl _ _)).mono ?_; rintro e u0 ⟨rfl, hb0⟩; have X0 := hb0; have m3 := True.intro; clear m2 hb0) | (at_builtin; have _ := m1; refine wpList_append_own _ rfl _ _ 22 rfl w.heap.size 38 i0 (.agg #[.int .i64 0, .int .i64 0, .string ⟨#[]⟩, .slice none 0 0, .slice none 0 0, .slice none 0 0, .slice none 0 0, .slice none 0 0, .slice none 0 0]) 9 176 Try.underlying22 hi hz0 hz1 hz2 rfl (by decide) _ _ _ rfl hown1 adb Lb.length cb valsb rfl fb.1 (XB.out _ B1) fb.2.1 (by unfold maxLen; omega) (by omega) B1.size ?_; intro v2 w2 hown2 hgrow2 _; have B2 : Below w.heap.size w w2 := B1.grown hgrow2 B1.size (own_block hown1); have hAll := hAL w2 v2 B2 hown2; have hZ := hLN.out; obtain ⟨aA, cA, rfl⟩ := hAll.1; have hA2 := hAll.2; have m2 := True.intro; clear m1 hgrow2 hAll hown2 hown1) | (at_builtin; have _ := m0; refine wpList_append_own _ rfl _ _ 22 rfl w.heap.size 38 i0 (.agg #[.int .i64 0, .int .i64 0, .string ⟨#[]⟩, .slice none 0 0, .slice none 0 0, .slice none 0 0, .slice none 0 0, .slice none 0 0, .slice none 0 0]) 9 176 Try.underlying22 hi hz0 hz1 hz2 rfl (by decide) _ _ _ rfl row0 ada La.length ca valsa rfl fa.1 (XA.out _ (bl_alloc (Below.refl _ _) _)) fa.2.1 (by unfold maxLen; omega) (by omega) (by simp) ?_; intro v1 w1 hown1 hgrow1 _; have B1 : Below w.heap.size w w1 := (bl_alloc (Below.refl _ _) _).grown hgrow1 (by simp) (own_block row0); have m1 := True.intro; clear m0 hgrow1))
          go_ret
          exact ⟨rfl, bl_tr B2 X2⟩
        · skip
          have m0 := True.intro
          go_enter Try.func5, Try.ntmps5
          go_wp2_with (first | (go_at_call 7; refine (alive_any _).mono ?_; rintro e u2 ⟨rfl, hb2⟩; have X2 := bl_tr X1 hb2) | (go_at_call 10; have _ := m3; refine (right_at hA2 HRA.out _ X0).mono ?_; rintro e u1 ⟨rfl, hb1⟩; have X1 := bl_tr X0 hb1; have m4 := True.intro; clear m3 hb1) | (go_at_call 9; have _ := m2; refine (nodes_at hA2 HCA.out HCN.out _ (Below.refl _ _)).mono ?_; rintro e u0 ⟨rfl, hb0⟩; have X0 := hb0; have m3 := True.intro; clear m2 hb0) | (at_builtin; have _ := m1; refine wpList_append_own _ rfl _ _ 22 rfl w.heap.size 38 i0 (.agg #[.int .i64 0, .int .i64 0, .string ⟨#[]⟩, .slice none 0 0, .slice none 0 0, .slice none 0 0, .slice none 0 0, .slice none 0 0, .slice none 0 0]) 9 176 Try.underlying22 hi hz0 hz1 hz2 rfl (by decide) _ _ _ rfl hown1 adb Lb.length cb valsb rfl fb.1 (XB.out _ B1) fb.2.1 (by unfold maxLen; omega) (by omega) B1.size ?_; intro v2 w2 hown2 hgrow2 _; have B2 : Below w.heap.size w w2 := B1.grown hgrow2 B1.size (own_block hown1); have hAll := hAL w2 v2 B2 hown2; have hZ := hLN.out; obtain ⟨aA, cA, rfl⟩ := hAll.1; have hA2 := hAll.2; have m2 := True.intro; clear m1 hgrow2 hAll hown2 hown1) | (at_builtin; have _ := m0; refine wpList_append_own _ rfl _ _ 22 rfl w.heap.size 38 i0 (.agg #[.int .i64 0, .int .i64 0, .string ⟨#[]⟩, .slice none 0 0, .slice none 0 0, .slice none 0 0, .slice none 0 0, .slice none 0 0, .slice none 0 0]) 9 176 Try.underlying22 hi hz0 hz1 hz2 rfl (by decide) _ _ _ rfl row0 ada La.length ca valsa rfl fa.1 (XA.out _ (bl_alloc (Below.refl _ _) _)) fa.2.1 (by unfold maxLen; omega) (by omega) (by simp) ?_; intro v1 w1 hown1 hgrow1 _; have B1 : Below w.heap.size w w1 := (bl_alloc (Below.refl _ _) _).grown hgrow1 (by simp) (own_block row0); have m1 := True.intro; clear m0 hgrow1))
          go_ret
          exact ⟨rfl, bl_tr B2 X2⟩
      · subst he
        clear HD
        have m0 := True.intro
        go_enter Try.func5, Try.ntmps5
        go_wp2_with (first | (go_at_call 7; refine (alive_any _).mono ?_; rintro e u3 ⟨rfl, hb3⟩; have X3 := bl_tr X2 hb3) | (go_at_call 10; have _ := m4; refine (right_at hA2 HRA.out _ X1).mono ?_; rintro e u2 ⟨rfl, hb2⟩; have X2 := bl_tr X1 hb2; have m5 := True.intro; clear m4 hb2) | (go_at_call 8; have _ := m3; refine (depth_at hA2 HCA.out HDN.out _ X0).mono ?_; rintro e u1 ⟨rfl, hb1⟩; have X1 := bl_tr X0 hb1; have m4 := True.intro; clear m3 hb1) | (go_at_call 9; have _ := m2; refine (nodes_at hA2 HCA.out HCN.out _ (Below.refl _ _)).mono ?_; rintro e u0 ⟨rfl, hb0⟩; have X0 := hb0; have m3 := True.intro; clear m2 hb0) | (at_builtin; have _ := m1; refine wpList_append_own _ rfl _ _ 22 rfl w.heap.size 38 i0 (.agg #[.int .i64 0, .int .i64 0, .string ⟨#[]⟩, .slice none 0 0, .slice none 0 0, .slice none 0 0, .slice none 0 0, .slice none 0 0, .slice none 0 0]) 9 176 Try.underlying22 hi hz0 hz1 hz2 rfl (by decide) _ _ _ rfl hown1 adb Lb.length cb valsb rfl fb.1 (XB.out _ B1) fb.2.1 (by unfold maxLen; omega) (by omega) B1.size ?_; intro v2 w2 hown2 hgrow2 _; have B2 : Below w.heap.size w w2 := B1.grown hgrow2 B1.size (own_block hown1); have hAll := hAL w2 v2 B2 hown2; have hZ := hLN.out; obtain ⟨aA, cA, rfl⟩ := hAll.1; have hA2 := hAll.2; have m2 := True.intro; clear m1 hgrow2 hAll hown2 hown1) | (at_builtin; have _ := m0; refine wpList_append_own _ rfl _ _ 22 rfl w.heap.size 38 i0 (.agg #[.int .i64 0, .int .i64 0, .string ⟨#[]⟩, .slice none 0 0, .slice none 0 0, .slice none 0 0, .slice none 0 0, .slice none 0 0, .slice none 0 0]) 9 176 Try.underlying22 hi hz0 hz1 hz2 rfl (by decide) _ _ _ rfl row0 ada La.length ca valsa rfl fa.1 (XA.out _ (bl_alloc (Below.refl _ _) _)) fa.2.1 (by unfold maxLen; omega) (by omega) (by simp) ?_; intro v1 w1 hown1 hgrow1 _; have B1 : Below w.heap.size w w1 := (bl_alloc (Below.refl _ _) _).grown hgrow1 (by simp) (own_block row0); have m1 := True.intro; clear m0 hgrow1))
        go_ret
        exact ⟨rfl, bl_tr B2 X3⟩
      · clear HD
        rcases hc with ⟨he, rfl, rfl⟩ | ⟨rfl, rfl, hg⟩
        · have t3 : (ec != 0) = true := by rw [bne_iff_ne]; exact he
          have t4 : (ec == 0) = false := by rw [beq_eq_false_iff_ne]; exact he
          have m0 := True.intro
          go_enter Try.func5, Try.ntmps5
          go_wp2_with (first | (go_at_call 7; refine (alive_any _).mono ?_; rintro e u5 ⟨rfl, hb5⟩; have X5 := bl_tr X4 hb5) | (go_at_call 10; have _ := m6; refine (qRb.out _ (bl_tr B2 X3)).mono ?_; rintro e u4 ⟨rfl, hb4⟩; have X4 := bl_tr X3 hb4; have m7 := True.intro; clear m6 hb4) | (go_at_call 10; have _ := m5; refine (right_at hA2 HRA.out _ X2).mono ?_; rintro e u3 ⟨rfl, hb3⟩; have X3 := bl_tr X2 hb3; have m6 := True.intro; clear m5 hb3) | (go_at_call 10; have _ := m4; refine (qRa.out _ (bl_tr B2 X1)).mono ?_; rintro e u2 ⟨rfl, hb2⟩; have X2 := bl_tr X1 hb2; have m5 := True.intro; clear m4 hb2) | (go_at_call 8; have _ := m3; refine (depth_at hA2 HCA.out HDN.out _ X0).mono ?_; rintro e u1 ⟨rfl, hb1⟩; have X1 := bl_tr X0 hb1; have m4 := True.intro; clear m3 hb1) | (go_at_call 9; have _ := m2; refine (nodes_at hA2 HCA.out HCN.out _ (Below.refl _ _)).mono ?_; rintro e u0 ⟨rfl, hb0⟩; have X0 := hb0; have m3 := True.intro; clear m2 hb0) | (at_builtin; have _ := m1; refine wpList_append_own _ rfl _ _ 22 rfl w.heap.size 38 i0 (.agg #[.int .i64 0, .int .i64 0, .string ⟨#[]⟩, .slice none 0 0, .slice none 0 0, .slice none 0 0, .slice none 0 0, .slice none 0 0, .slice none 0 0]) 9 176 Try.underlying22 hi hz0 hz1 hz2 rfl (by decide) _ _ _ rfl hown1 adb Lb.length cb valsb rfl fb.1 (XB.out _ B1) fb.2.1 (by unfold maxLen; omega) (by omega) B1.size ?_; intro v2 w2 hown2 hgrow2 _; have B2 : Below w.heap.size w w2 := B1.grown hgrow2 B1.size (own_block hown1); have hAll := hAL w2 v2 B2 hown2; have hZ := hLN.out; obtain ⟨aA, cA, rfl⟩ := hAll.1; have hA2 := hAll.2; have m2 := True.intro; clear m1 hgrow2 hAll hown2 hown1) | (at_builtin; have _ := m0; refine wpList_append_own _ rfl _ _ 22 rfl w.heap.size 38 i0 (.agg #[.int .i64 0, .int .i64 0, .string ⟨#[]⟩, .slice none 0 0, .slice none 0 0, .slice none 0 0, .slice none 0 0, .slice none 0 0, .slice none 0 0]) 9 176 Try.underlying22 hi hz0 hz1 hz2 rfl (by decide) _ _ _ rfl row0 ada La.length ca valsa rfl fa.1 (XA.out _ (bl_alloc (Below.refl _ _) _)) fa.2.1 (by unfold maxLen; omega) (by omega) (by simp) ?_; intro v1 w1 hown1 hgrow1 _; have B1 : Below w.heap.size w w1 := (bl_alloc (Below.refl _ _) _).grown hgrow1 (by simp) (own_block row0); have m1 := True.intro; clear m0 hgrow1))
          go_ret
          exact ⟨rfl, bl_tr B2 X5⟩
        · rcases hg with rfl | ⟨hg, rfl, hk0, hk1⟩
          · skip
            have m0 := True.intro
            go_enter Try.func5, Try.ntmps5
            go_wp2_with (first | (go_at_call 7; refine (alive_any _).mono ?_; rintro e u5 ⟨rfl, hb5⟩; have X5 := bl_tr X4 hb5) | (go_at_call 10; have _ := m6; refine (qRb.out _ (bl_tr B2 X3)).mono ?_; rintro e u4 ⟨rfl, hb4⟩; have X4 := bl_tr X3 hb4; have m7 := True.intro; clear m6 hb4) | (go_at_call 10; have _ := m5; refine (right_at hA2 HRA.out _ X2).mono ?_; rintro e u3 ⟨rfl, hb3⟩; have X3 := bl_tr X2 hb3; have m6 := True.intro; clear m5 hb3) | (go_at_call 10; have _ := m4; refine (qRa.out _ (bl_tr B2 X1)).mono ?_; rintro e u2 ⟨rfl, hb2⟩; have X2 := bl_tr X1 hb2; have m5 := True.intro; clear m4 hb2) | (go_at_call 8; have _ := m3; refine (depth_at hA2 HCA.out HDN.out _ X0).mono ?_; rintro e u1 ⟨rfl, hb1⟩; have X1 := bl_tr X0 hb1; have m4 := True.intro; clear m3 hb1) | (go_at_call 9; have _ := m2; refine (nodes_at hA2 HCA.out HCN.out _ (Below.refl _ _)).mono ?_; rintro e u0 ⟨rfl, hb0⟩; have X0 := hb0; have m3 := True.intro; clear m2 hb0) | (at_builtin; have _ := m1; refine wpList_append_own _ rfl _ _ 22 rfl w.heap.size 38 i0 (.agg #[.int .i64 0, .int .i64 0, .string ⟨#[]⟩, .slice none 0 0, .slice none 0 0, .slice none 0 0, .slice none 0 0, .slice none 0 0, .slice none 0 0]) 9 176 Try.underlying22 hi hz0 hz1 hz2 rfl (by decide) _ _ _ rfl hown1 adb Lb.length cb valsb rfl fb.1 (XB.out _ B1) fb.2.1 (by unfold maxLen; omega) (by omega) B1.size ?_; intro v2 w2 hown2 hgrow2 _; have B2 : Below w.heap.size w w2 := B1.grown hgrow2 B1.size (own_block hown1); have hAll := hAL w2 v2 B2 hown2; have hZ := hLN.out; obtain ⟨aA, cA, rfl⟩ := hAll.1; have hA2 := hAll.2; have m2 := True.intro; clear m1 hgrow2 hAll hown2 hown1) | (at_builtin; have _ := m0; refine wpList_append_own _ rfl _ _ 22 rfl w.heap.size 38 i0 (.agg #[.int .i64 0, .int .i64 0, .string ⟨#[]⟩, .slice none 0 0, .slice none 0 0, .slice none 0 0, .slice none 0 0, .slice none 0 0, .slice none 0 0]) 9 176 Try.underlying22 hi hz0 hz1 hz2 rfl (by decide) _ _ _ rfl row0 ada La.length ca valsa rfl fa.1 (XA.out _ (bl_alloc (Below.refl _ _) _)) fa.2.1 (by unfold maxLen; omega) (by omega) (by simp) ?_; intro v1 w1 hown1 hgrow1 _; have B1 : Below w.heap.size w w1 := (bl_alloc (Below.refl _ _) _).grown hgrow1 (by simp) (own_block row0); have m1 := True.intro; clear m0 hgrow1))
            go_ret
            exact ⟨rfl, bl_tr B2 X5⟩
          · have t3 : (ec != 0) = true := by rw [bne_iff_ne]; exact hg
            have t4 : (ec == 0) = false := by rw [beq_eq_false_iff_ne]; exact hg
            have m0 := True.intro
            go_enter Try.func5, Try.ntmps5
            go_wp2_with (first | (go_at_call 7; refine (alive_any _).mono ?_; rintro e u5 ⟨rfl, hb5⟩; have X5 := bl_tr X4 hb5) | (go_at_call 10; have _ := m6; refine (qRb.out _ (bl_tr B2 X3)).mono ?_; rintro e u4 ⟨rfl, hb4⟩; have X4 := bl_tr X3 hb4; have m7 := True.intro; clear m6 hb4) | (go_at_call 10; have _ := m5; refine (right_at hA2 HRA.out _ X2).mono ?_; rintro e u3 ⟨rfl, hb3⟩; have X3 := bl_tr X2 hb3; have m6 := True.intro; clear m5 hb3) | (go_at_call 10; have _ := m4; refine (qRa.out _ (bl_tr B2 X1)).mono ?_; rintro e u2 ⟨rfl, hb2⟩; have X2 := bl_tr X1 hb2; have m5 := True.intro; clear m4 hb2) | (go_at_call 8; have _ := m3; refine (depth_at hA2 HCA.out HDN.out _ X0).mono ?_; rintro e u1 ⟨rfl, hb1⟩; have X1 := bl_tr X0 hb1; have m4 := True.intro; clear m3 hb1) | (go_at_call 9; have _ := m2; refine (nodes_at hA2 HCA.out HCN.out _ (Below.refl _ _)).mono ?_; rintro e u0 ⟨rfl, hb0⟩; have X0 := hb0; have m3 := True.intro; clear m2 hb0) | (at_builtin; have _ := m1; refine wpList_append_own _ rfl _ _ 22 rfl w.heap.size 38 i0 (.agg #[.int .i64 0, .int .i64 0, .string ⟨#[]⟩, .slice none 0 0, .slice none 0 0, .slice none 0 0, .slice none 0 0, .slice none 0 0, .slice none 0 0]) 9 176 Try.underlying22 hi hz0 hz1 hz2 rfl (by decide) _ _ _ rfl hown1 adb Lb.length cb valsb rfl fb.1 (XB.out _ B1) fb.2.1 (by unfold maxLen; omega) (by omega) B1.size ?_; intro v2 w2 hown2 hgrow2 _; have B2 : Below w.heap.size w w2 := B1.grown hgrow2 B1.size (own_block hown1); have hAll := hAL w2 v2 B2 hown2; have hZ := hLN.out; obtain ⟨aA, cA, rfl⟩ := hAll.1; have hA2 := hAll.2; have m2 := True.intro; clear m1 hgrow2 hAll hown2 hown1) | (at_builtin; have _ := m0; refine wpList_append_own _ rfl _ _ 22 rfl w.heap.size 38 i0 (.agg #[.int .i64 0, .int .i64 0, .string ⟨#[]⟩, .slice none 0 0, .slice none 0 0, .slice none 0 0, .slice none 0 0, .slice none 0 0, .slice none 0 0]) 9 176 Try.underlying22 hi hz0 hz1 hz2 rfl (by decide) _ _ _ rfl row0 ada La.length ca valsa rfl fa.1 (XA.out _ (bl_alloc (Below.refl _ _) _)) fa.2.1 (by unfold maxLen; omega) (by omega) (by simp) ?_; intro v1 w1 hown1 hgrow1 _; have B1 : Below w.heap.size w w1 := (bl_alloc (Below.refl _ _) _).grown hgrow1 (by simp) (own_block row0); have m1 := True.intro; clear m0 hgrow1))
            go_ret
            exact ⟨rfl, bl_tr B2 X5⟩
end Go.Proofs.Ytgiegjghldhppab
