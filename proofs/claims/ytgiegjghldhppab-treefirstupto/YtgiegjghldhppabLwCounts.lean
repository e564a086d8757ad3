/- TreeCounts: the walk. -/
import Derived.Test.YtgiegjghldhppabNdA
import Derived.Test.YtgiegjghldhppabNdK
import Derived.Test.YtgiegjghldhppabNdG
namespace Go.Proofs.Ytgiegjghldhppab
open Go.RowKit
set_option linter.unusedVariables false

theorem Nd.len_le : ∀ l : List Nd, l.length ≤ Nd.cntL l
  | [] => by rw [Nd.cntL]; simp
  | x :: r => by
    have h1 := Nd.len_le r
    have h2 := Nd.cnt_pos x
    rw [Nd.cntL, List.length_cons]; omega
theorem nodes_at {w : World} {n : Nat} {v : Value} {l : List Nd} {a : Int} (h : AtL w Any n 3 v l) (hb : Nd.cntL l ≤ 4194304) (ha : (Nd.cntL l : Int) = a) (W : World) (hW : Below w.heap.size w W) :
    Calls Try.prog 9 #[v] W fun e w' => e = .returned (.int .i64 a) ∧ Below W.heap.size W w' := by
  have := nodes_any n W v l (h.below hW)
  rw [Nd.meter_eq hb] at this
  subst ha
  exact this
theorem depth_at {w : World} {n : Nat} {v : Value} {l : List Nd} {a : Int} (h : AtL w Any n 3 v l) (hb : Nd.cntL l ≤ 4194304) (ha : (Nd.depL l : Int) = a) (W : World) (hW : Below w.heap.size w W) :
    Calls Try.prog 8 #[v] W fun e w' => e = .returned (.int .i64 a) ∧ Below W.heap.size W w' := by
  have := depth_any n W v l (h.below hW)
  rw [Nd.meter_eq hb] at this
  subst ha
  exact this
theorem own_block {w : World} {B n : Nat} {e : TypeId} {s : Nat} {v : Value} {xs : List Value} (h : w.ownsRow B e s v n xs) : ∀ k, v.ownBlock = some k → B ≤ k := by
  intro k hk
  obtain ⟨-, h | ⟨g, cap, cur, rfl, hg, -⟩⟩ := h
  · rw [h.1] at hk; cases hk
  · have : g = k := by simpa [Value.ownBlock] using hk
    omega
theorem row_start (w : World) (t : TypeId) : (w.alloc (.cells #[] t)).ownsRow w.heap.size t 9 (.slice (some ⟨w.heap.size, 0, none⟩) 0 0) 0 [] := by
  refine ⟨rfl, .inr ⟨w.heap.size, 0, #[], rfl, Nat.le_refl _, ?_, Nat.le_refl _, Nat.zero_le _, rfl, rfl⟩⟩
  show (w.heap.push _)[w.heap.size]? = _
  simp

set_option maxHeartbeats 8000000 in
set_option maxRecDepth 100000 in
theorem counts_walk (w : World) (na nb : Nat) (va : Value) (La : List Nd) (ha : AtL w Any na 3 va La) (vb : Value) (Lb : List Nd) (hb : AtL w Any nb 3 vb Lb)
    (fva : va = .slice none 0 0 ∨ ∃ ad m c, va = .slice (some ad) m c) (fvb : vb = .slice none 0 0 ∨ ∃ ad m c, vb = .slice (some ad) m c) (hbd : Nd.cntL La + Nd.cntL Lb ≤ 1048576) :
    Calls Try.prog 4 #[va, vb] w fun e w' => e = .returned (.bool true) ∧ Below w.heap.size w w' := by
  obtain ⟨i0, hi, hz0, hz1, hz2⟩ := nd_info_parts info_dec
  have row0 := row_start w 38
  have la := Nd.len_le La
  have lb := Nd.len_le Lb
  have hlen : La.length ≤ 1048576 ∧ Lb.length ≤ 1048576 := by omega
  obtain ⟨A, hAe⟩ : ∃ A : Int, (Nd.cntL La : Int) = A := ⟨_, rfl⟩
  obtain ⟨B, hBe⟩ : ∃ B : Int, (Nd.cntL Lb : Int) = B := ⟨_, rfl⟩
  obtain ⟨DA, hDAe⟩ : ∃ D : Int, (Nd.depL La : Int) = D := ⟨_, rfl⟩
  obtain ⟨DB, hDBe⟩ : ∃ D : Int, (Nd.depL Lb : Int) = D := ⟨_, rfl⟩
  have qNa : Hid (∀ W, Below w.heap.size w W → _) := fun W hW => nodes_at ha (by omega) hAe W hW
  have qNb : Hid (∀ W, Below w.heap.size w W → _) := fun W hW => nodes_at hb (by omega) hBe W hW
  have qDa : Hid (∀ W, Below w.heap.size w W → _) := fun W hW => depth_at ha (by omega) hDAe W hW
  have qDb : Hid (∀ W, Below w.heap.size w W → _) := fun W hW => depth_at hb (by omega) hDBe W hW
  have hcA : Nd.cntL (La ++ Lb) ≤ 4194304 := by rw [Nd.cntL_append]; omega
  have hcAe : (Nd.cntL (La ++ Lb) : Int) = A + B := by rw [Nd.cntL_append, ← hAe, ← hBe]; omega
  obtain ⟨Ln, hLn⟩ : ∃ Ln, (La ++ Lb).length = Ln := ⟨_, rfl⟩
  have hLN : Hid (((Ln : Int) == 0) = (A + B == 0)) := by
    have h0 := Nd.cntL_zero (La ++ Lb)
    show _ = _
    rw [Bool.eq_iff_iff, beq_iff_eq, beq_iff_eq, ← hcAe]
    omega
  have hab : -1 < A ∧ -1 < B ∧ A ≤ 1048576 ∧ B ≤ 1048576 := by omega
  have HCA : Hid (Nd.cntL (La ++ Lb) ≤ 4194304) := hcA
  have HCE : Hid ((Nd.cntL (La ++ Lb) : Int) = A + B) := hcAe
  have hdep : Hid ((Nd.depL (La ++ Lb) : Int) = max DA DB) := by show _ = _; rw [Nd.depL_append, ← hDAe, ← hDBe]; omega
  rcases ha.flat fva with ⟨rfl, rfl⟩ | ⟨ada, ca, valsa, rfl, fa, xa⟩

  · rcases hb.flat fvb with ⟨rfl, rfl⟩ | ⟨adb, cb, valsb, rfl, fb, xb⟩
    · skip
      have hf : Flat w (max na nb) ([] ++ []) [] := by
        have h := Flat.append (w := w) (n := max na nb) (Flat.nil _ _) (Flat.nil _ _)
        simpa using h
      have hAL : ∀ (W : World) (v : Value) (hB : Below w.heap.size w W), W.ownsRow w.heap.size 38 9 v (0) [] → (∃ a c, v = .slice a Ln c) ∧ AtL W Any (max na nb) 3 v ([] ++ []) := by
        intro W v hB ho
        have h := AtL.of_own ho (hf.below hB) (by simp)
        obtain ⟨a, c, e, -⟩ := h.form
        exact ⟨⟨a, c, by rw [e, hLn]⟩, h⟩
      obtain rfl : 0 = Ln := by simpa using hLn
      clear hcA hcAe hLn ha hb fva fvb la lb hf
      have hcA := HCA.out
      have hcAe := HCE.out
      obtain rfl : A = 0 := by rw [← hAe]; rfl
      obtain rfl : B = 0 := by rw [← hBe]; rfl
      obtain rfl : DA = 0 := by rw [← hDAe]; rfl
      obtain rfl : DB = 0 := by rw [← hDBe]; rfl
      have hdL : ((Nd.depL _ : Nat) : Int) = 0 := hdep.out.trans (by omega)
      clear hAe hBe hDAe hDBe hab
      have m0 := True.intro
      go_enter Try.func4, Try.ntmps4
      go_wp2_with (first | (go_at_call 7; refine (alive_any _).mono ?_; rintro e u7 ⟨rfl, hb7⟩; have X7 := bl_tr X6 hb7) | (go_at_call 9; have _ := m8; refine (nodes_at hA2 hcA hcAe _ X5).mono ?_; rintro e u6 ⟨rfl, hb6⟩; have X6 := bl_tr X5 hb6; have m9 := True.intro; clear m8 hb6) | (go_at_call 8; have _ := m7; refine (depth_at hA2 hcA hdL _ X4).mono ?_; rintro e u5 ⟨rfl, hb5⟩; have X5 := bl_tr X4 hb5; have m8 := True.intro; clear m7 hb5) | (go_at_call 9; have _ := m6; refine (qNb.out _ (bl_tr B2 X3)).mono ?_; rintro e u4 ⟨rfl, hb4⟩; have X4 := bl_tr X3 hb4; have m7 := True.intro; clear m6 hb4) | (go_at_call 9; have _ := m5; refine (qNa.out _ (bl_tr B2 X2)).mono ?_; rintro e u3 ⟨rfl, hb3⟩; have X3 := bl_tr X2 hb3; have m6 := True.intro; clear m5 hb3) | (go_at_call 9; have _ := m4; refine (nodes_at hA2 hcA hcAe _ X1).mono ?_; rintro e u2 ⟨rfl, hb2⟩; have X2 := bl_tr X1 hb2; have m5 := True.intro; clear m4 hb2) | (go_at_call 8; have _ := m3; refine (qDb.out _ (bl_tr B2 X0)).mono ?_; rintro e u1 ⟨rfl, hb1⟩; have X1 := bl_tr X0 hb1; have m4 := True.intro; clear m3 hb1) | (go_at_call 8; have _ := m2; refine (qDa.out _ B2).mono ?_; rintro e u0 ⟨rfl, hb0⟩; have X0 := hb0; have m3 := True.intro; clear m2 hb0) | (at_builtin; have _ := m1; refine wpList_append_own_none rfl _ _ 22 rfl w.heap.size 38 i0 9 Try.underlying22 hi _ _ _ rfl hown1 rfl ?_; have B2 := B1; have hAll := hAL _ _ B2 hown1; have hZ := hLN.out; have hA2 := hAll.2;  have m2 := True.intro; clear m1 hAll hown1) | (at_builtin; have _ := m0; refine wpList_append_own_none rfl _ _ 22 rfl w.heap.size 38 i0 9 Try.underlying22 hi _ _ _ rfl row0 rfl ?_; have hown1 := row0; have B1 : Below w.heap.size w (w.alloc (.cells #[] 38)) := (bl_alloc (Below.refl _ _) _); have m1 := True.intro; clear m0))
      go_ret
      exact ⟨rfl, bl_tr B2 X7⟩
    · skip
      have XB : Hid (∀ W, Below w.heap.size w W → ∀ (j : Nat) u, valsb[j]? = some u → W.cell? (adb.add j) = some u) := fun W hW j u hu => (hW.cell (World.block_lt_of_cell? w _ (xb j u hu))).trans (xb j u hu)
      have hf : Flat w (max na nb) ([] ++ Lb) ([] ++ valsb) := by
        have h := Flat.append (w := w) (n := max na nb) (Flat.nil _ _) (fb.le (Nat.le_max_right na nb))
        simpa using h
      have hAL : ∀ (W : World) (v : Value) (hB : Below w.heap.size w W), W.ownsRow w.heap.size 38 9 v (0 + Lb.length) ([] ++ valsb) → (∃ a c, v = .slice a Ln c) ∧ AtL W Any (max na nb) 3 v ([] ++ Lb) := by
        intro W v hB ho
        have h := AtL.of_own ho (hf.below hB) (by simp)
        obtain ⟨a, c, e, -⟩ := h.form
        exact ⟨⟨a, c, by rw [e, hLn]⟩, h⟩
      clear hcA hcAe hLn ha hb fva fvb la lb hf xb
      have hcA := HCA.out
      have hcAe := HCE.out
      by_cases hgt : DA < DB
      · have hdG : ((Nd.depL _ : Nat) : Int) = DB := hdep.out.trans (by omega)
        have m0 := True.intro
        go_enter Try.func4, Try.ntmps4
        go_wp2_with (first | (go_at_call 7; refine (alive_any _).mono ?_; rintro e u8 ⟨rfl, hb8⟩; have X8 := bl_tr X7 hb8) | (go_at_call 9; have _ := m9; refine (nodes_at hA2 hcA hcAe _ X6).mono ?_; rintro e u7 ⟨rfl, hb7⟩; have X7 := bl_tr X6 hb7; have m10 := True.intro; clear m9 hb7) | (go_at_call 8; have _ := m8; refine (depth_at hA2 hcA hdG _ X5).mono ?_; rintro e u6 ⟨rfl, hb6⟩; have X6 := bl_tr X5 hb6; have m9 := True.intro; clear m8 hb6) | (go_at_call 9; have _ := m7; refine (qNb.out _ (bl_tr B2 X4)).mono ?_; rintro e u5 ⟨rfl, hb5⟩; have X5 := bl_tr X4 hb5; have m8 := True.intro; clear m7 hb5) | (go_at_call 9; have _ := m6; refine (qNa.out _ (bl_tr B2 X3)).mono ?_; rintro e u4 ⟨rfl, hb4⟩; have X4 := bl_tr X3 hb4; have m7 := True.intro; clear m6 hb4) | (go_at_call 9; have _ := m5; refine (nodes_at hA2 hcA hcAe _ X2).mono ?_; rintro e u3 ⟨rfl, hb3⟩; have X3 := bl_tr X2 hb3; have m6 := True.intro; clear m5 hb3) | (go_at_call 8; have _ := m4; refine (qDb.out _ (bl_tr B2 X1)).mono ?_; rintro e u2 ⟨rfl, hb2⟩; have X2 := bl_tr X1 hb2; have m5 := True.intro; clear m4 hb2) | (go_at_call 8; have _ := m3; refine (qDb.out _ (bl_tr B2 X0)).mono ?_; rintro e u1 ⟨rfl, hb1⟩; have X1 := bl_tr X0 hb1; have m4 := True.intro; clear m3 hb1) | (go_at_call 8; have _ := m2; refine (qDa.out _ B2).mono ?_; rintro e u0 ⟨rfl, hb0⟩; have X0 := hb0; have m3 := True.intro; clear m2 hb0) | (at_builtin; have _ := m1; refine wpList_append_own _ rfl _ _ 22 rfl w.heap.size 38 i0 (.agg #[.int .i64 0, .int .i64 0, .string ⟨#[]⟩, .slice none 0 0, .slice none 0 0, .slice none 0 0, .slice none 0 0, .slice none 0 0, .slice none 0 0]) 9 176 Try.underlying22 hi hz0 hz1 hz2 rfl (by decide) _ _ _ rfl hown1 adb Lb.length cb valsb rfl fb.1 (XB.out _ B1) fb.2.1 (by unfold maxLen; omega) (by omega) B1.size ?_; intro v2 w2 hown2 hgrow2 _; have B2 : Below w.heap.size w w2 := B1.grown hgrow2 B1.size (own_block hown1); have hAll := hAL w2 v2 B2 hown2; have hZ := hLN.out; obtain ⟨aA, cA, rfl⟩ := hAll.1; have hA2 := hAll.2; have m2 := True.intro; clear m1 hgrow2 hAll hown2 hown1) | (at_builtin; have _ := m0; refine wpList_append_own_none rfl _ _ 22 rfl w.heap.size 38 i0 9 Try.underlying22 hi _ _ _ rfl row0 rfl ?_; have hown1 := row0; have B1 : Below w.heap.size w (w.alloc (.cells #[] 38)) := (bl_alloc (Below.refl _ _) _); have m1 := True.intro; clear m0))
        go_ret
        exact ⟨rfl, bl_tr B2 X8⟩
      · have hdL : ((Nd.depL _ : Nat) : Int) = DA := hdep.out.trans (by omega)
        have m0 := True.intro
        go_enter Try.func4, Try.ntmps4
        go_wp2_with (first | (go_at_call 7; refine (alive_any _).mono ?_; rintro e u7 ⟨rfl, hb7⟩; have X7 := bl_tr X6 hb7) | (go_at_call 9; have _ := m8; refine (nodes_at hA2 hcA hcAe _ X5).mono ?_; rintro e u6 ⟨rfl, hb6⟩; have X6 := bl_tr X5 hb6; have m9 := True.intro; clear m8 hb6) | (go_at_call 8; have _ := m7; refine (depth_at hA2 hcA hdL _ X4).mono ?_; rintro e u5 ⟨rfl, hb5⟩; have X5 := bl_tr X4 hb5; have m8 := True.intro; clear m7 hb5) | (go_at_call 9; have _ := m6; refine (qNb.out _ (bl_tr B2 X3)).mono ?_; rintro e u4 ⟨rfl, hb4⟩; have X4 := bl_tr X3 hb4; have m7 := True.intro; clear m6 hb4) | (go_at_call 9; have _ := m5; refine (qNa.out _ (bl_tr B2 X2)).mono ?_; rintro e u3 ⟨rfl, hb3⟩; have X3 := bl_tr X2 hb3; have m6 := True.intro; clear m5 hb3) | (go_at_call 9; have _ := m4; refine (nodes_at hA2 hcA hcAe _ X1).mono ?_; rintro e u2 ⟨rfl, hb2⟩; have X2 := bl_tr X1 hb2; have m5 := True.intro; clear m4 hb2) | (go_at_call 8; have _ := m3; refine (qDb.out _ (bl_tr B2 X0)).mono ?_; rintro e u1 ⟨rfl, hb1⟩; have X1 := bl_tr X0 hb1; have m4 := True.intro; clear m3 hb1) | (go_at_call 8; have _ := m2; refine (qDa.out _ B2).mono ?_; rintro e u0 ⟨rfl, hb0⟩; have X0 := hb0; have m3 := True.intro; clear m2 hb0) | (at_builtin; have _ := m1; refine wpList_append_own _ rfl _ _ 22 rfl w.heap.size 38 i0 (.agg #[.int .i64 0, .int .i64 0, .string ⟨#[]⟩, .slice none 0 0, .slice none 0 0, .slice none 0 0, .slice none 0 0, .slice none 0 0, .slice none 0 0]) 9 176 Try.underlying22 hi hz0 hz1 hz2 rfl (by decide) _ _ _ rfl hown1 adb Lb.length cb valsb rfl fb.1 (XB.out _ B1) fb.2.1 (by unfold maxLen; omega) (by omega) B1.size ?_; intro v2 w2 hown2 hgrow2 _; have B2 : Below w.heap.size w w2 := B1.grown hgrow2 B1.size (own_block hown1); have hAll := hAL w2 v2 B2 hown2; have hZ := hLN.out; obtain ⟨aA, cA, rfl⟩ := hAll.1; have hA2 := hAll.2; have m2 := True.intro; clear m1 hgrow2 hAll hown2 hown1) | (at_builtin; have _ := m0; refine wpList_append_own_none rfl _ _ 22 rfl w.heap.size 38 i0 9 Try.underlying22 hi _ _ _ rfl row0 rfl ?_; have hown1 := row0; have B1 : Below w.heap.size w (w.alloc (.cells #[] 38)) := (bl_alloc (Below.refl _ _) _); have m1 := True.intro; clear m0))
        go_ret
        exact ⟨rfl, bl_tr B2 X7⟩
  · rcases hb.flat fvb with ⟨rfl, rfl⟩ | ⟨adb, cb, valsb, rfl, fb, xb⟩
    · have XA : Hid (∀ W, Below w.heap.size w W → ∀ (j : Nat) u, valsa[j]? = some u → W.cell? (ada.add j) = some u) := fun W hW j u hu => (hW.cell (World.block_lt_of_cell? w _ (xa j u hu))).trans (xa j u hu)
      have hf : Flat w (max na nb) (La ++ []) ([] ++ valsa) := by
        have h := Flat.append (w := w) (n := max na nb) (fa.le (Nat.le_max_left na nb)) (Flat.nil _ _)
        simpa using h
      have hAL : ∀ (W : World) (v : Value) (hB : Below w.heap.size w W), W.ownsRow w.heap.size 38 9 v (0 + La.length) ([] ++ valsa) → (∃ a c, v = .slice a Ln c) ∧ AtL W Any (max na nb) 3 v (La ++ []) := by
        intro W v hB ho
        have h := AtL.of_own ho (hf.below hB) (by simp)
        obtain ⟨a, c, e, -⟩ := h.form
        exact ⟨⟨a, c, by rw [e, hLn]⟩, h⟩
      clear hcA hcAe hLn ha hb fva fvb la lb hf xa
      have hcA := HCA.out
      have hcAe := HCE.out
      by_cases hgt : DA < DB
      · have hdG : ((Nd.depL _ : Nat) : Int) = DB := hdep.out.trans (by omega)
        have m0 := True.intro
        go_enter Try.func4, Try.ntmps4
        go_wp2_with (first | (go_at_call 7; refine (alive_any _).mono ?_; rintro e u8 ⟨rfl, hb8⟩; have X8 := bl_tr X7 hb8) | (go_at_call 9; have _ := m9; refine (nodes_at hA2 hcA hcAe _ X6).mono ?_; rintro e u7 ⟨rfl, hb7⟩; have X7 := bl_tr X6 hb7; have m10 := True.intro; clear m9 hb7) | (go_at_call 8; have _ := m8; refine (depth_at hA2 hcA hdG _ X5).mono ?_; rintro e u6 ⟨rfl, hb6⟩; have X6 := bl_tr X5 hb6; have m9 := True.intro; clear m8 hb6) | (go_at_call 9; have _ := m7; refine (qNb.out _ (bl_tr B2 X4)).mono ?_; rintro e u5 ⟨rfl, hb5⟩; have X5 := bl_tr X4 hb5; have m8 := True.intro; clear m7 hb5) | (go_at_call 9; have _ := m6; refine (qNa.out _ (bl_tr B2 X3)).mono ?_; rintro e u4 ⟨rfl, hb4⟩; have X4 := bl_tr X3 hb4; have m7 := True.intro; clear m6 hb4) | (go_at_call 9; have _ := m5; refine (nodes_at hA2 hcA hcAe _ X2).mono ?_; rintro e u3 ⟨rfl, hb3⟩; have X3 := bl_tr X2 hb3; have m6 := True.intro; clear m5 hb3) | (go_at_call 8; have _ := m4; refine (qDb.out _ (bl_tr B2 X1)).mono ?_; rintro e u2 ⟨rfl, hb2⟩; have X2 := bl_tr X1 hb2; have m5 := True.intro; clear m4 hb2) | (go_at_call 8; have _ := m3; refine (qDb.out _ (bl_tr B2 X0)).mono ?_; rintro e u1 ⟨rfl, hb1⟩; have X1 := bl_tr X0 hb1; have m4 := True.intro; clear m3 hb1) | (go_at_call 8; have _ := m2; refine (qDa.out _ B2).mono ?_; rintro e u0 ⟨rfl, hb0⟩; have X0 := hb0; have m3 := True.intro; clear m2 hb0) | (at_builtin; have _ := m1; refine wpList_append_own_none rfl _ _ 22 rfl w.heap.size 38 i0 9 Try.underlying22 hi _ _ _ rfl hown1 rfl ?_; have B2 := B1; have hAll := hAL _ _ B2 hown1; have hZ := hLN.out; have hA2 := hAll.2; obtain ⟨aA, cA, rfl⟩ := hAll.1; have m2 := True.intro; clear m1 hAll hown1) | (at_builtin; have _ := m0; refine wpList_append_own _ rfl _ _ 22 rfl w.heap.size 38 i0 (.agg #[.int .i64 0, .int .i64 0, .string ⟨#[]⟩, .slice none 0 0, .slice none 0 0, .slice none 0 0, .slice none 0 0, .slice none 0 0, .slice none 0 0]) 9 176 Try.underlying22 hi hz0 hz1 hz2 rfl (by decide) _ _ _ rfl row0 ada La.length ca valsa rfl fa.1 (XA.out _ (bl_alloc (Below.refl _ _) _)) fa.2.1 (by unfold maxLen; omega) (by omega) (by simp) ?_; intro v1 w1 hown1 hgrow1 _; have B1 : Below w.heap.size w w1 := (bl_alloc (Below.refl _ _) _).grown hgrow1 (by simp) (own_block row0); have m1 := True.intro; clear m0 hgrow1))
        go_ret
        exact ⟨rfl, bl_tr B2 X8⟩
      · have hdL : ((Nd.depL _ : Nat) : Int) = DA := hdep.out.trans (by omega)
        have m0 := True.intro
        go_enter Try.func4, Try.ntmps4
        go_wp2_with (first | (go_at_call 7; refine (alive_any _).mono ?_; rintro e u7 ⟨rfl, hb7⟩; have X7 := bl_tr X6 hb7) | (go_at_call 9; have _ := m8; refine (nodes_at hA2 hcA hcAe _ X5).mono ?_; rintro e u6 ⟨rfl, hb6⟩; have X6 := bl_tr X5 hb6; have m9 := True.intro; clear m8 hb6) | (go_at_call 8; have _ := m7; refine (depth_at hA2 hcA hdL _ X4).mono ?_; rintro e u5 ⟨rfl, hb5⟩; have X5 := bl_tr X4 hb5; have m8 := True.intro; clear m7 hb5) | (go_at_call 9; have _ := m6; refine (qNb.out _ (bl_tr B2 X3)).mono ?_; rintro e u4 ⟨rfl, hb4⟩; have X4 := bl_tr X3 hb4; have m7 := True.intro; clear m6 hb4) | (go_at_call 9; have _ := m5; refine (qNa.out _ (bl_tr B2 X2)).mono ?_; rintro e u3 ⟨rfl, hb3⟩; have X3 := bl_tr X2 hb3; have m6 := True.intro; clear m5 hb3) | (go_at_call 9; have _ := m4; refine (nodes_at hA2 hcA hcAe _ X1).mono ?_; rintro e u2 ⟨rfl, hb2⟩; have X2 := bl_tr X1 hb2; have m5 := True.intro; clear m4 hb2) | (go_at_call 8; have _ := m3; refine (qDb.out _ (bl_tr B2 X0)).mono ?_; rintro e u1 ⟨rfl, hb1⟩; have X1 := bl_tr X0 hb1; have m4 := True.intro; clear m3 hb1) | (go_at_call 8; have _ := m2; refine (qDa.out _ B2).mono ?_; rintro e u0 ⟨rfl, hb0⟩; have X0 := hb0; have m3 := True.intro; clear m2 hb0) | (at_builtin; have _ := m1; refine wpList_append_own_none rfl _ _ 22 rfl w.heap.size 38 i0 9 Try.underlying22 hi _ _ _ rfl hown1 rfl ?_; have B2 := B1; have hAll := hAL _ _ B2 hown1; have hZ := hLN.out; have hA2 := hAll.2; obtain ⟨aA, cA, rfl⟩ := hAll.1; have m2 := True.intro; clear m1 hAll hown1) | (at_builtin; have _ := m0; refine wpList_append_own _ rfl _ _ 22 rfl w.heap.size 38 i0 (.agg #[.int .i64 0, .int .i64 0, .string ⟨#[]⟩, .slice none 0 0, .slice none 0 0, .slice none 0 0, .slice none 0 0, .slice none 0 0, .slice none 0 0]) 9 176 Try.underlying22 hi hz0 hz1 hz2 rfl (by decide) _ _ _ rfl row0 ada La.length ca valsa rfl fa.1 (XA.out _ (bl_alloc (Below.refl _ _) _)) fa.2.1 (by unfold maxLen; omega) (by omega) (by simp) ?_; intro v1 w1 hown1 hgrow1 _; have B1 : Below w.heap.size w w1 := (bl_alloc (Below.refl _ _) _).grown hgrow1 (by simp) (own_block row0); have m1 := True.intro; clear m0 hgrow1))
        go_ret
        exact ⟨rfl, bl_tr B2 X7⟩
    · have XA : Hid (∀ W, Below w.heap.size w W → ∀ (j : Nat) u, valsa[j]? = some u → W.cell? (ada.add j) = some u) := fun W hW j u hu => (hW.cell (World.block_lt_of_cell? w _ (xa j u hu))).trans (xa j u hu)
      have XB : Hid (∀ W, Below w.heap.size w W → ∀ (j : Nat) u, valsb[j]? = some u → W.cell? (adb.add j) = some u) := fun W hW j u hu => (hW.cell (World.block_lt_of_cell? w _ (xb j u hu))).trans (xb j u hu)
      have hf : Flat w (max na nb) (La ++ Lb) (([] ++ valsa) ++ valsb) := by
        have h := Flat.append (w := w) (n := max na nb) (fa.le (Nat.le_max_left na nb)) (fb.le (Nat.le_max_right na nb))
        simpa using h
      have hAL : ∀ (W : World) (v : Value) (hB : Below w.heap.size w W), W.ownsRow w.heap.size 38 9 v (0 + La.length + Lb.length) (([] ++ valsa) ++ valsb) → (∃ a c, v = .slice a Ln c) ∧ AtL W Any (max na nb) 3 v (La ++ Lb) := by
        intro W v hB ho
        have h := AtL.of_own ho (hf.below hB) (by simp)
        obtain ⟨a, c, e, -⟩ := h.form
        exact ⟨⟨a, c, by rw [e, hLn]⟩, h⟩
      clear hcA hcAe hLn ha hb fva fvb la lb hf xa xb
      have hcA := HCA.out
      have hcAe := HCE.out
      by_cases hgt : DA < DB
      · have hdG : ((Nd.depL _ : Nat) : Int) = DB := hdep.out.trans (by omega)
        have m0 := True.intro
        go_enter Try.func4, Try.ntmps4
        go_wp2_with (first | (go_at_call 7; refine (alive_any _).mono ?_; rintro e u8 ⟨rfl, hb8⟩; have X8 := bl_tr X7 hb8) | (go_at_call 9; have _ := m9; refine (nodes_at hA2 hcA hcAe _ X6).mono ?_; rintro e u7 ⟨rfl, hb7⟩; have X7 := bl_tr X6 hb7; have m10 := True.intro; clear m9 hb7) | (go_at_call 8; have _ := m8; refine (depth_at hA2 hcA hdG _ X5).mono ?_; rintro e u6 ⟨rfl, hb6⟩; have X6 := bl_tr X5 hb6; have m9 := True.intro; clear m8 hb6) | (go_at_call 9; have _ := m7; refine (qNb.out _ (bl_tr B2 X4)).mono ?_; rintro e u5 ⟨rfl, hb5⟩; have X5 := bl_tr X4 hb5; have m8 := True.intro; clear m7 hb5) | (go_at_call 9; have _ := m6; refine (qNa.out _ (bl_tr B2 X3)).mono ?_; rintro e u4 ⟨rfl, hb4⟩; have X4 := bl_tr X3 hb4; have m7 := True.intro; clear m6 hb4) | (go_at_call 9; have _ := m5; refine (nodes_at hA2 hcA hcAe _ X2).mono ?_; rintro e u3 ⟨rfl, hb3⟩; have X3 := bl_tr X2 hb3; have m6 := True.intro; clear m5 hb3) | (go_at_call 8; have _ := m4; refine (qDb.out _ (bl_tr B2 X1)).mono ?_; rintro e u2 ⟨rfl, hb2⟩; have X2 := bl_tr X1 hb2; have m5 := True.intro; clear m4 hb2) | (go_at_call 8; have _ := m3; refine (qDb.out _ (bl_tr B2 X0)).mono ?_; rintro e u1 ⟨rfl, hb1⟩; have X1 := bl_tr X0 hb1; have m4 := True.intro; clear m3 hb1) | (go_at_call 8; have _ := m2; refine (qDa.out _ B2).mono ?_; rintro e u0 ⟨rfl, hb0⟩; have X0 := hb0; have m3 := True.intro; clear m2 hb0) | (at_builtin; have _ := m1; refine wpList_append_own _ rfl _ _ 22 rfl w.heap.size 38 i0 (.agg #[.int .i64 0, .int .i64 0, .string ⟨#[]⟩, .slice none 0 0, .slice none 0 0, .slice none 0 0, .slice none 0 0, .slice none 0 0, .slice none 0 0]) 9 176 Try.underlying22 hi hz0 hz1 hz2 rfl (by decide) _ _ _ rfl hown1 adb Lb.length cb valsb rfl fb.1 (XB.out _ B1) fb.2.1 (by unfold maxLen; omega) (by omega) B1.size ?_; intro v2 w2 hown2 hgrow2 _; have B2 : Below w.heap.size w w2 := B1.grown hgrow2 B1.size (own_block hown1); have hAll := hAL w2 v2 B2 hown2; have hZ := hLN.out; obtain ⟨aA, cA, rfl⟩ := hAll.1; have hA2 := hAll.2; have m2 := True.intro; clear m1 hgrow2 hAll hown2 hown1) | (at_builtin; have _ := m0; refine wpList_append_own _ rfl _ _ 22 rfl w.heap.size 38 i0 (.agg #[.int .i64 0, .int .i64 0, .string ⟨#[]⟩, .slice none 0 0, .slice none 0 0, .slice none 0 0, .slice none 0 0, .slice none 0 0, .slice none 0 0]) 9 176 Try.underlying22 hi hz0 hz1 hz2 rfl (by decide) _ _ _ rfl row0 ada La.length ca valsa rfl fa.1 (XA.out _ (bl_alloc (Below.refl _ _) _)) fa.2.1 (by unfold maxLen; omega) (by omega) (by simp) ?_; intro v1 w1 hown1 hgrow1 _; have B1 : Below w.heap.size w w1 := (bl_alloc (Below.refl _ _) _).grown hgrow1 (by simp) (own_block row0); have m1 := True.intro; clear m0 hgrow1))
        go_ret
        exact ⟨rfl, bl_tr B2 X8⟩
      · have hdL : ((Nd.depL _ : Nat) : Int) = DA := hdep.out.trans (by omega)
        have m0 := True.intro
        go_enter Try.func4, Try.ntmps4
        go_wp2_with (first | (go_at_call 7; refine (alive_any _).mono ?_; rintro e u7 ⟨rfl, hb7⟩; have X7 := bl_tr X6 hb7) | (go_at_call 9; have _ := m8; refine (nodes_at hA2 hcA hcAe _ X5).mono ?_; rintro e u6 ⟨rfl, hb6⟩; have X6 := bl_tr X5 hb6; have m9 := True.intro; clear m8 hb6) | (go_at_call 8; have _ := m7; refine (depth_at hA2 hcA hdL _ X4).mono ?_; rintro e u5 ⟨rfl, hb5⟩; have X5 := bl_tr X4 hb5; have m8 := True.intro; clear m7 hb5) | (go_at_call 9; have _ := m6; refine (qNb.out _ (bl_tr B2 X3)).mono ?_; rintro e u4 ⟨rfl, hb4⟩; have X4 := bl_tr X3 hb4; have m7 := True.intro; clear m6 hb4) | (go_at_call 9; have _ := m5; refine (qNa.out _ (bl_tr B2 X2)).mono ?_; rintro e u3 ⟨rfl, hb3⟩; have X3 := bl_tr X2 hb3; have m6 := True.intro; clear m5 hb3) | (go_at_call 9; have _ := m4; refine (nodes_at hA2 hcA hcAe _ X1).mono ?_; rintro e u2 ⟨rfl, hb2⟩; have X2 := bl_tr X1 hb2; have m5 := True.intro; clear m4 hb2) | (go_at_call 8; have _ := m3; refine (qDb.out _ (bl_tr B2 X0)).mono ?_; rintro e u1 ⟨rfl, hb1⟩; have X1 := bl_tr X0 hb1; have m4 := True.intro; clear m3 hb1) | (go_at_call 8; have _ := m2; refine (qDa.out _ B2).mono ?_; rintro e u0 ⟨rfl, hb0⟩; have X0 := hb0; have m3 := True.intro; clear m2 hb0) | (at_builtin; have _ := m1; refine wpList_append_own _ rfl _ _ 22 rfl w.heap.size 38 i0 (.agg #[.int .i64 0, .int .i64 0, .string ⟨#[]⟩, .slice none 0 0, .slice none 0 0, .slice none 0 0, .slice none 0 0, .slice none 0 0, .slice none 0 0]) 9 176 Try.underlying22 hi hz0 hz1 hz2 rfl (by decide) _ _ _ rfl hown1 adb Lb.length cb valsb rfl fb.1 (XB.out _ B1) fb.2.1 (by unfold maxLen; omega) (by omega) B1.size ?_; intro v2 w2 hown2 hgrow2 _; have B2 : Below w.heap.size w w2 := B1.grown hgrow2 B1.size (own_block hown1); have hAll := hAL w2 v2 B2 hown2; have hZ := hLN.out; obtain ⟨aA, cA, rfl⟩ := hAll.1; have hA2 := hAll.2; have m2 := True.intro; clear m1 hgrow2 hAll hown2 hown1) | (at_builtin; have _ := m0; refine wpList_append_own _ rfl _ _ 22 rfl w.heap.size 38 i0 (.agg #[.int .i64 0, .int .i64 0, .string ⟨#[]⟩, .slice none 0 0, .slice none 0 0, .slice none 0 0, .slice none 0 0, .slice none 0 0, .slice none 0 0]) 9 176 Try.underlying22 hi hz0 hz1 hz2 rfl (by decide) _ _ _ rfl row0 ada La.length ca valsa rfl fa.1 (XA.out _ (bl_alloc (Below.refl _ _) _)) fa.2.1 (by unfold maxLen; omega) (by omega) (by simp) ?_; intro v1 w1 hown1 hgrow1 _; have B1 : Below w.heap.size w w1 := (bl_alloc (Below.refl _ _) _).grown hgrow1 (by simp) (own_block row0); have m1 := True.intro; clear m0 hgrow1))
        go_ret
        exact ⟨rfl, bl_tr B2 X7⟩
end Go.Proofs.Ytgiegjghldhppab
