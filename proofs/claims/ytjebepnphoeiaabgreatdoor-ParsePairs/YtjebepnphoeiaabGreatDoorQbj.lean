/- Pieces: GrL. -/
import Derived.Test.YtjebepnphoeiaabGreatDoorQbf
namespace Go.Proofs.YtjebepnphoeiaabGreatDoor
open Go.RowKit
set_option linter.unusedVariables false
set_option linter.unusedSimpArgs false

set_option maxHeartbeats 1600000 in
set_option maxRecDepth 100000 in
theorem gr_atom (f : Nat) (ihR : Gr.Rule 126 .restExp 2 f) (ihL : Gr.Rule 127 (.letGo []) 2 f) (ihC : Gr.Rule 128 .case 2 f) : Gr.Rule2 118 .atom 2 Gr.begE (f + 1) := by
  intro w B S ts h hbeg hne
  rw [show Gr.g (f + 1) .atom ts = (if Gr.kd ts = 4 then .ok (Gr.expN 1 0 (Gr.hn ts) [] [] [] [] []) ts.tail
      else if (decide (Gr.kd ts = 1) || decide (Gr.kd ts = 2)) = true then (Gr.either ts).bind fun p low r => .ok (Gr.expN (if low = true then 5 else 6) 0 0 p [] [] [] []) r
      else if Gr.isT [116, 114, 117, 101] ts = true then .ok (Gr.expN 2 0 0 [] [] [] [] []) ts.tail
      else if Gr.isT [102, 97, 108, 115, 101] ts = true then .ok (Gr.expN 3 0 0 [] [] [] [] []) ts.tail
      else if Gr.isT [40] ts = true then Gr.g f .restExp ts.tail
      else if Gr.isT [108, 101, 116] ts = true then Gr.g f (.letGo []) ts.tail
      else if Gr.isT [99, 97, 115, 101] ts = true then Gr.g f .case ts.tail
      else .bad ts 11) from rfl] at hne ⊢
  have hlt := h.lt
  have st0 := Stt.init h [.int .i64 0, .int .i64 0, .int .i64 0, .slice none 0 0, .slice none 0 0, .slice none 0 0, .slice none 0 0, .slice none 0 0] 28 (by simp)
  obtain ⟨K, hK⟩ : ∃ K : Int, (Gr.kd ts : Int) = K := ⟨_, rfl⟩
  obtain ⟨T, hTx⟩ : ∃ T : ByteArray, Gr.hd ts = T := ⟨_, rfl⟩
  obtain ⟨n1, hn1⟩ : ∃ K : Int, (Gr.hn ts : Int) = K := ⟨_, rfl⟩
  obtain ⟨n2, hn2⟩ : ∃ K : Int, Gr.at0 S ts = K := ⟨_, rfl⟩
  obtain ⟨nz, hnz⟩ : ∃ b : Bool, decide (ts ≠ []) = b := ⟨_, rfl⟩
  have qn : Hid (∀ ob, Calls Tryz.prog 32 #[.pointer (some ⟨B, 0, none⟩)] (w.alloc ob) fun e w' => e = .returned (.tuple #[.agg #[.int .i64 K, .string T, .int .i64 n1, .int .i64 n2], .bool nz]) ∧ Below (w.alloc ob).heap.size (w.alloc ob) w') := fun ob => by rw [← hK, ← hTx, ← hn1, ← hn2, ← hnz]; exact gr_next _ B S ts (h.alloc _)
  have hTs : T.size ≤ maxLen := by
    rw [← hTx]
    cases ts with
    | nil => show 0 ≤ maxLen; omega
    | cons t r =>
      have := (h.ok t (List.mem_cons_self ..)).len
      show t.text.toArray.size ≤ maxLen
      rw [List.size_toArray]; unfold maxLen; omega
  clear hn2 hnz
  by_cases h4 : Gr.kd ts = 4
  · rw [if_pos h4, hn1]
    cases ts with
    | nil => cases h4
    | cons t r =>
      have hnn : -9223372036854775808 ≤ n1 ∧ n1 ≤ 9223372036854775807 := by
        rw [← hn1]
        have := (h.ok t (List.mem_cons_self ..)).num
        show -9223372036854775808 ≤ (t.n : Int) ∧ (t.n : Int) ≤ 9223372036854775807
        omega
      obtain rfl : K = 4 := by omega
      have HNN : Hid (-9223372036854775808 ≤ n1 ∧ n1 ≤ 9223372036854775807) := hnn
      clear hne h hTx hK h4 hbeg hnn hn1
      go_enter Tryz.func118, Tryz.ntmps118
      go_wp2_with (first | (go_at_call 34; refine st1.out.step.mono ?_; rintro e w2 ⟨rfl, st2⟩; obtain ⟨⟨k0, k1, k2, k3, k4, k5, k6, k7⟩, z0, z1, z2, z3, z4, z5, z6, z7⟩ := st2.out.p.1.e8; have hlw := st2.out.sz; obtain ⟨⟨htk0, htk1, htk2, htk3⟩, htz0, htz1, htz2, htz3⟩ := st2.out.p.2.e4; clear st1) | (go_at_call 32; refine (qn.out _).mono ?_; rintro e w0 ⟨rfl, hb00⟩; have st1 := (st0.out.bel hb00).out.new [.int .i64 4, .string T, .int .i64 n1, .int .i64 n2] 77 (by simp); clear hb00 st0))
      refine bodyPost_ret (v := .tuple #[.agg #[.int .i64 1, .int .i64 0, .int .i64 n1, .slice none 0 0, .slice none 0 0, .slice none 0 0, .slice none 0 0, .slice none 0 0], .bool true]) (by rw [results_cell_tmp (fn := Tryz.f118) (p := 2) (u := 3) (ty := 28) (by kernel_rfl)]; simp [go_sem, k0, k1, k2, k3, k4, k5, k6, k7]) rfl ?_
      exact st2.out.ans2 (by simp only [sv]) (At.exp_mk (n := 0) (by decide) (by decide) HNN.out (Tx.none0 ..) (fun x hx => by cases hx) (Nat.zero_le _) (AtL.none0 ..) (AtL.none0 ..) (AtL.none0 ..) (AtL.none0 ..))
  have hK4 : ¬ K = 4 := by omega
  rw [if_neg h4] at hne ⊢
  clear hn1
  by_cases h1 : Gr.kd ts = 1
  · rw [if_pos (by rw [h1]; rfl)]
    obtain rfl : K = 1 := by omega
    clear hne h hTx hK h1 h4 hbeg hK4
    cases hL : Gr.either ts with
    | bad r2 c =>
      have qG : Hid (∀ W, Rd W B S ts → Calls Tryz.prog 125 #[.pointer (some ⟨B, 0, none⟩)] W (Gr.Ans B S 2 W (.bad r2 c))) := fun W hW => by have := gr_pathExp W B S ts hW; rw [hL] at this; exact this
      clear hL
      go_enter Tryz.func118, Tryz.ntmps118
      go_wp2_with (first | (go_at_call 125; refine (qG.out _ st1.out.r).mono ?_; rintro e w2 ⟨rfl, hRR, hBB⟩) | (go_at_call 32; refine (qn.out _).mono ?_; rintro e w0 ⟨rfl, hb00⟩; have st1 := (st0.out.bel hb00).out.new [.int .i64 1, .string T, .int .i64 n1, .int .i64 n2] 77 (by simp); clear hb00 st0))
      exact ⟨rfl, rfl, hRR, st1.out.b.trans hBB⟩
    | ok p low r =>
      have qG : Hid (∀ W, Rd W B S ts → Calls Tryz.prog 125 #[.pointer (some ⟨B, 0, none⟩)] W (Gr.Ans B S 2 W (.ok (Gr.expN (if low = true then 5 else 6) 0 0 p [] [] [] []) r))) := fun W hW => by have := gr_pathExp W B S ts hW; rw [hL] at this; exact this
      clear hL
      go_enter Tryz.func118, Tryz.ntmps118
      go_wp2_with (first | (go_at_call 125; refine (qG.out _ st1.out.r).mono ?_; rintro e w2 ⟨⟨vsx, nx, rfl, ha0⟩, hRR, hBB⟩; obtain ⟨xi, xj, xk, xa, xn, xc, xd0, xm0, xe0, xd1, xm1, xe1, xd2, xm2, xe2, xd3, xm3, xe3, rfl⟩ := ha0.exp_form; have st2 := st1.out.addAt hRR hBB ha0; obtain ⟨⟨k0, k1, k2, k3, k4, k5, k6, k7⟩, z0, z1, z2, z3, z4, z5, z6, z7⟩ := st2.out.p.1.1.e8; have hlw := st2.out.sz; obtain ⟨⟨htk0, htk1, htk2, htk3⟩, htz0, htz1, htz2, htz3⟩ := st2.out.p.1.2.e4; clear hRR hBB ha0 st1) | (go_at_call 32; refine (qn.out _).mono ?_; rintro e w0 ⟨rfl, hb00⟩; have st1 := (st0.out.bel hb00).out.new [.int .i64 1, .string T, .int .i64 n1, .int .i64 n2] 77 (by simp); clear hb00 st0))
      refine bodyPost_ret (v := .tuple #[.agg #[.int .i64 xi, .int .i64 xj, .int .i64 xk, .slice xa xn xc, .slice xd0 xm0 xe0, .slice xd1 xm1 xe1, .slice xd2 xm2 xe2, .slice xd3 xm3 xe3], .bool true]) (by rw [results_cell_tmp (fn := Tryz.f118) (p := 2) (u := 3) (ty := 28) (by kernel_rfl)]; simp [go_sem, k0, k1, k2, k3, k4, k5, k6, k7]) rfl ?_
      exact st2.out.ans2 (by simp only [sv]) (st2.out.p.2)
  by_cases h2 : Gr.kd ts = 2
  · rw [if_pos (by rw [h2]; rfl)]
    obtain rfl : K = 2 := by omega
    clear hne h hTx hK h1 h2 h4 hbeg hK4
    cases hL : Gr.either ts with
    | bad r2 c =>
      have qG : Hid (∀ W, Rd W B S ts → Calls Tryz.prog 125 #[.pointer (some ⟨B, 0, none⟩)] W (Gr.Ans B S 2 W (.bad r2 c))) := fun W hW => by have := gr_pathExp W B S ts hW; rw [hL] at this; exact this
      clear hL
      go_enter Tryz.func118, Tryz.ntmps118
      go_wp2_with (first | (go_at_call 125; refine (qG.out _ st1.out.r).mono ?_; rintro e w2 ⟨rfl, hRR, hBB⟩) | (go_at_call 32; refine (qn.out _).mono ?_; rintro e w0 ⟨rfl, hb00⟩; have st1 := (st0.out.bel hb00).out.new [.int .i64 2, .string T, .int .i64 n1, .int .i64 n2] 77 (by simp); clear hb00 st0))
      exact ⟨rfl, rfl, hRR, st1.out.b.trans hBB⟩
    | ok p low r =>
      have qG : Hid (∀ W, Rd W B S ts → Calls Tryz.prog 125 #[.pointer (some ⟨B, 0, none⟩)] W (Gr.Ans B S 2 W (.ok (Gr.expN (if low = true then 5 else 6) 0 0 p [] [] [] []) r))) := fun W hW => by have := gr_pathExp W B S ts hW; rw [hL] at this; exact this
      clear hL
      go_enter Tryz.func118, Tryz.ntmps118
      go_wp2_with (first | (go_at_call 125; refine (qG.out _ st1.out.r).mono ?_; rintro e w2 ⟨⟨vsx, nx, rfl, ha0⟩, hRR, hBB⟩; obtain ⟨xi, xj, xk, xa, xn, xc, xd0, xm0, xe0, xd1, xm1, xe1, xd2, xm2, xe2, xd3, xm3, xe3, rfl⟩ := ha0.exp_form; have st2 := st1.out.addAt hRR hBB ha0; obtain ⟨⟨k0, k1, k2, k3, k4, k5, k6, k7⟩, z0, z1, z2, z3, z4, z5, z6, z7⟩ := st2.out.p.1.1.e8; have hlw := st2.out.sz; obtain ⟨⟨htk0, htk1, htk2, htk3⟩, htz0, htz1, htz2, htz3⟩ := st2.out.p.1.2.e4; clear hRR hBB ha0 st1) | (go_at_call 32; refine (qn.out _).mono ?_; rintro e w0 ⟨rfl, hb00⟩; have st1 := (st0.out.bel hb00).out.new [.int .i64 2, .string T, .int .i64 n1, .int .i64 n2] 77 (by simp); clear hb00 st0))
      refine bodyPost_ret (v := .tuple #[.agg #[.int .i64 xi, .int .i64 xj, .int .i64 xk, .slice xa xn xc, .slice xd0 xm0 xe0, .slice xd1 xm1 xe1, .slice xd2 xm2 xe2, .slice xd3 xm3 xe3], .bool true]) (by rw [results_cell_tmp (fn := Tryz.f118) (p := 2) (u := 3) (ty := 28) (by kernel_rfl)]; simp [go_sem, k0, k1, k2, k3, k4, k5, k6, k7]) rfl ?_
      exact st2.out.ans2 (by simp only [sv]) (st2.out.p.2)
  have hK1 : ¬ K = 1 := by omega
  have hK2 : ¬ K = 2 := by omega
  rw [if_neg (by simp [h1, h2])] at hne ⊢
  cases hT0 : Gr.isT [116, 114, 117, 101] ts with
  | true =>
    simp only [hT0, if_true]
    clear hne h hTx hK h1 h2 h4 hbeg
    go_enter Tryz.func118, Tryz.ntmps118
    go_wp2_with (first | (go_at_call 15; refine (st1.out.tkT ⟨#[116, 114, 117, 101]⟩ hT0).mono ?_; rintro e w2 ⟨rfl, st2⟩; obtain ⟨⟨k0, k1, k2, k3, k4, k5, k6, k7⟩, z0, z1, z2, z3, z4, z5, z6, z7⟩ := st2.out.p.1.e8; have hlw := st2.out.sz; obtain ⟨⟨htk0, htk1, htk2, htk3⟩, htz0, htz1, htz2, htz3⟩ := st2.out.p.2.e4; clear st1) | (go_at_call 32; refine (qn.out _).mono ?_; rintro e w0 ⟨rfl, hb00⟩; have st1 := (st0.out.bel hb00).out.new [.int .i64 K, .string T, .int .i64 n1, .int .i64 n2] 77 (by simp); clear hb00 st0))
    refine bodyPost_ret (v := .tuple #[.agg #[.int .i64 2, .int .i64 0, .int .i64 0, .slice none 0 0, .slice none 0 0, .slice none 0 0, .slice none 0 0, .slice none 0 0], .bool true]) (by rw [results_cell_tmp (fn := Tryz.f118) (p := 2) (u := 3) (ty := 28) (by kernel_rfl)]; simp [go_sem, k0, k1, k2, k3, k4, k5, k6, k7]) rfl ?_
    exact st2.out.ans2 (by simp only [sv]) (At.exp_mk (n := 0) (by decide) (by decide) (by decide) (Tx.none0 ..) (fun x hx => by cases hx) (Nat.zero_le _) (AtL.none0 ..) (AtL.none0 ..) (AtL.none0 ..) (AtL.none0 ..))
  | false =>
    simp only [hT0, Bool.false_eq_true, if_false] at hne ⊢
    cases hT1 : Gr.isT [102, 97, 108, 115, 101] ts with
    | true =>
      simp only [hT1, if_true]
      clear hne h hTx hK h1 h2 h4 hbeg
      go_enter Tryz.func118, Tryz.ntmps118
      go_wp2_with (first | (go_at_call 15; refine (st2.out.tkT ⟨#[102, 97, 108, 115, 101]⟩ hT1).mono ?_; rintro e w3 ⟨rfl, st3⟩; obtain ⟨⟨k0, k1, k2, k3, k4, k5, k6, k7⟩, z0, z1, z2, z3, z4, z5, z6, z7⟩ := st3.out.p.1.e8; have hlw := st3.out.sz; obtain ⟨⟨htk0, htk1, htk2, htk3⟩, htz0, htz1, htz2, htz3⟩ := st3.out.p.2.e4; clear st2) | (go_at_call 15; refine (st1.out.tkF ⟨#[116, 114, 117, 101]⟩ hT0).mono ?_; rintro e w2 ⟨rfl, st2⟩; clear st1) | (go_at_call 32; refine (qn.out _).mono ?_; rintro e w0 ⟨rfl, hb00⟩; have st1 := (st0.out.bel hb00).out.new [.int .i64 K, .string T, .int .i64 n1, .int .i64 n2] 77 (by simp); clear hb00 st0))
      refine bodyPost_ret (v := .tuple #[.agg #[.int .i64 3, .int .i64 0, .int .i64 0, .slice none 0 0, .slice none 0 0, .slice none 0 0, .slice none 0 0, .slice none 0 0], .bool true]) (by rw [results_cell_tmp (fn := Tryz.f118) (p := 2) (u := 3) (ty := 28) (by kernel_rfl)]; simp [go_sem, k0, k1, k2, k3, k4, k5, k6, k7]) rfl ?_
      exact st3.out.ans2 (by simp only [sv]) (At.exp_mk (n := 0) (by decide) (by decide) (by decide) (Tx.none0 ..) (fun x hx => by cases hx) (Nat.zero_le _) (AtL.none0 ..) (AtL.none0 ..) (AtL.none0 ..) (AtL.none0 ..))
    | false =>
      simp only [hT1, Bool.false_eq_true, if_false] at hne ⊢
      cases hT2 : Gr.isT [40] ts with
      | true =>
        simp only [hT2, if_true] at hne ⊢
        clear h hTx hK h1 h2 h4 hbeg
        cases hG : Gr.g f .restExp ts.tail with
        | out => exact absurd hG hne
        | bad r2 c =>
          have qG : Hid (∀ W, Rd W B S ts.tail → Calls Tryz.prog 126 #[.pointer (some ⟨B, 0, none⟩)] W (Gr.Ans B S 2 W (.bad r2 c))) := fun W hW => by rw [← hG]; exact ihR W B S ts.tail hW (by rw [hG]; simp)
          clear hne hG
          go_enter Tryz.func118, Tryz.ntmps118
          go_wp2_with (first | (go_at_call 126; refine (qG.out _ st4.out.r).mono ?_; rintro e w5 ⟨rfl, hRR, hBB⟩) | (go_at_call 15; refine (st3.out.tkT ⟨#[40]⟩ hT2).mono ?_; rintro e w4 ⟨rfl, st4⟩; clear st3) | (go_at_call 15; refine (st2.out.tkF ⟨#[102, 97, 108, 115, 101]⟩ hT1).mono ?_; rintro e w3 ⟨rfl, st3⟩; clear st2) | (go_at_call 15; refine (st1.out.tkF ⟨#[116, 114, 117, 101]⟩ hT0).mono ?_; rintro e w2 ⟨rfl, st2⟩; clear st1) | (go_at_call 32; refine (qn.out _).mono ?_; rintro e w0 ⟨rfl, hb00⟩; have st1 := (st0.out.bel hb00).out.new [.int .i64 K, .string T, .int .i64 n1, .int .i64 n2] 77 (by simp); clear hb00 st0))
          exact ⟨rfl, rfl, hRR, st4.out.b.trans hBB⟩
        | ok a r =>
          have qG : Hid (∀ W, Rd W B S ts.tail → Calls Tryz.prog 126 #[.pointer (some ⟨B, 0, none⟩)] W (Gr.Ans B S 2 W (.ok a r))) := fun W hW => by rw [← hG]; exact ihR W B S ts.tail hW (by rw [hG]; simp)
          clear hne hG
          go_enter Tryz.func118, Tryz.ntmps118
          go_wp2_with (first | (go_at_call 126; refine (qG.out _ st4.out.r).mono ?_; rintro e w5 ⟨⟨vsx, nx, rfl, ha0⟩, hRR, hBB⟩; obtain ⟨xi, xj, xk, xa, xn, xc, xd0, xm0, xe0, xd1, xm1, xe1, xd2, xm2, xe2, xd3, xm3, xe3, rfl⟩ := ha0.exp_form; have st5 := st4.out.addAt hRR hBB ha0; obtain ⟨⟨k0, k1, k2, k3, k4, k5, k6, k7⟩, z0, z1, z2, z3, z4, z5, z6, z7⟩ := st5.out.p.1.1.e8; have hlw := st5.out.sz; obtain ⟨⟨htk0, htk1, htk2, htk3⟩, htz0, htz1, htz2, htz3⟩ := st5.out.p.1.2.e4; clear hRR hBB ha0 st4) | (go_at_call 15; refine (st3.out.tkT ⟨#[40]⟩ hT2).mono ?_; rintro e w4 ⟨rfl, st4⟩; clear st3) | (go_at_call 15; refine (st2.out.tkF ⟨#[102, 97, 108, 115, 101]⟩ hT1).mono ?_; rintro e w3 ⟨rfl, st3⟩; clear st2) | (go_at_call 15; refine (st1.out.tkF ⟨#[116, 114, 117, 101]⟩ hT0).mono ?_; rintro e w2 ⟨rfl, st2⟩; clear st1) | (go_at_call 32; refine (qn.out _).mono ?_; rintro e w0 ⟨rfl, hb00⟩; have st1 := (st0.out.bel hb00).out.new [.int .i64 K, .string T, .int .i64 n1, .int .i64 n2] 77 (by simp); clear hb00 st0))
          refine bodyPost_ret (v := .tuple #[.agg #[.int .i64 xi, .int .i64 xj, .int .i64 xk, .slice xa xn xc, .slice xd0 xm0 xe0, .slice xd1 xm1 xe1, .slice xd2 xm2 xe2, .slice xd3 xm3 xe3], .bool true]) (by rw [results_cell_tmp (fn := Tryz.f118) (p := 2) (u := 3) (ty := 28) (by kernel_rfl)]; simp [go_sem, k0, k1, k2, k3, k4, k5, k6, k7]) rfl ?_
          exact st5.out.ans2 (by simp only [sv]) (st5.out.p.2)
      | false =>
        simp only [hT2, Bool.false_eq_true, if_false] at hne ⊢
        cases hT3 : Gr.isT [108, 101, 116] ts with
        | true =>
          simp only [hT3, if_true] at hne ⊢
          clear h hTx hK h1 h2 h4 hbeg
          cases hG : Gr.g f (.letGo []) ts.tail with
          | out => exact absurd hG hne
          | bad r2 c =>
            have qG : Hid (∀ W, Rd W B S ts.tail → Calls Tryz.prog 127 #[.pointer (some ⟨B, 0, none⟩)] W (Gr.Ans B S 2 W (.bad r2 c))) := fun W hW => by rw [← hG]; exact ihL W B S ts.tail hW (by rw [hG]; simp)
            clear hne hG
            go_enter Tryz.func118, Tryz.ntmps118
            go_wp2_with (first | (go_at_call 127; refine (qG.out _ st5.out.r).mono ?_; rintro e w6 ⟨rfl, hRR, hBB⟩) | (go_at_call 15; refine (st4.out.tkT ⟨#[108, 101, 116]⟩ hT3).mono ?_; rintro e w5 ⟨rfl, st5⟩; clear st4) | (go_at_call 15; refine (st3.out.tkF ⟨#[40]⟩ hT2).mono ?_; rintro e w4 ⟨rfl, st4⟩; clear st3) | (go_at_call 15; refine (st2.out.tkF ⟨#[102, 97, 108, 115, 101]⟩ hT1).mono ?_; rintro e w3 ⟨rfl, st3⟩; clear st2) | (go_at_call 15; refine (st1.out.tkF ⟨#[116, 114, 117, 101]⟩ hT0).mono ?_; rintro e w2 ⟨rfl, st2⟩; clear st1) | (go_at_call 32; refine (qn.out _).mono ?_; rintro e w0 ⟨rfl, hb00⟩; have st1 := (st0.out.bel hb00).out.new [.int .i64 K, .string T, .int .i64 n1, .int .i64 n2] 77 (by simp); clear hb00 st0))
            exact ⟨rfl, rfl, hRR, st5.out.b.trans hBB⟩
          | ok a r =>
            have qG : Hid (∀ W, Rd W B S ts.tail → Calls Tryz.prog 127 #[.pointer (some ⟨B, 0, none⟩)] W (Gr.Ans B S 2 W (.ok a r))) := fun W hW => by rw [← hG]; exact ihL W B S ts.tail hW (by rw [hG]; simp)
            clear hne hG
            go_enter Tryz.func118, Tryz.ntmps118
            go_wp2_with (first | (go_at_call 127; refine (qG.out _ st5.out.r).mono ?_; rintro e w6 ⟨⟨vsx, nx, rfl, ha0⟩, hRR, hBB⟩; obtain ⟨xi, xj, xk, xa, xn, xc, xd0, xm0, xe0, xd1, xm1, xe1, xd2, xm2, xe2, xd3, xm3, xe3, rfl⟩ := ha0.exp_form; have st6 := st5.out.addAt hRR hBB ha0; obtain ⟨⟨k0, k1, k2, k3, k4, k5, k6, k7⟩, z0, z1, z2, z3, z4, z5, z6, z7⟩ := st6.out.p.1.1.e8; have hlw := st6.out.sz; obtain ⟨⟨htk0, htk1, htk2, htk3⟩, htz0, htz1, htz2, htz3⟩ := st6.out.p.1.2.e4; clear hRR hBB ha0 st5) | (go_at_call 15; refine (st4.out.tkT ⟨#[108, 101, 116]⟩ hT3).mono ?_; rintro e w5 ⟨rfl, st5⟩; clear st4) | (go_at_call 15; refine (st3.out.tkF ⟨#[40]⟩ hT2).mono ?_; rintro e w4 ⟨rfl, st4⟩; clear st3) | (go_at_call 15; refine (st2.out.tkF ⟨#[102, 97, 108, 115, 101]⟩ hT1).mono ?_; rintro e w3 ⟨rfl, st3⟩; clear st2) | (go_at_call 15; refine (st1.out.tkF ⟨#[116, 114, 117, 101]⟩ hT0).mono ?_; rintro e w2 ⟨rfl, st2⟩; clear st1) | (go_at_call 32; refine (qn.out _).mono ?_; rintro e w0 ⟨rfl, hb00⟩; have st1 := (st0.out.bel hb00).out.new [.int .i64 K, .string T, .int .i64 n1, .int .i64 n2] 77 (by simp); clear hb00 st0))
            refine bodyPost_ret (v := .tuple #[.agg #[.int .i64 xi, .int .i64 xj, .int .i64 xk, .slice xa xn xc, .slice xd0 xm0 xe0, .slice xd1 xm1 xe1, .slice xd2 xm2 xe2, .slice xd3 xm3 xe3], .bool true]) (by rw [results_cell_tmp (fn := Tryz.f118) (p := 2) (u := 3) (ty := 28) (by kernel_rfl)]; simp [go_sem, k0, k1, k2, k3, k4, k5, k6, k7]) rfl ?_
            exact st6.out.ans2 (by simp only [sv]) (st6.out.p.2)
        | false =>
          simp only [hT3, Bool.false_eq_true, if_false] at hne ⊢
          cases hT4 : Gr.isT [99, 97, 115, 101] ts with
          | true =>
            simp only [hT4, if_true] at hne ⊢
            clear h hTx hK h1 h2 h4 hbeg
            cases hG : Gr.g f .case ts.tail with
            | out => exact absurd hG hne
            | bad r2 c =>
              have qG : Hid (∀ W, Rd W B S ts.tail → Calls Tryz.prog 128 #[.pointer (some ⟨B, 0, none⟩)] W (Gr.Ans B S 2 W (.bad r2 c))) := fun W hW => by rw [← hG]; exact ihC W B S ts.tail hW (by rw [hG]; simp)
              clear hne hG
              go_enter Tryz.func118, Tryz.ntmps118
              go_wp2_with (first | (go_at_call 128; refine (qG.out _ st6.out.r).mono ?_; rintro e w7 ⟨rfl, hRR, hBB⟩) | (go_at_call 15; refine (st5.out.tkT ⟨#[99, 97, 115, 101]⟩ hT4).mono ?_; rintro e w6 ⟨rfl, st6⟩; clear st5) | (go_at_call 15; refine (st4.out.tkF ⟨#[108, 101, 116]⟩ hT3).mono ?_; rintro e w5 ⟨rfl, st5⟩; clear st4) | (go_at_call 15; refine (st3.out.tkF ⟨#[40]⟩ hT2).mono ?_; rintro e w4 ⟨rfl, st4⟩; clear st3) | (go_at_call 15; refine (st2.out.tkF ⟨#[102, 97, 108, 115, 101]⟩ hT1).mono ?_; rintro e w3 ⟨rfl, st3⟩; clear st2) | (go_at_call 15; refine (st1.out.tkF ⟨#[116, 114, 117, 101]⟩ hT0).mono ?_; rintro e w2 ⟨rfl, st2⟩; clear st1) | (go_at_call 32; refine (qn.out _).mono ?_; rintro e w0 ⟨rfl, hb00⟩; have st1 := (st0.out.bel hb00).out.new [.int .i64 K, .string T, .int .i64 n1, .int .i64 n2] 77 (by simp); clear hb00 st0))
              exact ⟨rfl, rfl, hRR, st6.out.b.trans hBB⟩
            | ok a r =>
              have qG : Hid (∀ W, Rd W B S ts.tail → Calls Tryz.prog 128 #[.pointer (some ⟨B, 0, none⟩)] W (Gr.Ans B S 2 W (.ok a r))) := fun W hW => by rw [← hG]; exact ihC W B S ts.tail hW (by rw [hG]; simp)
              clear hne hG
              go_enter Tryz.func118, Tryz.ntmps118
              go_wp2_with (first | (go_at_call 128; refine (qG.out _ st6.out.r).mono ?_; rintro e w7 ⟨⟨vsx, nx, rfl, ha0⟩, hRR, hBB⟩; obtain ⟨xi, xj, xk, xa, xn, xc, xd0, xm0, xe0, xd1, xm1, xe1, xd2, xm2, xe2, xd3, xm3, xe3, rfl⟩ := ha0.exp_form; have st7 := st6.out.addAt hRR hBB ha0; obtain ⟨⟨k0, k1, k2, k3, k4, k5, k6, k7⟩, z0, z1, z2, z3, z4, z5, z6, z7⟩ := st7.out.p.1.1.e8; have hlw := st7.out.sz; obtain ⟨⟨htk0, htk1, htk2, htk3⟩, htz0, htz1, htz2, htz3⟩ := st7.out.p.1.2.e4; clear hRR hBB ha0 st6) | (go_at_call 15; refine (st5.out.tkT ⟨#[99, 97, 115, 101]⟩ hT4).mono ?_; rintro e w6 ⟨rfl, st6⟩; clear st5) | (go_at_call 15; refine (st4.out.tkF ⟨#[108, 101, 116]⟩ hT3).mono ?_; rintro e w5 ⟨rfl, st5⟩; clear st4) | (go_at_call 15; refine (st3.out.tkF ⟨#[40]⟩ hT2).mono ?_; rintro e w4 ⟨rfl, st4⟩; clear st3) | (go_at_call 15; refine (st2.out.tkF ⟨#[102, 97, 108, 115, 101]⟩ hT1).mono ?_; rintro e w3 ⟨rfl, st3⟩; clear st2) | (go_at_call 15; refine (st1.out.tkF ⟨#[116, 114, 117, 101]⟩ hT0).mono ?_; rintro e w2 ⟨rfl, st2⟩; clear st1) | (go_at_call 32; refine (qn.out _).mono ?_; rintro e w0 ⟨rfl, hb00⟩; have st1 := (st0.out.bel hb00).out.new [.int .i64 K, .string T, .int .i64 n1, .int .i64 n2] 77 (by simp); clear hb00 st0))
              refine bodyPost_ret (v := .tuple #[.agg #[.int .i64 xi, .int .i64 xj, .int .i64 xk, .slice xa xn xc, .slice xd0 xm0 xe0, .slice xd1 xm1 xe1, .slice xd2 xm2 xe2, .slice xd3 xm3 xe3], .bool true]) (by rw [results_cell_tmp (fn := Tryz.f118) (p := 2) (u := 3) (ty := 28) (by kernel_rfl)]; simp [go_sem, k0, k1, k2, k3, k4, k5, k6, k7]) rfl ?_
              exact st7.out.ans2 (by simp only [sv]) (st7.out.p.2)
          | false =>
            simp [Gr.begE, h1, h2, h4, hT0, hT1, hT2, hT3, hT4] at hbeg

set_option maxHeartbeats 1600000 in
set_option maxRecDepth 100000 in
theorem gr_atom0 : Gr.Rule0 118 (.agg #[.int .i64 0, .int .i64 0, .int .i64 0, .slice none 0 0, .slice none 0 0, .slice none 0 0, .slice none 0 0, .slice none 0 0]) Gr.begE := by
 intro w B S ts h hbeg
 have hlt := h.lt
 have st0 := Stt.init h [.int .i64 0, .int .i64 0, .int .i64 0, .slice none 0 0, .slice none 0 0, .slice none 0 0, .slice none 0 0, .slice none 0 0] 28 (by simp)
 obtain ⟨K, hK⟩ : ∃ K : Int, (Gr.kd ts : Int) = K := ⟨_, rfl⟩
 obtain ⟨T, hTx⟩ : ∃ T : ByteArray, Gr.hd ts = T := ⟨_, rfl⟩
 obtain ⟨n1, hn1⟩ : ∃ K : Int, (Gr.hn ts : Int) = K := ⟨_, rfl⟩
 obtain ⟨n2, hn2⟩ : ∃ K : Int, Gr.at0 S ts = K := ⟨_, rfl⟩
 obtain ⟨nz, hnz⟩ : ∃ b : Bool, decide (ts ≠ []) = b := ⟨_, rfl⟩
 have qn : Hid (∀ ob, Calls Tryz.prog 32 #[.pointer (some ⟨B, 0, none⟩)] (w.alloc ob) fun e w' => e = .returned (.tuple #[.agg #[.int .i64 K, .string T, .int .i64 n1, .int .i64 n2], .bool nz]) ∧ Below (w.alloc ob).heap.size (w.alloc ob) w') := fun ob => by rw [← hK, ← hTx, ← hn1, ← hn2, ← hnz]; exact gr_next _ B S ts (h.alloc _)
 have hTs : T.size ≤ maxLen := by
  rw [← hTx]
  cases ts with
  | nil => show 0 ≤ maxLen; omega
  | cons t r =>
   have := (h.ok t (List.mem_cons_self ..)).len
   show t.text.toArray.size ≤ maxLen
   rw [List.size_toArray]; unfold maxLen; omega
 clear hn2 hnz
 have hb : ¬ Gr.kd ts = 4 ∧ ¬ Gr.kd ts = 1 ∧ ¬ Gr.kd ts = 2 ∧ Gr.isT [116, 114, 117, 101] ts = false ∧ Gr.isT [102, 97, 108, 115, 101] ts = false ∧ Gr.isT [40] ts = false ∧ Gr.isT [108, 101, 116] ts = false ∧ Gr.isT [99, 97, 115, 101] ts = false := by
  simpa [Gr.begE] using hbeg
 obtain ⟨h4, h1, h2, hT0, hT1, hT2, hT3, hT4⟩ := hb
 have hK1 : ¬ K = 1 := by omega
 have hK4 : ¬ K = 4 := by omega
 have hK2 : ¬ K = 2 := by omega
 clear h hTx hK h1 h2 h4 hbeg hn1
 go_enter Tryz.func118, Tryz.ntmps118
 go_wp2_with (first | (go_at_call 15; refine (st5.out.tkF ⟨#[99, 97, 115, 101]⟩ hT4).mono ?_; rintro e w6 ⟨rfl, st6⟩; obtain ⟨⟨k0, k1, k2, k3, k4, k5, k6, k7⟩, z0, z1, z2, z3, z4, z5, z6, z7⟩ := st6.out.p.1.e8; have hlw := st6.out.sz; obtain ⟨⟨htk0, htk1, htk2, htk3⟩, htz0, htz1, htz2, htz3⟩ := st6.out.p.2.e4; clear st5) | (go_at_call 15; refine (st4.out.tkF ⟨#[108, 101, 116]⟩ hT3).mono ?_; rintro e w5 ⟨rfl, st5⟩; clear st4) | (go_at_call 15; refine (st3.out.tkF ⟨#[40]⟩ hT2).mono ?_; rintro e w4 ⟨rfl, st4⟩; clear st3) | (go_at_call 15; refine (st2.out.tkF ⟨#[102, 97, 108, 115, 101]⟩ hT1).mono ?_; rintro e w3 ⟨rfl, st3⟩; clear st2) | (go_at_call 15; refine (st1.out.tkF ⟨#[116, 114, 117, 101]⟩ hT0).mono ?_; rintro e w2 ⟨rfl, st2⟩; clear st1) | (go_at_call 32; refine (qn.out _).mono ?_; rintro e w0 ⟨rfl, hb00⟩; have st1 := (st0.out.bel hb00).out.new [.int .i64 K, .string T, .int .i64 n1, .int .i64 n2] 77 (by simp); clear hb00 st0))
 refine bodyPost_ret (v := .tuple #[.agg #[.int .i64 0, .int .i64 0, .int .i64 0, .slice none 0 0, .slice none 0 0, .slice none 0 0, .slice none 0 0, .slice none 0 0], .bool false]) (by rw [results_cell_tmp (fn := Tryz.f118) (p := 2) (u := 3) (ty := 28) (by kernel_rfl)]; simp [go_sem, k0, k1, k2, k3, k4, k5, k6, k7]) rfl ?_
 exact Gr.No.mk hlt (by simp only [sv]) st6.out.r st6.out.b
end Go.Proofs.YtjebepnphoeiaabGreatDoor
