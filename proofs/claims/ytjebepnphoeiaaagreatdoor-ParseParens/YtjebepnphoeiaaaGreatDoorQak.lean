/- Pieces: GrH GrI GrJ. -/
import Derived.Test.YtjebepnphoeiaaaGreatDoorQaj
namespace Go.Proofs.YtjebepnphoeiaaaGreatDoor
open Go.RowKit
set_option linter.unusedVariables false
set_option linter.unusedSimpArgs false

set_option maxHeartbeats 1600000 in
set_option maxRecDepth 100000 in
theorem gr_atomTy (f : Nat) (ihT : Gr.Rule 39 .ty 0 f) : Gr.Rule 165 .atomTy 0 (f + 1) := by
  intro w B S ts h hne
  rw [show Gr.g (f + 1) .atomTy ts = (if Gr.kd ts = 5 then .ok (Gr.tyN 1 ((Gr.hd ts).extract 1 (Gr.hd ts).size) [] []) ts.tail
      else if Gr.isT [105, 110, 116] ts = true then .ok (Gr.tyN 2 Gr.none8 [Gr.hd ts] []) ts.tail
      else if Gr.isT [98, 111, 111, 108] ts = true then .ok (Gr.tyN 2 Gr.none8 [Gr.hd ts] []) ts.tail
      else if Gr.isT [117, 110, 105, 116] ts = true then .ok (Gr.tyN 2 Gr.none8 [Gr.hd ts] []) ts.tail
      else if Gr.isT [40] ts = true then (Gr.g f .ty ts.tail).bind fun a r => Gr.need [41] r fun r2 => .ok a r2
      else (Gr.low ts).bind fun p _ r => .ok (Gr.tyN 2 Gr.none8 p []) r) from rfl] at hne ⊢
  have hlt := h.lt
  have st0 := Stt.init h [.int .i64 0, .string ⟨#[]⟩, .slice none 0 0, .slice none 0 0] 41 (by simp)
  obtain ⟨K, hK⟩ : ∃ K : Int, (Gr.kd ts : Int) = K := ⟨_, rfl⟩
  obtain ⟨T, hTx⟩ : ∃ T : ByteArray, Gr.hd ts = T := ⟨_, rfl⟩
  obtain ⟨n1, hn1⟩ : ∃ K : Int, (Gr.hn ts : Int) = K := ⟨_, rfl⟩
  obtain ⟨n2, hn2⟩ : ∃ K : Int, Gr.at0 S ts = K := ⟨_, rfl⟩
  obtain ⟨nz, hnz⟩ : ∃ b : Bool, decide (ts ≠ []) = b := ⟨_, rfl⟩
  have qn : Hid (∀ ob, Calls Tryz.prog 63 #[.pointer (some ⟨B, 0, none⟩)] (w.alloc ob) fun e w' => e = .returned (.tuple #[.agg #[.int .i64 K, .string T, .int .i64 n1, .int .i64 n2], .bool nz]) ∧ Below (w.alloc ob).heap.size (w.alloc ob) w') := fun ob => by rw [← hK, ← hTx, ← hn1, ← hn2, ← hnz]; exact gr_next _ B S ts (h.alloc _)
  have hTs : T.size ≤ maxLen := by
    rw [← hTx]
    cases ts with
    | nil => show 0 ≤ maxLen; omega
    | cons t r =>
      have := (h.ok t (List.mem_cons_self ..)).len
      show t.text.toArray.size ≤ maxLen
      rw [List.size_toArray]; unfold maxLen; omega
  clear hn2 hnz
  by_cases h5 : Gr.kd ts = 5
  · rw [if_pos h5, hTx]
    cases ts with
    | nil => cases h5
    | cons t r =>
      have hT1 : 1 ≤ T.size := by
        rw [← hTx]
        have := (h.ok t (List.mem_cons_self ..)).tyv h5
        show 1 ≤ t.text.toArray.size
        rw [List.size_toArray]; exact this
      obtain rfl : K = 5 := by omega
      have hTe : (T.extract 1 T.size).size ≤ maxLen := by rw [ByteArray.size_extract]; omega
      unfold maxLen at hTs
      clear hne h hTx hK h5
      go_enter Tryz.func165, Tryz.ntmps165
      go_wp2_with (first | (go_at_call 105; refine st1.out.step.mono ?_; rintro e w2 ⟨rfl, st2⟩; obtain ⟨⟨k0, k1, k2, k3⟩, z0, z1, z2, z3⟩ := st2.out.p.1.e4; have hlw := st2.out.sz; obtain ⟨⟨htk0, htk1, htk2, htk3⟩, htz0, htz1, htz2, htz3⟩ := st2.out.p.2.e4; clear st1) | (go_at_call 63; refine (qn.out _).mono ?_; rintro e w0 ⟨rfl, hb00⟩; have st1 := (st0.out.bel hb00).out.new [.int .i64 5, .string T, .int .i64 n1, .int .i64 n2] 95 (by simp); clear hb00 st0))
      refine bodyPost_ret (v := .agg #[.int .i64 1, .string (T.extract 1 T.size), .slice none 0 0, .slice none 0 0]) (by rw [results_cell1 (fn := Tryz.f165) (p := 2) (ty := 41) (by kernel_rfl)]; simp [go_sem, k0, k1, k2, k3]) rfl ?_
      exact st2.out.ans (by simp only [sv]) (At.ty_mk (n := 0) (by decide) hTe (Tx.none0 ..) (fun x hx => by cases hx) (Nat.zero_le _) (AtL.none0 ..))
  have hK5 : ¬ K = 5 := by omega
  rw [if_neg h5] at hne ⊢
  clear h5
  cases hT0 : Gr.isT [105, 110, 116] ts with
  | true =>
    simp only [hT0, if_true]
    rw [hTx]
    clear hne h hTx hK
    go_enter Tryz.func165, Tryz.ntmps165
    go_wp2_with (first | (go_at_call 53; refine (st1.out.tkT ⟨#[105, 110, 116]⟩ hT0).mono ?_; rintro e w2 ⟨rfl, st2⟩; obtain ⟨⟨k0, k1, k2, k3⟩, z0, z1, z2, z3⟩ := st2.out.p.1.e4; have hlw := st2.out.sz; obtain ⟨⟨htk0, htk1, htk2, htk3⟩, htz0, htz1, htz2, htz3⟩ := st2.out.p.2.e4; clear st1) | (go_at_call 63; refine (qn.out _).mono ?_; rintro e w0 ⟨rfl, hb00⟩; have st1 := (st0.out.bel hb00).out.new [.int .i64 K, .string T, .int .i64 n1, .int .i64 n2] 95 (by simp); clear hb00 st0))
    refine bodyPost_ret (v := .agg #[.int .i64 2, .string ⟨#[]⟩, .slice (some ⟨w2.heap.size, 0, none⟩) 1 1, .slice none 0 0]) (by rw [results_cell1 (fn := Tryz.f165) (p := 2) (ty := 41) (by kernel_rfl)]; simp [go_sem, k0, k1, k2, k3, hlw]) rfl ?_
    exact (st2.out.bel (bl_new w2 (.cells #[.string T] 9))).out.ans (by simp only [sv]) (At.ty_mk (n := 0) (by decide) (by decide) (Tx.new1 ⟨st2.out.sz, Nat.ne_of_gt st2.out.ll⟩ 9) (fun x hx => by rw [List.mem_singleton] at hx; rw [hx]; exact hTs) (by unfold maxLen; simp) (AtL.none0 ..))
  | false =>
    simp only [hT0, Bool.false_eq_true, if_false] at hne ⊢
    cases hT1 : Gr.isT [98, 111, 111, 108] ts with
    | true =>
      simp only [hT1, if_true]
      rw [hTx]
      clear hne h hTx hK
      go_enter Tryz.func165, Tryz.ntmps165
      go_wp2_with (first | (go_at_call 53; refine (st2.out.tkT ⟨#[98, 111, 111, 108]⟩ hT1).mono ?_; rintro e w3 ⟨rfl, st3⟩; obtain ⟨⟨k0, k1, k2, k3⟩, z0, z1, z2, z3⟩ := st3.out.p.1.e4; have hlw := st3.out.sz; obtain ⟨⟨htk0, htk1, htk2, htk3⟩, htz0, htz1, htz2, htz3⟩ := st3.out.p.2.e4; clear st2) | (go_at_call 53; refine (st1.out.tkF ⟨#[105, 110, 116]⟩ hT0).mono ?_; rintro e w2 ⟨rfl, st2⟩; clear st1) | (go_at_call 63; refine (qn.out _).mono ?_; rintro e w0 ⟨rfl, hb00⟩; have st1 := (st0.out.bel hb00).out.new [.int .i64 K, .string T, .int .i64 n1, .int .i64 n2] 95 (by simp); clear hb00 st0))
      refine bodyPost_ret (v := .agg #[.int .i64 2, .string ⟨#[]⟩, .slice (some ⟨w3.heap.size, 0, none⟩) 1 1, .slice none 0 0]) (by rw [results_cell1 (fn := Tryz.f165) (p := 2) (ty := 41) (by kernel_rfl)]; simp [go_sem, k0, k1, k2, k3, hlw]) rfl ?_
      exact (st3.out.bel (bl_new w3 (.cells #[.string T] 9))).out.ans (by simp only [sv]) (At.ty_mk (n := 0) (by decide) (by decide) (Tx.new1 ⟨st3.out.sz, Nat.ne_of_gt st3.out.ll⟩ 9) (fun x hx => by rw [List.mem_singleton] at hx; rw [hx]; exact hTs) (by unfold maxLen; simp) (AtL.none0 ..))
    | false =>
      simp only [hT1, Bool.false_eq_true, if_false] at hne ⊢
      cases hT2 : Gr.isT [117, 110, 105, 116] ts with
      | true =>
        simp only [hT2, if_true]
        rw [hTx]
        clear hne h hTx hK
        go_enter Tryz.func165, Tryz.ntmps165
        go_wp2_with (first | (go_at_call 53; refine (st3.out.tkT ⟨#[117, 110, 105, 116]⟩ hT2).mono ?_; rintro e w4 ⟨rfl, st4⟩; obtain ⟨⟨k0, k1, k2, k3⟩, z0, z1, z2, z3⟩ := st4.out.p.1.e4; have hlw := st4.out.sz; obtain ⟨⟨htk0, htk1, htk2, htk3⟩, htz0, htz1, htz2, htz3⟩ := st4.out.p.2.e4; clear st3) | (go_at_call 53; refine (st2.out.tkF ⟨#[98, 111, 111, 108]⟩ hT1).mono ?_; rintro e w3 ⟨rfl, st3⟩; clear st2) | (go_at_call 53; refine (st1.out.tkF ⟨#[105, 110, 116]⟩ hT0).mono ?_; rintro e w2 ⟨rfl, st2⟩; clear st1) | (go_at_call 63; refine (qn.out _).mono ?_; rintro e w0 ⟨rfl, hb00⟩; have st1 := (st0.out.bel hb00).out.new [.int .i64 K, .string T, .int .i64 n1, .int .i64 n2] 95 (by simp); clear hb00 st0))
        refine bodyPost_ret (v := .agg #[.int .i64 2, .string ⟨#[]⟩, .slice (some ⟨w4.heap.size, 0, none⟩) 1 1, .slice none 0 0]) (by rw [results_cell1 (fn := Tryz.f165) (p := 2) (ty := 41) (by kernel_rfl)]; simp [go_sem, k0, k1, k2, k3, hlw]) rfl ?_
        exact (st4.out.bel (bl_new w4 (.cells #[.string T] 9))).out.ans (by simp only [sv]) (At.ty_mk (n := 0) (by decide) (by decide) (Tx.new1 ⟨st4.out.sz, Nat.ne_of_gt st4.out.ll⟩ 9) (fun x hx => by rw [List.mem_singleton] at hx; rw [hx]; exact hTs) (by unfold maxLen; simp) (AtL.none0 ..))
      | false =>
        simp only [hT2, Bool.false_eq_true, if_false] at hne ⊢
        cases hT3 : Gr.isT [40] ts with
        | true =>
          simp only [hT3, if_true] at hne ⊢
          clear h hTx hK
          cases hG : Gr.g f .ty ts.tail with
          | out => rw [hG] at hne; exact absurd rfl hne
          | bad r2 c =>
            have qG : Hid (∀ W, Rd W B S ts.tail → Calls Tryz.prog 39 #[.pointer (some ⟨B, 0, none⟩)] W (Gr.Ans B S 0 W (.bad r2 c))) := fun W hW => by rw [← hG]; exact ihT W B S ts.tail hW (by rw [hG]; simp)
            clear hne hG
            go_enter Tryz.func165, Tryz.ntmps165
            go_wp2_with (first | (go_at_call 39; refine (qG.out _ st5.out.r).mono ?_; rintro e w6 ⟨rfl, hRR, hBB⟩) | (go_at_call 53; refine (st4.out.tkT ⟨#[40]⟩ hT3).mono ?_; rintro e w5 ⟨rfl, st5⟩; clear st4) | (go_at_call 53; refine (st3.out.tkF ⟨#[117, 110, 105, 116]⟩ hT2).mono ?_; rintro e w4 ⟨rfl, st4⟩; clear st3) | (go_at_call 53; refine (st2.out.tkF ⟨#[98, 111, 111, 108]⟩ hT1).mono ?_; rintro e w3 ⟨rfl, st3⟩; clear st2) | (go_at_call 53; refine (st1.out.tkF ⟨#[105, 110, 116]⟩ hT0).mono ?_; rintro e w2 ⟨rfl, st2⟩; clear st1) | (go_at_call 63; refine (qn.out _).mono ?_; rintro e w0 ⟨rfl, hb00⟩; have st1 := (st0.out.bel hb00).out.new [.int .i64 K, .string T, .int .i64 n1, .int .i64 n2] 95 (by simp); clear hb00 st0))
            exact ⟨rfl, rfl, hRR, st5.out.b.trans hBB⟩
          | ok a r =>
            have qG : Hid (∀ W, Rd W B S ts.tail → Calls Tryz.prog 39 #[.pointer (some ⟨B, 0, none⟩)] W (Gr.Ans B S 0 W (.ok a r))) := fun W hW => by rw [← hG]; exact ihT W B S ts.tail hW (by rw [hG]; simp)
            simp only [hG, Gr.Res.bind] at hne ⊢
            clear hne hG
            cases hN : Gr.isT [41] r with
            | false =>
              rw [Gr.need, if_neg (by rw [hN]; simp)]
              go_enter Tryz.func165, Tryz.ntmps165
              go_wp2_with (first | (go_at_call 72; refine (gr_need_no _ B S r st7.out.r ⟨#[41]⟩ hN).mono ?_; rintro e w8 ⟨rfl, hRR, hBB⟩) | (go_at_call 39; refine (qG.out _ st5.out.r).mono ?_; rintro e w6 ⟨⟨vsx, nx, rfl, ha0⟩, hRR, hBB⟩; obtain ⟨xi, xs, xa, xn, xc, xd, xm, xe, rfl⟩ := ha0.ty_form; have st6 := st5.out.addAt hRR hBB ha0; have hqbx := st6.out.sz; have st7 := st6.out.new [.int .i64 xi, .string xs, .slice xa xn xc, .slice xd xm xe] 41 (by simp); clear st6; clear hRR hBB ha0 st5) | (go_at_call 53; refine (st4.out.tkT ⟨#[40]⟩ hT3).mono ?_; rintro e w5 ⟨rfl, st5⟩; clear st4) | (go_at_call 53; refine (st3.out.tkF ⟨#[117, 110, 105, 116]⟩ hT2).mono ?_; rintro e w4 ⟨rfl, st4⟩; clear st3) | (go_at_call 53; refine (st2.out.tkF ⟨#[98, 111, 111, 108]⟩ hT1).mono ?_; rintro e w3 ⟨rfl, st3⟩; clear st2) | (go_at_call 53; refine (st1.out.tkF ⟨#[105, 110, 116]⟩ hT0).mono ?_; rintro e w2 ⟨rfl, st2⟩; clear st1) | (go_at_call 63; refine (qn.out _).mono ?_; rintro e w0 ⟨rfl, hb00⟩; have st1 := (st0.out.bel hb00).out.new [.int .i64 K, .string T, .int .i64 n1, .int .i64 n2] 95 (by simp); clear hb00 st0))
              exact ⟨rfl, rfl, ⟨_, hRR⟩, st7.out.b.trans hBB⟩
            | true =>
              rw [Gr.need, if_pos hN]
              go_enter Tryz.func165, Tryz.ntmps165
              go_wp2_with (first | (go_at_call 72; refine (st7.out.nd ⟨#[41]⟩ hN).mono ?_; rintro e w8 ⟨rfl, st8⟩; obtain ⟨⟨k0, k1, k2, k3⟩, z0, z1, z2, z3⟩ := st8.out.p.1.1.1.e4; have hlw := st8.out.sz; obtain ⟨⟨htk0, htk1, htk2, htk3⟩, htz0, htz1, htz2, htz3⟩ := st8.out.p.1.1.2.e4; obtain ⟨⟨hlxk0, hlxk1, hlxk2, hlxk3⟩, hlxz0, hlxz1, hlxz2, hlxz3⟩ := st8.out.p.2.e4; clear st7) | (go_at_call 39; refine (qG.out _ st5.out.r).mono ?_; rintro e w6 ⟨⟨vsx, nx, rfl, ha0⟩, hRR, hBB⟩; obtain ⟨xi, xs, xa, xn, xc, xd, xm, xe, rfl⟩ := ha0.ty_form; have st6 := st5.out.addAt hRR hBB ha0; have hqbx := st6.out.sz; have st7 := st6.out.new [.int .i64 xi, .string xs, .slice xa xn xc, .slice xd xm xe] 41 (by simp); clear st6; clear hRR hBB ha0 st5) | (go_at_call 53; refine (st4.out.tkT ⟨#[40]⟩ hT3).mono ?_; rintro e w5 ⟨rfl, st5⟩; clear st4) | (go_at_call 53; refine (st3.out.tkF ⟨#[117, 110, 105, 116]⟩ hT2).mono ?_; rintro e w4 ⟨rfl, st4⟩; clear st3) | (go_at_call 53; refine (st2.out.tkF ⟨#[98, 111, 111, 108]⟩ hT1).mono ?_; rintro e w3 ⟨rfl, st3⟩; clear st2) | (go_at_call 53; refine (st1.out.tkF ⟨#[105, 110, 116]⟩ hT0).mono ?_; rintro e w2 ⟨rfl, st2⟩; clear st1) | (go_at_call 63; refine (qn.out _).mono ?_; rintro e w0 ⟨rfl, hb00⟩; have st1 := (st0.out.bel hb00).out.new [.int .i64 K, .string T, .int .i64 n1, .int .i64 n2] 95 (by simp); clear hb00 st0))
              refine bodyPost_ret (v := .agg #[.int .i64 xi, .string xs, .slice xa xn xc, .slice xd xm xe]) (by rw [results_cell1 (fn := Tryz.f165) (p := 2) (ty := 41) (by kernel_rfl)]; simp [go_sem, k0, k1, k2, k3]) rfl ?_
              exact st8.out.ans (by simp only [sv]) (st8.out.p.1.2)
        | false =>
          simp only [hT3, Bool.false_eq_true, if_false] at hne ⊢
          clear h hTx hK hne
          cases hL : Gr.low ts with
          | bad r2 c =>
            have qL : Hid (∀ W, Rd W B S ts → Calls Tryz.prog 111 #[.pointer (some ⟨B, 0, none⟩)] W (Gr.LAns B S W (.bad r2 c))) := fun W hW => by rw [← hL]; exact gr_lowPath W B S ts hW
            clear hL
            go_enter Tryz.func165, Tryz.ntmps165
            go_wp2_with (first | (go_at_call 111; refine (qL.out _ st5.out.r).mono ?_; rintro e w6 ⟨rfl, hRR, hBB⟩) | (go_at_call 53; refine (st4.out.tkF ⟨#[40]⟩ hT3).mono ?_; rintro e w5 ⟨rfl, st5⟩; clear st4) | (go_at_call 53; refine (st3.out.tkF ⟨#[117, 110, 105, 116]⟩ hT2).mono ?_; rintro e w4 ⟨rfl, st4⟩; clear st3) | (go_at_call 53; refine (st2.out.tkF ⟨#[98, 111, 111, 108]⟩ hT1).mono ?_; rintro e w3 ⟨rfl, st3⟩; clear st2) | (go_at_call 53; refine (st1.out.tkF ⟨#[105, 110, 116]⟩ hT0).mono ?_; rintro e w2 ⟨rfl, st2⟩; clear st1) | (go_at_call 63; refine (qn.out _).mono ?_; rintro e w0 ⟨rfl, hb00⟩; have st1 := (st0.out.bel hb00).out.new [.int .i64 K, .string T, .int .i64 n1, .int .i64 n2] 95 (by simp); clear hb00 st0))
            exact ⟨rfl, rfl, hRR, st5.out.b.trans hBB⟩
          | ok p low r =>
            have qL : Hid (∀ W, Rd W B S ts → Calls Tryz.prog 111 #[.pointer (some ⟨B, 0, none⟩)] W (Gr.LAns B S W (.ok p low r))) := fun W hW => by rw [← hL]; exact gr_lowPath W B S ts hW
            clear hL
            go_enter Tryz.func165, Tryz.ntmps165
            go_wp2_with (first | (go_at_call 111; refine (qL.out _ st5.out.r).mono ?_; rintro e w6 ⟨⟨v, rfl, hv, hvx⟩, hRR, hBB⟩; obtain ⟨va, vc, rfl⟩ := hv.form; have st6 := st5.out.addTx hRR hBB hv hvx; obtain ⟨⟨k0, k1, k2, k3⟩, z0, z1, z2, z3⟩ := st6.out.p.1.1.e4; have hlw := st6.out.sz; obtain ⟨⟨htk0, htk1, htk2, htk3⟩, htz0, htz1, htz2, htz3⟩ := st6.out.p.1.2.e4; clear hRR hBB hv hvx st5) | (go_at_call 53; refine (st4.out.tkF ⟨#[40]⟩ hT3).mono ?_; rintro e w5 ⟨rfl, st5⟩; clear st4) | (go_at_call 53; refine (st3.out.tkF ⟨#[117, 110, 105, 116]⟩ hT2).mono ?_; rintro e w4 ⟨rfl, st4⟩; clear st3) | (go_at_call 53; refine (st2.out.tkF ⟨#[98, 111, 111, 108]⟩ hT1).mono ?_; rintro e w3 ⟨rfl, st3⟩; clear st2) | (go_at_call 53; refine (st1.out.tkF ⟨#[105, 110, 116]⟩ hT0).mono ?_; rintro e w2 ⟨rfl, st2⟩; clear st1) | (go_at_call 63; refine (qn.out _).mono ?_; rintro e w0 ⟨rfl, hb00⟩; have st1 := (st0.out.bel hb00).out.new [.int .i64 K, .string T, .int .i64 n1, .int .i64 n2] 95 (by simp); clear hb00 st0))
            refine bodyPost_ret (v := .agg #[.int .i64 2, .string ⟨#[]⟩, .slice va p.length vc, .slice none 0 0]) (by rw [results_cell1 (fn := Tryz.f165) (p := 2) (ty := 41) (by kernel_rfl)]; simp [go_sem, k0, k1, k2, k3]) rfl ?_
            exact st6.out.ans (by simp only [sv]) (At.ty_mk (n := 0) (by decide) (by decide) (st6.out.p.2).1 (st6.out.p.2).2.1 (st6.out.p.2).2.2 (AtL.none0 ..))
set_option linter.unusedSimpArgs false
set_option maxHeartbeats 1600000 in
set_option maxRecDepth 100000 in
theorem gr_atomPat (f : Nat) (ihR : Gr.Rule 153 .restPat 1 f) : Gr.Rule2 84 .atomPat 1 Gr.begP (f + 1) := by
  intro w B S ts h hbeg hne
  rw [show Gr.g (f + 1) .atomPat ts = (if Gr.kd ts = 1 then .ok (Gr.patN 2 (Gr.hd ts) [] 0 []) ts.tail
      else if Gr.kd ts = 4 then .ok (Gr.patN 3 Gr.none8 [] (Gr.hn ts) []) ts.tail
      else if Gr.kd ts = 2 then (Gr.high ts).bind fun p _ r => .ok (Gr.patN 8 Gr.none8 p 0 []) r
      else if Gr.isT [95] ts = true then .ok (Gr.patN 1 Gr.none8 [] 0 []) ts.tail
      else if Gr.isT [116, 114, 117, 101] ts = true then .ok (Gr.patN 4 Gr.none8 [] 0 []) ts.tail
      else if Gr.isT [102, 97, 108, 115, 101] ts = true then .ok (Gr.patN 5 Gr.none8 [] 0 []) ts.tail
      else if Gr.isT [40] ts = true then Gr.g f .restPat ts.tail
      else .bad ts 11) from rfl] at hne ⊢
  have hlt := h.lt
  have st0 := Stt.init h [.int .i64 0, .string ⟨#[]⟩, .slice none 0 0, .int .i64 0, .slice none 0 0] 36 (by simp)
  obtain ⟨K, hK⟩ : ∃ K : Int, (Gr.kd ts : Int) = K := ⟨_, rfl⟩
  obtain ⟨T, hTx⟩ : ∃ T : ByteArray, Gr.hd ts = T := ⟨_, rfl⟩
  obtain ⟨n1, hn1⟩ : ∃ K : Int, (Gr.hn ts : Int) = K := ⟨_, rfl⟩
  obtain ⟨n2, hn2⟩ : ∃ K : Int, Gr.at0 S ts = K := ⟨_, rfl⟩
  obtain ⟨nz, hnz⟩ : ∃ b : Bool, decide (ts ≠ []) = b := ⟨_, rfl⟩
  have qn : Hid (∀ ob, Calls Tryz.prog 63 #[.pointer (some ⟨B, 0, none⟩)] (w.alloc ob) fun e w' => e = .returned (.tuple #[.agg #[.int .i64 K, .string T, .int .i64 n1, .int .i64 n2], .bool nz]) ∧ Below (w.alloc ob).heap.size (w.alloc ob) w') := fun ob => by rw [← hK, ← hTx, ← hn1, ← hn2, ← hnz]; exact gr_next _ B S ts (h.alloc _)
  have hTs : T.size ≤ maxLen := by
    rw [← hTx]
    cases ts with
    | nil => show 0 ≤ maxLen; omega
    | cons t r =>
      have := (h.ok t (List.mem_cons_self ..)).len
      show t.text.toArray.size ≤ maxLen
      rw [List.size_toArray]; unfold maxLen; omega
  clear hn2 hnz
  by_cases h1 : Gr.kd ts = 1
  · rw [if_pos h1, hTx]
    cases ts with
    | nil => cases h1
    | cons t r =>
      obtain rfl : K = 1 := by omega
      clear hne h hTx hK h1 hbeg
      go_enter Tryz.func84, Tryz.ntmps84
      go_wp2_with (first | (go_at_call 105; refine st1.out.step.mono ?_; rintro e w2 ⟨rfl, st2⟩; obtain ⟨⟨k0, k1, k2, k3, k4⟩, z0, z1, z2, z3, z4⟩ := st2.out.p.1.e5; have hlw := st2.out.sz; obtain ⟨⟨htk0, htk1, htk2, htk3⟩, htz0, htz1, htz2, htz3⟩ := st2.out.p.2.e4; clear st1) | (go_at_call 63; refine (qn.out _).mono ?_; rintro e w0 ⟨rfl, hb00⟩; have st1 := (st0.out.bel hb00).out.new [.int .i64 1, .string T, .int .i64 n1, .int .i64 n2] 95 (by simp); clear hb00 st0))
      refine bodyPost_ret (v := .tuple #[.agg #[.int .i64 2, .string T, .slice none 0 0, .int .i64 0, .slice none 0 0], .bool true]) (by rw [results_cell_tmp (fn := Tryz.f84) (p := 2) (u := 3) (ty := 36) (by kernel_rfl)]; simp [go_sem, k0, k1, k2, k3, k4]) rfl ?_
      exact st2.out.ans2 (by simp only [sv]) (At.pat_mk (n := 0) (by decide) hTs (Tx.none0 ..) (fun x hx => by cases hx) (Nat.zero_le _) (by decide) (AtL.none0 ..))
  have hK1 : ¬ K = 1 := by omega
  rw [if_neg h1] at hne ⊢
  by_cases h4 : Gr.kd ts = 4
  · rw [if_pos h4, hn1]
    cases ts with
    | nil => cases h4
    | cons t r =>
      have hnn : -9223372036854775808 ≤ n1 ∧ n1 ≤ 9223372036854775807 := by
        rw [← hn1]
        have := (h.ok t (List.mem_cons_self ..)).num
        show -9223372036854775808 ≤ (t.n : Int) ∧ (t.n : Int) ≤ 9223372036854775807
        omega
      obtain rfl : K = 4 := by omega
      have HNN : Hid (-9223372036854775808 ≤ n1 ∧ n1 ≤ 9223372036854775807) := hnn
      clear hne h hTx hK h1 h4 hbeg hnn hn1
      go_enter Tryz.func84, Tryz.ntmps84
      go_wp2_with (first | (go_at_call 105; refine st1.out.step.mono ?_; rintro e w2 ⟨rfl, st2⟩; obtain ⟨⟨k0, k1, k2, k3, k4⟩, z0, z1, z2, z3, z4⟩ := st2.out.p.1.e5; have hlw := st2.out.sz; obtain ⟨⟨htk0, htk1, htk2, htk3⟩, htz0, htz1, htz2, htz3⟩ := st2.out.p.2.e4; clear st1) | (go_at_call 63; refine (qn.out _).mono ?_; rintro e w0 ⟨rfl, hb00⟩; have st1 := (st0.out.bel hb00).out.new [.int .i64 4, .string T, .int .i64 n1, .int .i64 n2] 95 (by simp); clear hb00 st0))
      refine bodyPost_ret (v := .tuple #[.agg #[.int .i64 3, .string ⟨#[]⟩, .slice none 0 0, .int .i64 n1, .slice none 0 0], .bool true]) (by rw [results_cell_tmp (fn := Tryz.f84) (p := 2) (u := 3) (ty := 36) (by kernel_rfl)]; simp [go_sem, k0, k1, k2, k3, k4]) rfl ?_
      exact st2.out.ans2 (by simp only [sv]) (At.pat_mk (n := 0) (by decide) (by decide) (Tx.none0 ..) (fun x hx => by cases hx) (Nat.zero_le _) HNN.out (AtL.none0 ..))
  have hK4 : ¬ K = 4 := by omega
  rw [if_neg h4] at hne ⊢
  by_cases h2 : Gr.kd ts = 2
  · rw [if_pos h2]
    obtain rfl : K = 2 := by omega
    clear hne h hTx hK h1 h2 h4 hbeg
    cases hL : Gr.high ts with
    | bad r2 c =>
      have qL : Hid (∀ W, Rd W B S ts → Calls Tryz.prog 83 #[.pointer (some ⟨B, 0, none⟩)] W (Gr.LAns B S W (.bad r2 c))) := fun W hW => by rw [← hL]; exact gr_highPath W B S ts hW
      clear hL
      go_enter Tryz.func84, Tryz.ntmps84
      go_wp2_with (first | (go_at_call 83; refine (qL.out _ st1.out.r).mono ?_; rintro e w2 ⟨rfl, hRR, hBB⟩) | (go_at_call 63; refine (qn.out _).mono ?_; rintro e w0 ⟨rfl, hb00⟩; have st1 := (st0.out.bel hb00).out.new [.int .i64 2, .string T, .int .i64 n1, .int .i64 n2] 95 (by simp); clear hb00 st0))
      exact ⟨rfl, rfl, hRR, st1.out.b.trans hBB⟩
    | ok p low r =>
      have qL : Hid (∀ W, Rd W B S ts → Calls Tryz.prog 83 #[.pointer (some ⟨B, 0, none⟩)] W (Gr.LAns B S W (.ok p low r))) := fun W hW => by rw [← hL]; exact gr_highPath W B S ts hW
      clear hL
      go_enter Tryz.func84, Tryz.ntmps84
      go_wp2_with (first | (go_at_call 83; refine (qL.out _ st1.out.r).mono ?_; rintro e w2 ⟨⟨v, rfl, hv, hvx⟩, hRR, hBB⟩; obtain ⟨va, vc, rfl⟩ := hv.form; have st2 := st1.out.addTx hRR hBB hv hvx; obtain ⟨⟨k0, k1, k2, k3, k4⟩, z0, z1, z2, z3, z4⟩ := st2.out.p.1.1.e5; have hlw := st2.out.sz; obtain ⟨⟨htk0, htk1, htk2, htk3⟩, htz0, htz1, htz2, htz3⟩ := st2.out.p.1.2.e4; clear hRR hBB hv hvx st1) | (go_at_call 63; refine (qn.out _).mono ?_; rintro e w0 ⟨rfl, hb00⟩; have st1 := (st0.out.bel hb00).out.new [.int .i64 2, .string T, .int .i64 n1, .int .i64 n2] 95 (by simp); clear hb00 st0))
      refine bodyPost_ret (v := .tuple #[.agg #[.int .i64 8, .string ⟨#[]⟩, .slice va p.length vc, .int .i64 0, .slice none 0 0], .bool true]) (by rw [results_cell_tmp (fn := Tryz.f84) (p := 2) (u := 3) (ty := 36) (by kernel_rfl)]; simp [go_sem, k0, k1, k2, k3, k4]) rfl ?_
      exact st2.out.ans2 (by simp only [sv]) (At.pat_mk (n := 0) (by decide) (by decide) (st2.out.p.2).1 (st2.out.p.2).2.1 (st2.out.p.2).2.2 (by decide) (AtL.none0 ..))
  have hK2 : ¬ K = 2 := by omega
  rw [if_neg h2] at hne ⊢
  cases hT0 : Gr.isT [95] ts with
  | true =>
    simp only [hT0, if_true]
    clear hne h hTx hK h1 h2 h4 hbeg
    go_enter Tryz.func84, Tryz.ntmps84
    go_wp2_with (first | (go_at_call 53; refine (st1.out.tkT ⟨#[95]⟩ hT0).mono ?_; rintro e w2 ⟨rfl, st2⟩; obtain ⟨⟨k0, k1, k2, k3, k4⟩, z0, z1, z2, z3, z4⟩ := st2.out.p.1.e5; have hlw := st2.out.sz; obtain ⟨⟨htk0, htk1, htk2, htk3⟩, htz0, htz1, htz2, htz3⟩ := st2.out.p.2.e4; clear st1) | (go_at_call 63; refine (qn.out _).mono ?_; rintro e w0 ⟨rfl, hb00⟩; have st1 := (st0.out.bel hb00).out.new [.int .i64 K, .string T, .int .i64 n1, .int .i64 n2] 95 (by simp); clear hb00 st0))
    refine bodyPost_ret (v := .tuple #[.agg #[.int .i64 1, .string ⟨#[]⟩, .slice none 0 0, .int .i64 0, .slice none 0 0], .bool true]) (by rw [results_cell_tmp (fn := Tryz.f84) (p := 2) (u := 3) (ty := 36) (by kernel_rfl)]; simp [go_sem, k0, k1, k2, k3, k4]) rfl ?_
    exact st2.out.ans2 (by simp only [sv]) (At.pat_mk (n := 0) (by decide) (by decide) (Tx.none0 ..) (fun x hx => by cases hx) (Nat.zero_le _) (by decide) (AtL.none0 ..))
  | false =>
    simp only [hT0, Bool.false_eq_true, if_false] at hne ⊢
    cases hT1 : Gr.isT [116, 114, 117, 101] ts with
    | true =>
      simp only [hT1, if_true]
      clear hne h hTx hK h1 h2 h4 hbeg
      go_enter Tryz.func84, Tryz.ntmps84
      go_wp2_with (first | (go_at_call 53; refine (st2.out.tkT ⟨#[116, 114, 117, 101]⟩ hT1).mono ?_; rintro e w3 ⟨rfl, st3⟩; obtain ⟨⟨k0, k1, k2, k3, k4⟩, z0, z1, z2, z3, z4⟩ := st3.out.p.1.e5; have hlw := st3.out.sz; obtain ⟨⟨htk0, htk1, htk2, htk3⟩, htz0, htz1, htz2, htz3⟩ := st3.out.p.2.e4; clear st2) | (go_at_call 53; refine (st1.out.tkF ⟨#[95]⟩ hT0).mono ?_; rintro e w2 ⟨rfl, st2⟩; clear st1) | (go_at_call 63; refine (qn.out _).mono ?_; rintro e w0 ⟨rfl, hb00⟩; have st1 := (st0.out.bel hb00).out.new [.int .i64 K, .string T, .int .i64 n1, .int .i64 n2] 95 (by simp); clear hb00 st0))
      refine bodyPost_ret (v := .tuple #[.agg #[.int .i64 4, .string ⟨#[]⟩, .slice none 0 0, .int .i64 0, .slice none 0 0], .bool true]) (by rw [results_cell_tmp (fn := Tryz.f84) (p := 2) (u := 3) (ty := 36) (by kernel_rfl)]; simp [go_sem, k0, k1, k2, k3, k4]) rfl ?_
      exact st3.out.ans2 (by simp only [sv]) (At.pat_mk (n := 0) (by decide) (by decide) (Tx.none0 ..) (fun x hx => by cases hx) (Nat.zero_le _) (by decide) (AtL.none0 ..))
    | false =>
      simp only [hT1, Bool.false_eq_true, if_false] at hne ⊢
      cases hT2 : Gr.isT [102, 97, 108, 115, 101] ts with
      | true =>
        simp only [hT2, if_true]
        clear hne h hTx hK h1 h2 h4 hbeg
        go_enter Tryz.func84, Tryz.ntmps84
        go_wp2_with (first | (go_at_call 53; refine (st3.out.tkT ⟨#[102, 97, 108, 115, 101]⟩ hT2).mono ?_; rintro e w4 ⟨rfl, st4⟩; obtain ⟨⟨k0, k1, k2, k3, k4⟩, z0, z1, z2, z3, z4⟩ := st4.out.p.1.e5; have hlw := st4.out.sz; obtain ⟨⟨htk0, htk1, htk2, htk3⟩, htz0, htz1, htz2, htz3⟩ := st4.out.p.2.e4; clear st3) | (go_at_call 53; refine (st2.out.tkF ⟨#[116, 114, 117, 101]⟩ hT1).mono ?_; rintro e w3 ⟨rfl, st3⟩; clear st2) | (go_at_call 53; refine (st1.out.tkF ⟨#[95]⟩ hT0).mono ?_; rintro e w2 ⟨rfl, st2⟩; clear st1) | (go_at_call 63; refine (qn.out _).mono ?_; rintro e w0 ⟨rfl, hb00⟩; have st1 := (st0.out.bel hb00).out.new [.int .i64 K, .string T, .int .i64 n1, .int .i64 n2] 95 (by simp); clear hb00 st0))
        refine bodyPost_ret (v := .tuple #[.agg #[.int .i64 5, .string ⟨#[]⟩, .slice none 0 0, .int .i64 0, .slice none 0 0], .bool true]) (by rw [results_cell_tmp (fn := Tryz.f84) (p := 2) (u := 3) (ty := 36) (by kernel_rfl)]; simp [go_sem, k0, k1, k2, k3, k4]) rfl ?_
        exact st4.out.ans2 (by simp only [sv]) (At.pat_mk (n := 0) (by decide) (by decide) (Tx.none0 ..) (fun x hx => by cases hx) (Nat.zero_le _) (by decide) (AtL.none0 ..))
      | false =>
        simp only [hT2, Bool.false_eq_true, if_false] at hne ⊢
        cases hT3 : Gr.isT [40] ts with
        | false => simp [Gr.begP, h1, h2, h4, hT0, hT1, hT2, hT3] at hbeg
        | true =>
          simp only [hT3, if_true] at hne ⊢
          clear h hTx hK h1 h2 h4 hbeg
          cases hG : Gr.g f .restPat ts.tail with
          | out => exact absurd hG hne
          | bad r2 c =>
            have qG : Hid (∀ W, Rd W B S ts.tail → Calls Tryz.prog 153 #[.pointer (some ⟨B, 0, none⟩)] W (Gr.Ans B S 1 W (.bad r2 c))) := fun W hW => by rw [← hG]; exact ihR W B S ts.tail hW (by rw [hG]; simp)
            clear hne hG
            go_enter Tryz.func84, Tryz.ntmps84
            go_wp2_with (first | (go_at_call 153; refine (qG.out _ st5.out.r).mono ?_; rintro e w6 ⟨rfl, hRR, hBB⟩) | (go_at_call 53; refine (st4.out.tkT ⟨#[40]⟩ hT3).mono ?_; rintro e w5 ⟨rfl, st5⟩; clear st4) | (go_at_call 53; refine (st3.out.tkF ⟨#[102, 97, 108, 115, 101]⟩ hT2).mono ?_; rintro e w4 ⟨rfl, st4⟩; clear st3) | (go_at_call 53; refine (st2.out.tkF ⟨#[116, 114, 117, 101]⟩ hT1).mono ?_; rintro e w3 ⟨rfl, st3⟩; clear st2) | (go_at_call 53; refine (st1.out.tkF ⟨#[95]⟩ hT0).mono ?_; rintro e w2 ⟨rfl, st2⟩; clear st1) | (go_at_call 63; refine (qn.out _).mono ?_; rintro e w0 ⟨rfl, hb00⟩; have st1 := (st0.out.bel hb00).out.new [.int .i64 K, .string T, .int .i64 n1, .int .i64 n2] 95 (by simp); clear hb00 st0))
            exact ⟨rfl, rfl, hRR, st5.out.b.trans hBB⟩
          | ok a r =>
            have qG : Hid (∀ W, Rd W B S ts.tail → Calls Tryz.prog 153 #[.pointer (some ⟨B, 0, none⟩)] W (Gr.Ans B S 1 W (.ok a r))) := fun W hW => by rw [← hG]; exact ihR W B S ts.tail hW (by rw [hG]; simp)
            clear hne hG
            go_enter Tryz.func84, Tryz.ntmps84
            go_wp2_with (first | (go_at_call 153; refine (qG.out _ st5.out.r).mono ?_; rintro e w6 ⟨⟨vsx, nx, rfl, ha0⟩, hRR, hBB⟩; obtain ⟨xi, xs, xa, xn, xc, xj, xd, xm, xe, rfl⟩ := ha0.pat_form; have st6 := st5.out.addAt hRR hBB ha0; obtain ⟨⟨k0, k1, k2, k3, k4⟩, z0, z1, z2, z3, z4⟩ := st6.out.p.1.1.e5; have hlw := st6.out.sz; obtain ⟨⟨htk0, htk1, htk2, htk3⟩, htz0, htz1, htz2, htz3⟩ := st6.out.p.1.2.e4; clear hRR hBB ha0 st5) | (go_at_call 53; refine (st4.out.tkT ⟨#[40]⟩ hT3).mono ?_; rintro e w5 ⟨rfl, st5⟩; clear st4) | (go_at_call 53; refine (st3.out.tkF ⟨#[102, 97, 108, 115, 101]⟩ hT2).mono ?_; rintro e w4 ⟨rfl, st4⟩; clear st3) | (go_at_call 53; refine (st2.out.tkF ⟨#[116, 114, 117, 101]⟩ hT1).mono ?_; rintro e w3 ⟨rfl, st3⟩; clear st2) | (go_at_call 53; refine (st1.out.tkF ⟨#[95]⟩ hT0).mono ?_; rintro e w2 ⟨rfl, st2⟩; clear st1) | (go_at_call 63; refine (qn.out _).mono ?_; rintro e w0 ⟨rfl, hb00⟩; have st1 := (st0.out.bel hb00).out.new [.int .i64 K, .string T, .int .i64 n1, .int .i64 n2] 95 (by simp); clear hb00 st0))
            refine bodyPost_ret (v := .tuple #[.agg #[.int .i64 xi, .string xs, .slice xa xn xc, .int .i64 xj, .slice xd xm xe], .bool true]) (by rw [results_cell_tmp (fn := Tryz.f84) (p := 2) (u := 3) (ty := 36) (by kernel_rfl)]; simp [go_sem, k0, k1, k2, k3, k4]) rfl ?_
            exact st6.out.ans2 (by simp only [sv]) (st6.out.p.2)

set_option maxHeartbeats 1600000 in
set_option maxRecDepth 100000 in
theorem gr_atomPat0 : Gr.Rule0 84 (.agg #[.int .i64 0, .string ⟨#[]⟩, .slice none 0 0, .int .i64 0, .slice none 0 0]) Gr.begP := by
 intro w B S ts h hbeg
 have hlt := h.lt
 have st0 := Stt.init h [.int .i64 0, .string ⟨#[]⟩, .slice none 0 0, .int .i64 0, .slice none 0 0] 36 (by simp)
 obtain ⟨K, hK⟩ : ∃ K : Int, (Gr.kd ts : Int) = K := ⟨_, rfl⟩
 obtain ⟨T, hTx⟩ : ∃ T : ByteArray, Gr.hd ts = T := ⟨_, rfl⟩
 obtain ⟨n1, hn1⟩ : ∃ K : Int, (Gr.hn ts : Int) = K := ⟨_, rfl⟩
 obtain ⟨n2, hn2⟩ : ∃ K : Int, Gr.at0 S ts = K := ⟨_, rfl⟩
 obtain ⟨nz, hnz⟩ : ∃ b : Bool, decide (ts ≠ []) = b := ⟨_, rfl⟩
 have qn : Hid (∀ ob, Calls Tryz.prog 63 #[.pointer (some ⟨B, 0, none⟩)] (w.alloc ob) fun e w' => e = .returned (.tuple #[.agg #[.int .i64 K, .string T, .int .i64 n1, .int .i64 n2], .bool nz]) ∧ Below (w.alloc ob).heap.size (w.alloc ob) w') := fun ob => by rw [← hK, ← hTx, ← hn1, ← hn2, ← hnz]; exact gr_next _ B S ts (h.alloc _)
 have hTs : T.size ≤ maxLen := by
  rw [← hTx]
  cases ts with
  | nil => show 0 ≤ maxLen; omega
  | cons t r =>
   have := (h.ok t (List.mem_cons_self ..)).len
   show t.text.toArray.size ≤ maxLen
   rw [List.size_toArray]; unfold maxLen; omega
 clear hn2 hnz
 have hb : ¬ Gr.kd ts = 1 ∧ ¬ Gr.kd ts = 4 ∧ ¬ Gr.kd ts = 2 ∧ Gr.isT [95] ts = false ∧ Gr.isT [116, 114, 117, 101] ts = false ∧ Gr.isT [102, 97, 108, 115, 101] ts = false ∧ Gr.isT [40] ts = false := by
  simpa [Gr.begP] using hbeg
 obtain ⟨h1, h4, h2, hT0, hT1, hT2, hT3⟩ := hb
 have hK1 : ¬ K = 1 := by omega
 have hK4 : ¬ K = 4 := by omega
 have hK2 : ¬ K = 2 := by omega
 clear h hTx hK h1 h2 h4 hbeg hn1
 go_enter Tryz.func84, Tryz.ntmps84
 go_wp2_with (first | (go_at_call 53; refine (st4.out.tkF ⟨#[40]⟩ hT3).mono ?_; rintro e w5 ⟨rfl, st5⟩; obtain ⟨⟨k0, k1, k2, k3, k4⟩, z0, z1, z2, z3, z4⟩ := st5.out.p.1.e5; have hlw := st5.out.sz; obtain ⟨⟨htk0, htk1, htk2, htk3⟩, htz0, htz1, htz2, htz3⟩ := st5.out.p.2.e4; clear st4) | (go_at_call 53; refine (st3.out.tkF ⟨#[102, 97, 108, 115, 101]⟩ hT2).mono ?_; rintro e w4 ⟨rfl, st4⟩; clear st3) | (go_at_call 53; refine (st2.out.tkF ⟨#[116, 114, 117, 101]⟩ hT1).mono ?_; rintro e w3 ⟨rfl, st3⟩; clear st2) | (go_at_call 53; refine (st1.out.tkF ⟨#[95]⟩ hT0).mono ?_; rintro e w2 ⟨rfl, st2⟩; clear st1) | (go_at_call 63; refine (qn.out _).mono ?_; rintro e w0 ⟨rfl, hb00⟩; have st1 := (st0.out.bel hb00).out.new [.int .i64 K, .string T, .int .i64 n1, .int .i64 n2] 95 (by simp); clear hb00 st0))
 refine bodyPost_ret (v := .tuple #[.agg #[.int .i64 0, .string ⟨#[]⟩, .slice none 0 0, .int .i64 0, .slice none 0 0], .bool false]) (by rw [results_cell_tmp (fn := Tryz.f84) (p := 2) (u := 3) (ty := 36) (by kernel_rfl)]; simp [go_sem, k0, k1, k2, k3, k4]) rfl ?_
 exact Gr.No.mk hlt (by simp only [sv]) st5.out.r st5.out.b
set_option linter.unusedSimpArgs false
set_option maxHeartbeats 12000000 in
set_option maxRecDepth 100000 in
theorem gr_restPat (f : Nat) (ihP : Gr.Rule 33 .pat 1 f) : Gr.Rule 153 .restPat 1 (f + 1) := by
 intro w B S ts h hne
 rw [show Gr.g (f + 1) .restPat ts = (if Gr.isT [41] ts = true then .ok (Gr.patN 6 Gr.none8 [] 0 []) ts.tail
      else (Gr.g f .pat ts).bind fun a r =>
        if Gr.isT [44] r = true then (Gr.g f .pat r.tail).bind fun b r2 => Gr.need [41] r2 fun r3 => .ok (Gr.patN 7 Gr.none8 [] 0 [a, b]) r3
        else Gr.need [41] r fun r2 => .ok a r2) from rfl] at hne ⊢
 have hlt := h.lt
 have st0 := Stt.init h [.int .i64 0, .string ⟨#[]⟩, .slice none 0 0, .int .i64 0, .slice none 0 0] 36 (by simp)
 clear h
 cases hT0 : Gr.isT [41] ts with
 | true =>
  simp only [hT0, if_true]
  clear hne
  go_enter Tryz.func153, Tryz.ntmps153
  go_wp2_with (go_at_call 53; refine (st0.out.tkT ⟨#[41]⟩ hT0).mono ?_; rintro e w1 ⟨rfl, st1⟩; obtain ⟨⟨k0, k1, k2, k3, k4⟩, z0, z1, z2, z3, z4⟩ := st1.out.p.e5; have hlw := st1.out.sz; clear st0)
  refine bodyPost_ret (v := .agg #[.int .i64 6, .string ⟨#[]⟩, .slice none 0 0, .int .i64 0, .slice none 0 0]) (by rw [results_cell1 (fn := Tryz.f153) (p := 2) (ty := 36) (by kernel_rfl)]; simp [go_sem, k0, k1, k2, k3, k4]) rfl ?_
  exact st1.out.ans (by simp only [sv]) (At.pat_mk (n := 0) (by decide) (by decide) (Tx.none0 ..) (fun x hx => by cases hx) (Nat.zero_le _) (by decide) (AtL.none0 ..))
 | false =>
  simp only [hT0, Bool.false_eq_true, if_false] at hne ⊢
  cases hG : Gr.g f .pat ts with
  | out => rw [hG] at hne; exact absurd rfl hne
  | bad r c =>
   have qG : Hid (∀ W, Rd W B S ts → Calls Tryz.prog 33 #[.pointer (some ⟨B, 0, none⟩)] W (Gr.Ans B S 1 W (.bad r c))) := fun W hW => by rw [← hG]; exact ihP W B S ts hW (by rw [hG]; simp)
   clear hne hG
   go_enter Tryz.func153, Tryz.ntmps153
   go_wp2_with (first | (go_at_call 33; refine (qG.out _ st1.out.r).mono ?_; rintro e w2 ⟨rfl, hRR, hBB⟩) | (go_at_call 53; refine (st0.out.tkF ⟨#[41]⟩ hT0).mono ?_; rintro e w1 ⟨rfl, st1⟩; clear st0))
   exact ⟨rfl, rfl, hRR, st1.out.b.trans hBB⟩
  | ok a r =>
   have qG : Hid (∀ W, Rd W B S ts → Calls Tryz.prog 33 #[.pointer (some ⟨B, 0, none⟩)] W (Gr.Ans B S 1 W (.ok a r))) := fun W hW => by rw [← hG]; exact ihP W B S ts hW (by rw [hG]; simp)
   simp only [hG, Gr.Res.bind] at hne ⊢
   clear hG
   cases hT1 : Gr.isT [44] r with
   | true =>
    simp only [hT1, if_true] at hne ⊢
    cases hG2 : Gr.g f .pat r.tail with
    | out => rw [hG2] at hne; exact absurd rfl hne
    | bad r2 c =>
     have qG2 : Hid (∀ W, Rd W B S r.tail → Calls Tryz.prog 33 #[.pointer (some ⟨B, 0, none⟩)] W (Gr.Ans B S 1 W (.bad r2 c))) := fun W hW => by rw [← hG2]; exact ihP W B S r.tail hW (by rw [hG2]; simp)
     clear hne hG2 ihP
     go_enter Tryz.func153, Tryz.ntmps153
     go_wp2_with (first | (go_at_call 53; refine (st2.out.tkT ⟨#[44]⟩ hT1).mono ?_; rintro e w3 ⟨rfl, st3⟩; clear st2) | (go_at_call 33; refine (qG.out _ st1.out.r).mono ?_; rintro e w2 ⟨⟨vsx, nx, rfl, ha0⟩, hRR, hBB⟩; obtain ⟨xi, xs, xa, xn, xc, xj, xd, xm, xe, rfl⟩ := ha0.pat_form; have st2 := st1.out.own (by simp) hRR hBB ha0 36 (by simp); clear hRR hBB ha0 st1) | (go_at_call 53; refine (st0.out.tkF ⟨#[41]⟩ hT0).mono ?_; rintro e w1 ⟨rfl, st1⟩; clear st0))
     have st4 := st3.out.drew
     clear st3
     refine wp_region_held_drew (S := fun wz => True) rfl (trivial) (fun hS => ?_)
     refine wpAnyH_take (i := 1) (v := ?_) rfl (by kernel_rfl) (by kernel_rfl) (by kernel_rfl) (fun _ _ _ h => h) (Or.inl ⟨by rfl, ?_⟩) hS ?_
     rotate_left
     · intro wz hz; go_simp; try with_reducible rfl
     try simp only [sx]
     refine wpAnyH_ready (rs := [0, 2]) (by kernel_rfl) (by simp) (AllReadyH.cons rfl (fun K hK => ?_) (AllReadyH.cons rfl (fun K hK => ?_) AllReadyH.nil))
     · skip
       obtain ⟨⟨lk0, lk1, lk2, lk3, lk4⟩, lz0, lz1, lz2, lz3, lz4⟩ := st4.out.l.e5
       go_simp
       refine hK.out _ _ trivial (fun _ => ?_)
       clear hK K
       try simp only [sx]
       refine wpAnyH_ready (rs := [2]) (by kernel_rfl) (by simp) (AllReadyH.cons rfl (fun K hK => ?_) AllReadyH.nil)
       go_simp
       refine (qG2.out _ st4.out.r).mono ?_
       rintro e ww ⟨rfl, hRR, hBB⟩
       exact ⟨rfl, rfl, hRR, st4.out.b.trans hBB⟩
     · skip
       go_simp
       refine (qG2.out _ st4.out.r).mono ?_
       rintro e ww ⟨rfl, hRR, hBB⟩
       exact ⟨rfl, rfl, hRR, st4.out.b.trans hBB⟩
    | ok b r2 =>
     have qG2 : Hid (∀ W, Rd W B S r.tail → Calls Tryz.prog 33 #[.pointer (some ⟨B, 0, none⟩)] W (Gr.Ans B S 1 W (.ok b r2))) := fun W hW => by rw [← hG2]; exact ihP W B S r.tail hW (by rw [hG2]; simp)
     simp only [hG2, Gr.Res.bind] at hne ⊢
     clear hne hG2 ihP
     obtain ⟨R, hRq⟩ : ∃ R, (Gr.need [41] r2 fun r3 => Gr.Res.ok (Gr.patN 7 Gr.none8 [] 0 [a, b]) r3) = R := ⟨_, rfl⟩
     rw [hRq]
     have HQ : Hid ((Gr.need [41] r2 fun r3 => Gr.Res.ok (Gr.patN 7 Gr.none8 [] 0 [a, b]) r3) = R) := hRq
     clear hRq
     go_enter Tryz.func153, Tryz.ntmps153
     go_wp2_with (first | (go_at_call 53; refine (st2.out.tkT ⟨#[44]⟩ hT1).mono ?_; rintro e w3 ⟨rfl, st3⟩; clear st2) | (go_at_call 33; refine (qG.out _ st1.out.r).mono ?_; rintro e w2 ⟨⟨vsx, nx, rfl, ha0⟩, hRR, hBB⟩; obtain ⟨xi, xs, xa, xn, xc, xj, xd, xm, xe, rfl⟩ := ha0.pat_form; have st2 := st1.out.own (by simp) hRR hBB ha0 36 (by simp); clear hRR hBB ha0 st1) | (go_at_call 53; refine (st0.out.tkF ⟨#[41]⟩ hT0).mono ?_; rintro e w1 ⟨rfl, st1⟩; clear st0))
     have st4 := st3.out.drew
     clear st3
     refine wp_region_held_drew (S := fun wz => True) rfl (trivial) (fun hS => ?_)
     refine wpAnyH_take (i := 1) (v := ?_) rfl (by kernel_rfl) (by kernel_rfl) (by kernel_rfl) (fun _ _ _ h => h) (Or.inl ⟨by rfl, ?_⟩) hS ?_
     rotate_left
     · intro wz hz; go_simp; try with_reducible rfl
     try simp only [sx]
     refine wpAnyH_ready (rs := [0, 2]) (by kernel_rfl) (by simp) (AllReadyH.cons rfl (fun K hK => ?_) (AllReadyH.cons rfl (fun K hK => ?_) AllReadyH.nil))
     · skip
       obtain ⟨⟨lk0, lk1, lk2, lk3, lk4⟩, lz0, lz1, lz2, lz3, lz4⟩ := st4.out.l.e5
       go_simp
       refine hK.out _ _ trivial (fun _ => ?_)
       clear hK K
       try simp only [sx]
       refine wpAnyH_ready (rs := [2]) (by kernel_rfl) (by simp) (AllReadyH.cons rfl (fun K hK => ?_) AllReadyH.nil)
       go_simp
       refine (qG2.out _ st4.out.r).mono ?_
       rintro e w5 ⟨⟨vsy, ny, rfl, ha0⟩, hRR, hBB⟩
       obtain ⟨yi, ys, ya, yn, yc, yj, yd, ym, ye, rfl⟩ := ha0.pat_form
       have st5 := st4.out.addAt hRR hBB ha0
       clear hRR hBB ha0 st4
       refine hK.out _ _ trivial (fun _ => ?_)
       clear hK K
       try simp only [sx]
       refine wpAnyH_ready (rs := [3]) (by kernel_rfl) (by simp) (AllReadyH.cons rfl (fun K hK => ?_) AllReadyH.nil)
       go_simp
       have st6 := st5.out.sl2 (st5.out.p.1.2) (st5.out.p.2) 36 (w5.heap.size) rfl rfl (by simp)
       simp only [List.cons_append, List.nil_append] at st6
       clear st5
       refine hK.out _ _ trivial (fun _ => ?_)
       clear hK K
       try simp only [sx]
       refine wpAnyH_take (i := 4) (v := ?_) rfl (by kernel_rfl) (by kernel_rfl) (by kernel_rfl) (fun _ _ _ h => h) (Or.inl ⟨by rfl, ?_⟩) hS ?_
       rotate_left
       · intro wz hz; go_simp; try with_reducible rfl
       try simp only [sx]
       refine wpAnyH_ready (rs := [5]) (by kernel_rfl) (by simp) (AllReadyH.cons rfl (fun K hK => ?_) AllReadyH.nil)
       obtain ⟨⟨mk0, mk1, mk2, mk3, mk4⟩, mz0, mz1, mz2, mz3, mz4⟩ := st6.out.l.e5
       go_simp
       refine hK.out _ _ trivial (fun _ => ?_)
       clear hK K
       try simp only [sx]
       refine wpAnyH_done (by kernel_rfl) ?_ _
       have stp := fun W1 (hs : Save w2.heap.size _ W1) (hl : Bx W1 w2.heap.size [.int .i64 7, .string ⟨#[]⟩, .slice none 0 0, .int .i64 0, .slice (some ⟨w5.heap.size, 0, none⟩) 2 2]) => st6.out.put [.int .i64 7, .string ⟨#[]⟩, .slice none 0 0, .int .i64 0, .slice (some ⟨w5.heap.size, 0, none⟩) 2 2] hs hl (st6.out.p.1.1.1) (by simp) (by simp) (At.pat_mk (by decide) (by decide) (Tx.none0 ..) (fun x hx => by cases hx) (Nat.zero_le _) (by decide) (st6.out.p.2))
       cases hN : Gr.isT [41] r2 with
       | false =>
        have HK : Hid (R = .bad r2 11) := by show _ = _; rw [← HQ.out, Gr.need, if_neg (by rw [hN]; simp)]
        go_wp2_with (go_at_call 72; refine (gr_need_no _ B S r2 (stp _ (by simp only [sv]) (by refine Bx.of5 ?_ ?_ ?_ ?_ ?_ ?_ ?_ ?_ ?_ ?_ <;> simp [go_sem, mk0, mk1, mk2, mk3, mk4, mz0, mz1, mz2, mz3, mz4])).out.r ⟨#[41]⟩ hN).mono ?_; rintro e wE ⟨rfl, hRR, hBB⟩)
        exact ⟨rfl, by rw [HK.out]; exact ⟨rfl, ⟨_, hRR⟩, (stp _ (by simp only [sv]) (by refine Bx.of5 ?_ ?_ ?_ ?_ ?_ ?_ ?_ ?_ ?_ ?_ <;> simp [go_sem, mk0, mk1, mk2, mk3, mk4, mz0, mz1, mz2, mz3, mz4])).out.b.trans hBB⟩⟩
       | true =>
        have HK : Hid (R = .ok (Gr.patN 7 Gr.none8 [] 0 [a, b]) r2.tail) := by show _ = _; rw [← HQ.out, Gr.need, if_pos hN]
        go_wp2_with (go_at_call 72; refine (Stt.nd (stp _ (by simp only [sv]) (by refine Bx.of5 ?_ ?_ ?_ ?_ ?_ ?_ ?_ ?_ ?_ ?_ <;> simp [go_sem, mk0, mk1, mk2, mk3, mk4, mz0, mz1, mz2, mz3, mz4])).out ⟨#[41]⟩ hN).mono ?_; rintro e wE ⟨rfl, stE⟩; obtain ⟨⟨rk0, rk1, rk2, rk3, rk4⟩, rz0, rz1, rz2, rz3, rz4⟩ := stE.out.p.1.e5; obtain ⟨⟨sk0, sk1, sk2, sk3, sk4⟩, sz0, sz1, sz2, sz3, sz4⟩ := stE.out.l.e5; clear stp)
        refine bodyPost_ret (v := .agg #[.int .i64 7, .string ⟨#[]⟩, .slice none 0 0, .int .i64 0, .slice (some ⟨w5.heap.size, 0, none⟩) 2 2]) (by rw [results_cell1 (fn := Tryz.f153) (p := 2) (ty := 36) (by kernel_rfl)]; simp [go_sem, rk0, rk1, rk2, rk3, rk4]) rfl ?_
        rw [HK.out]
        exact stE.out.ans (by simp only [sv]) stE.out.p.2
     · skip
       go_simp
       refine (qG2.out _ st4.out.r).mono ?_
       rintro e w5 ⟨⟨vsy, ny, rfl, ha0⟩, hRR, hBB⟩
       obtain ⟨yi, ys, ya, yn, yc, yj, yd, ym, ye, rfl⟩ := ha0.pat_form
       have st5 := st4.out.addAt hRR hBB ha0
       clear hRR hBB ha0 st4
       refine hK.out _ _ trivial (fun _ => ?_)
       clear hK K
       try simp only [sx]
       refine wpAnyH_ready (rs := [0]) (by kernel_rfl) (by simp) (AllReadyH.cons rfl (fun K hK => ?_) AllReadyH.nil)
       obtain ⟨⟨lk0, lk1, lk2, lk3, lk4⟩, lz0, lz1, lz2, lz3, lz4⟩ := st5.out.l.e5
       go_simp
       refine hK.out _ _ trivial (fun _ => ?_)
       clear hK K
       try simp only [sx]
       refine wpAnyH_ready (rs := [3]) (by kernel_rfl) (by simp) (AllReadyH.cons rfl (fun K hK => ?_) AllReadyH.nil)
       go_simp
       have st6 := st5.out.sl2 (st5.out.p.1.2) (st5.out.p.2) 36 (w5.heap.size) rfl rfl (by simp)
       simp only [List.cons_append, List.nil_append] at st6
       clear st5
       refine hK.out _ _ trivial (fun _ => ?_)
       clear hK K
       try simp only [sx]
       refine wpAnyH_take (i := 4) (v := ?_) rfl (by kernel_rfl) (by kernel_rfl) (by kernel_rfl) (fun _ _ _ h => h) (Or.inl ⟨by rfl, ?_⟩) hS ?_
       rotate_left
       · intro wz hz; go_simp; try with_reducible rfl
       try simp only [sx]
       refine wpAnyH_ready (rs := [5]) (by kernel_rfl) (by simp) (AllReadyH.cons rfl (fun K hK => ?_) AllReadyH.nil)
       obtain ⟨⟨mk0, mk1, mk2, mk3, mk4⟩, mz0, mz1, mz2, mz3, mz4⟩ := st6.out.l.e5
       go_simp
       refine hK.out _ _ trivial (fun _ => ?_)
       clear hK K
       try simp only [sx]
       refine wpAnyH_done (by kernel_rfl) ?_ _
       have stp := fun W1 (hs : Save w2.heap.size _ W1) (hl : Bx W1 w2.heap.size [.int .i64 7, .string ⟨#[]⟩, .slice none 0 0, .int .i64 0, .slice (some ⟨w5.heap.size, 0, none⟩) 2 2]) => st6.out.put [.int .i64 7, .string ⟨#[]⟩, .slice none 0 0, .int .i64 0, .slice (some ⟨w5.heap.size, 0, none⟩) 2 2] hs hl (st6.out.p.1.1.1) (by simp) (by simp) (At.pat_mk (by decide) (by decide) (Tx.none0 ..) (fun x hx => by cases hx) (Nat.zero_le _) (by decide) (st6.out.p.2))
       cases hN : Gr.isT [41] r2 with
       | false =>
        have HK : Hid (R = .bad r2 11) := by show _ = _; rw [← HQ.out, Gr.need, if_neg (by rw [hN]; simp)]
        go_wp2_with (go_at_call 72; refine (gr_need_no _ B S r2 (stp _ (by simp only [sv]) (by refine Bx.of5 ?_ ?_ ?_ ?_ ?_ ?_ ?_ ?_ ?_ ?_ <;> simp [go_sem, mk0, mk1, mk2, mk3, mk4, mz0, mz1, mz2, mz3, mz4])).out.r ⟨#[41]⟩ hN).mono ?_; rintro e wE ⟨rfl, hRR, hBB⟩)
        exact ⟨rfl, by rw [HK.out]; exact ⟨rfl, ⟨_, hRR⟩, (stp _ (by simp only [sv]) (by refine Bx.of5 ?_ ?_ ?_ ?_ ?_ ?_ ?_ ?_ ?_ ?_ <;> simp [go_sem, mk0, mk1, mk2, mk3, mk4, mz0, mz1, mz2, mz3, mz4])).out.b.trans hBB⟩⟩
       | true =>
        have HK : Hid (R = .ok (Gr.patN 7 Gr.none8 [] 0 [a, b]) r2.tail) := by show _ = _; rw [← HQ.out, Gr.need, if_pos hN]
        go_wp2_with (go_at_call 72; refine (Stt.nd (stp _ (by simp only [sv]) (by refine Bx.of5 ?_ ?_ ?_ ?_ ?_ ?_ ?_ ?_ ?_ ?_ <;> simp [go_sem, mk0, mk1, mk2, mk3, mk4, mz0, mz1, mz2, mz3, mz4])).out ⟨#[41]⟩ hN).mono ?_; rintro e wE ⟨rfl, stE⟩; obtain ⟨⟨rk0, rk1, rk2, rk3, rk4⟩, rz0, rz1, rz2, rz3, rz4⟩ := stE.out.p.1.e5; obtain ⟨⟨sk0, sk1, sk2, sk3, sk4⟩, sz0, sz1, sz2, sz3, sz4⟩ := stE.out.l.e5; clear stp)
        refine bodyPost_ret (v := .agg #[.int .i64 7, .string ⟨#[]⟩, .slice none 0 0, .int .i64 0, .slice (some ⟨w5.heap.size, 0, none⟩) 2 2]) (by rw [results_cell1 (fn := Tryz.f153) (p := 2) (ty := 36) (by kernel_rfl)]; simp [go_sem, rk0, rk1, rk2, rk3, rk4]) rfl ?_
        rw [HK.out]
        exact stE.out.ans (by simp only [sv]) stE.out.p.2
   | false =>
    simp only [hT1, Bool.false_eq_true, if_false] at hne ⊢
    clear hne ihP
    cases hN : Gr.isT [41] r with
    | false =>
     rw [Gr.need, if_neg (by rw [hN]; simp)]
     go_enter Tryz.func153, Tryz.ntmps153
     go_wp2_with (first | (go_at_call 72; refine (gr_need_no _ B S r st3.out.r ⟨#[41]⟩ hN).mono ?_; rintro e w4 ⟨rfl, hRR, hBB⟩) | (go_at_call 53; refine (st2.out.tkF ⟨#[44]⟩ hT1).mono ?_; rintro e w3 ⟨rfl, st3⟩; clear st2) | (go_at_call 33; refine (qG.out _ st1.out.r).mono ?_; rintro e w2 ⟨⟨vsx, nx, rfl, ha0⟩, hRR, hBB⟩; obtain ⟨xi, xs, xa, xn, xc, xj, xd, xm, xe, rfl⟩ := ha0.pat_form; have st2 := st1.out.own (by simp) hRR hBB ha0 36 (by simp); clear hRR hBB ha0 st1) | (go_at_call 53; refine (st0.out.tkF ⟨#[41]⟩ hT0).mono ?_; rintro e w1 ⟨rfl, st1⟩; clear st0))
     exact ⟨rfl, rfl, ⟨_, hRR⟩, st3.out.b.trans hBB⟩
    | true =>
     rw [Gr.need, if_pos hN]
     go_enter Tryz.func153, Tryz.ntmps153
     go_wp2_with (first | (go_at_call 72; refine (st3.out.nd ⟨#[41]⟩ hN).mono ?_; rintro e w4 ⟨rfl, st4⟩; obtain ⟨⟨k0, k1, k2, k3, k4⟩, z0, z1, z2, z3, z4⟩ := st4.out.p.1.e5; have hlw := st4.out.sz; obtain ⟨⟨lk0, lk1, lk2, lk3, lk4⟩, lz0, lz1, lz2, lz3, lz4⟩ := st4.out.l.e5; clear st3) | (go_at_call 53; refine (st2.out.tkF ⟨#[44]⟩ hT1).mono ?_; rintro e w3 ⟨rfl, st3⟩; clear st2) | (go_at_call 33; refine (qG.out _ st1.out.r).mono ?_; rintro e w2 ⟨⟨vsx, nx, rfl, ha0⟩, hRR, hBB⟩; obtain ⟨xi, xs, xa, xn, xc, xj, xd, xm, xe, rfl⟩ := ha0.pat_form; have st2 := st1.out.own (by simp) hRR hBB ha0 36 (by simp); clear hRR hBB ha0 st1) | (go_at_call 53; refine (st0.out.tkF ⟨#[41]⟩ hT0).mono ?_; rintro e w1 ⟨rfl, st1⟩; clear st0))
     refine bodyPost_ret (v := .agg #[.int .i64 xi, .string xs, .slice xa xn xc, .int .i64 xj, .slice xd xm xe]) (by rw [results_cell1 (fn := Tryz.f153) (p := 2) (ty := 36) (by kernel_rfl)]; simp [go_sem, k0, k1, k2, k3, k4]) rfl ?_
     exact st4.out.ans (by simp only [sv]) (st4.out.p.2)
end Go.Proofs.YtjebepnphoeiaaaGreatDoor
