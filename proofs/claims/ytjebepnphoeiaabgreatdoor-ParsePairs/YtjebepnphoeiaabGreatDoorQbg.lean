/- Pieces: GrJ. -/
import Derived.Test.YtjebepnphoeiaabGreatDoorQbf
namespace Go.Proofs.YtjebepnphoeiaabGreatDoor
open Go.RowKit
set_option linter.unusedVariables false
set_option linter.unusedSimpArgs false

set_option maxHeartbeats 12000000 in
set_option maxRecDepth 100000 in
theorem gr_restPat (f : Nat) (ihP : Gr.Rule 16 .pat 1 f) : Gr.Rule 64 .restPat 1 (f + 1) := by
 intro w B S ts h hne
 rw [show Gr.g (f + 1) .restPat ts = (if Gr.isT [41] ts = true then .ok (Gr.patN 6 Gr.none8 [] 0 []) ts.tail
      else (Gr.g f .pat ts).bind fun a r =>
        if Gr.isT [44] r = true then (Gr.g f .pat r.tail).bind fun b r2 => Gr.need [41] r2 fun r3 => .ok (Gr.patN 7 Gr.none8 [] 0 [a, b]) r3
        else Gr.need [41] r fun r2 => .ok a r2) from rfl] at hne ⊢
 have hlt := h.lt
 have st0 := Stt.init h [.int .i64 0, .string ⟨#[]⟩, .slice none 0 0, .int .i64 0, .slice none 0 0] 52 (by simp)
 clear h
 cases hT0 : Gr.isT [41] ts with
 | true =>
  simp only [hT0, if_true]
  clear hne
  go_enter Tryz.func64, Tryz.ntmps64
  go_wp2_with (go_at_call 15; refine (st0.out.tkT ⟨#[41]⟩ hT0).mono ?_; rintro e w1 ⟨rfl, st1⟩; obtain ⟨⟨k0, k1, k2, k3, k4⟩, z0, z1, z2, z3, z4⟩ := st1.out.p.e5; have hlw := st1.out.sz; clear st0)
  refine bodyPost_ret (v := .agg #[.int .i64 6, .string ⟨#[]⟩, .slice none 0 0, .int .i64 0, .slice none 0 0]) (by rw [results_cell1 (fn := Tryz.f64) (p := 2) (ty := 52) (by kernel_rfl)]; simp [go_sem, k0, k1, k2, k3, k4]) rfl ?_
  exact st1.out.ans (by simp only [sv]) (At.pat_mk (n := 0) (by decide) (by decide) (Tx.none0 ..) (fun x hx => by cases hx) (Nat.zero_le _) (by decide) (AtL.none0 ..))
 | false =>
  simp only [hT0, Bool.false_eq_true, if_false] at hne ⊢
  cases hG : Gr.g f .pat ts with
  | out => rw [hG] at hne; exact absurd rfl hne
  | bad r c =>
   have qG : Hid (∀ W, Rd W B S ts → Calls Tryz.prog 16 #[.pointer (some ⟨B, 0, none⟩)] W (Gr.Ans B S 1 W (.bad r c))) := fun W hW => by rw [← hG]; exact ihP W B S ts hW (by rw [hG]; simp)
   clear hne hG
   go_enter Tryz.func64, Tryz.ntmps64
   go_wp2_with (first | (go_at_call 16; refine (qG.out _ st1.out.r).mono ?_; rintro e w2 ⟨rfl, hRR, hBB⟩) | (go_at_call 15; refine (st0.out.tkF ⟨#[41]⟩ hT0).mono ?_; rintro e w1 ⟨rfl, st1⟩; clear st0))
   exact ⟨rfl, rfl, hRR, st1.out.b.trans hBB⟩
  | ok a r =>
   have qG : Hid (∀ W, Rd W B S ts → Calls Tryz.prog 16 #[.pointer (some ⟨B, 0, none⟩)] W (Gr.Ans B S 1 W (.ok a r))) := fun W hW => by rw [← hG]; exact ihP W B S ts hW (by rw [hG]; simp)
   simp only [hG, Gr.Res.bind] at hne ⊢
   clear hG
   cases hT1 : Gr.isT [44] r with
   | true =>
    simp only [hT1, if_true] at hne ⊢
    cases hG2 : Gr.g f .pat r.tail with
    | out => rw [hG2] at hne; exact absurd rfl hne
    | bad r2 c =>
     have qG2 : Hid (∀ W, Rd W B S r.tail → Calls Tryz.prog 16 #[.pointer (some ⟨B, 0, none⟩)] W (Gr.Ans B S 1 W (.bad r2 c))) := fun W hW => by rw [← hG2]; exact ihP W B S r.tail hW (by rw [hG2]; simp)
     clear hne hG2 ihP
     go_enter Tryz.func64, Tryz.ntmps64
     go_wp2_with (first | (go_at_call 15; refine (st2.out.tkT ⟨#[44]⟩ hT1).mono ?_; rintro e w3 ⟨rfl, st3⟩; clear st2) | (go_at_call 16; refine (qG.out _ st1.out.r).mono ?_; rintro e w2 ⟨⟨vsx, nx, rfl, ha0⟩, hRR, hBB⟩; obtain ⟨xi, xs, xa, xn, xc, xj, xd, xm, xe, rfl⟩ := ha0.pat_form; have st2 := st1.out.own (by simp) hRR hBB ha0 52 (by simp); clear hRR hBB ha0 st1) | (go_at_call 15; refine (st0.out.tkF ⟨#[41]⟩ hT0).mono ?_; rintro e w1 ⟨rfl, st1⟩; clear st0))
     have st4 := st3.out.drew
     clear st3
     refine wp_region_held_drew (S := fun wz => True) rfl (trivial) (fun hS => ?_)
     refine wpAnyH_take (i := 1) (v := ?_) rfl (by kernel_rfl) (by kernel_rfl) (by kernel_rfl) (fun _ _ _ h => h) (Or.inl ⟨by rfl, ?_⟩) hS ?_
     rotate_left
     · intro wz hz; go_simp; try with_reducible rfl
     try simp only [sx]
     refine wpAnyH_ready (rs := [0, 2]) (by kernel_rfl) (by simp) (AllReadyH.cons rfl (fun K hK => ?_) (AllReadyH.cons rfl (fun K hK => ?_) AllReadyH.nil))
     · skip
       obtain ⟨⟨lk0, lk1, lk2, lk3, lk4⟩, lz0, lz1, lz2, lz3, lz4⟩ := st4.out.l.e5
       go_simp
       refine hK.out _ _ trivial (fun _ => ?_)
       clear hK K
       try simp only [sx]
       refine wpAnyH_ready (rs := [2]) (by kernel_rfl) (by simp) (AllReadyH.cons rfl (fun K hK => ?_) AllReadyH.nil)
       go_simp
       refine (qG2.out _ st4.out.r).mono ?_
       rintro e ww ⟨rfl, hRR, hBB⟩
       exact ⟨rfl, rfl, hRR, st4.out.b.trans hBB⟩
     · skip
       go_simp
       refine (qG2.out _ st4.out.r).mono ?_
       rintro e ww ⟨rfl, hRR, hBB⟩
       exact ⟨rfl, rfl, hRR, st4.out.b.trans hBB⟩
    | ok b r2 =>
     have qG2 : Hid (∀ W, Rd W B S r.tail → Calls Tryz.prog 16 #[.pointer (some ⟨B, 0, none⟩)] W (Gr.Ans B S 1 W (.ok b r2))) := fun W hW => by rw [← hG2]; exact ihP W B S r.tail hW (by rw [hG2]; simp)
     simp only [hG2, Gr.Res.bind] at hne ⊢
     clear hne hG2 ihP
     obtain ⟨R, hRq⟩ : ∃ R, (Gr.need [41] r2 fun r3 => Gr.Res.ok (Gr.patN 7 Gr.none8 [] 0 [a, b]) r3) = R := ⟨_, rfl⟩
     rw [hRq]
     have HQ : Hid ((Gr.need [41] r2 fun r3 => Gr.Res.ok (Gr.patN 7 Gr.none8 [] 0 [a, b]) r3) = R) := hRq
     clear hRq
     go_enter Tryz.func64, Tryz.ntmps64
     go_wp2_with (first | (go_at_call 15; refine (st2.out.tkT ⟨#[44]⟩ hT1).mono ?_; rintro e w3 ⟨rfl, st3⟩; clear st2) | (go_at_call 16; refine (qG.out _ st1.out.r).mono ?_; rintro e w2 ⟨⟨vsx, nx, rfl, ha0⟩, hRR, hBB⟩; obtain ⟨xi, xs, xa, xn, xc, xj, xd, xm, xe, rfl⟩ := ha0.pat_form; have st2 := st1.out.own (by simp) hRR hBB ha0 52 (by simp); clear hRR hBB ha0 st1) | (go_at_call 15; refine (st0.out.tkF ⟨#[41]⟩ hT0).mono ?_; rintro e w1 ⟨rfl, st1⟩; clear st0))
     have st4 := st3.out.drew
     clear st3
     refine wp_region_held_drew (S := fun wz => True) rfl (trivial) (fun hS => ?_)
     refine wpAnyH_take (i := 1) (v := ?_) rfl (by kernel_rfl) (by kernel_rfl) (by kernel_rfl) (fun _ _ _ h => h) (Or.inl ⟨by rfl, ?_⟩) hS ?_
     rotate_left
     · intro wz hz; go_simp; try with_reducible rfl
     try simp only [sx]
     refine wpAnyH_ready (rs := [0, 2]) (by kernel_rfl) (by simp) (AllReadyH.cons rfl (fun K hK => ?_) (AllReadyH.cons rfl (fun K hK => ?_) AllReadyH.nil))
     · skip
       obtain ⟨⟨lk0, lk1, lk2, lk3, lk4⟩, lz0, lz1, lz2, lz3, lz4⟩ := st4.out.l.e5
       go_simp
       refine hK.out _ _ trivial (fun _ => ?_)
       clear hK K
       try simp only [sx]
       refine wpAnyH_ready (rs := [2]) (by kernel_rfl) (by simp) (AllReadyH.cons rfl (fun K hK => ?_) AllReadyH.nil)
       go_simp
       refine (qG2.out _ st4.out.r).mono ?_
       rintro e w5 ⟨⟨vsy, ny, rfl, ha0⟩, hRR, hBB⟩
       obtain ⟨yi, ys, ya, yn, yc, yj, yd, ym, ye, rfl⟩ := ha0.pat_form
       have st5 := st4.out.addAt hRR hBB ha0
       clear hRR hBB ha0 st4
       refine hK.out _ _ trivial (fun _ => ?_)
       clear hK K
       try simp only [sx]
       refine wpAnyH_ready (rs := [3]) (by kernel_rfl) (by simp) (AllReadyH.cons rfl (fun K hK => ?_) AllReadyH.nil)
       go_simp
       have st6 := st5.out.sl2 (st5.out.p.1.2) (st5.out.p.2) 52 (w5.heap.size) rfl rfl (by simp)
       simp only [List.cons_append, List.nil_append] at st6
       clear st5
       refine hK.out _ _ trivial (fun _ => ?_)
       clear hK K
       try simp only [sx]
       refine wpAnyH_take (i := 4) (v := ?_) rfl (by kernel_rfl) (by kernel_rfl) (by kernel_rfl) (fun _ _ _ h => h) (Or.inl ⟨by rfl, ?_⟩) hS ?_
       rotate_left
       · intro wz hz; go_simp; try with_reducible rfl
       try simp only [sx]
       refine wpAnyH_ready (rs := [5]) (by kernel_rfl) (by simp) (AllReadyH.cons rfl (fun K hK => ?_) AllReadyH.nil)
       obtain ⟨⟨mk0, mk1, mk2, mk3, mk4⟩, mz0, mz1, mz2, mz3, mz4⟩ := st6.out.l.e5
       go_simp
       refine hK.out _ _ trivial (fun _ => ?_)
       clear hK K
       try simp only [sx]
       refine wpAnyH_done (by kernel_rfl) ?_ _
       have stp := fun W1 (hs : Save w2.heap.size _ W1) (hl : Bx W1 w2.heap.size [.int .i64 7, .string ⟨#[]⟩, .slice none 0 0, .int .i64 0, .slice (some ⟨w5.heap.size, 0, none⟩) 2 2]) => st6.out.put [.int .i64 7, .string ⟨#[]⟩, .slice none 0 0, .int .i64 0, .slice (some ⟨w5.heap.size, 0, none⟩) 2 2] hs hl (st6.out.p.1.1.1) (by simp) (by simp) (At.pat_mk (by decide) (by decide) (Tx.none0 ..) (fun x hx => by cases hx) (Nat.zero_le _) (by decide) (st6.out.p.2))
       cases hN : Gr.isT [41] r2 with
       | false =>
        have HK : Hid (R = .bad r2 11) := by show _ = _; rw [← HQ.out, Gr.need, if_neg (by rw [hN]; simp)]
        go_wp2_with (go_at_call 17; refine (gr_need_no _ B S r2 (stp _ (by simp only [sv]) (by refine Bx.of5 ?_ ?_ ?_ ?_ ?_ ?_ ?_ ?_ ?_ ?_ <;> simp [go_sem, mk0, mk1, mk2, mk3, mk4, mz0, mz1, mz2, mz3, mz4])).out.r ⟨#[41]⟩ hN).mono ?_; rintro e wE ⟨rfl, hRR, hBB⟩)
        exact ⟨rfl, by rw [HK.out]; exact ⟨rfl, ⟨_, hRR⟩, (stp _ (by simp only [sv]) (by refine Bx.of5 ?_ ?_ ?_ ?_ ?_ ?_ ?_ ?_ ?_ ?_ <;> simp [go_sem, mk0, mk1, mk2, mk3, mk4, mz0, mz1, mz2, mz3, mz4])).out.b.trans hBB⟩⟩
       | true =>
        have HK : Hid (R = .ok (Gr.patN 7 Gr.none8 [] 0 [a, b]) r2.tail) := by show _ = _; rw [← HQ.out, Gr.need, if_pos hN]
        go_wp2_with (go_at_call 17; refine (Stt.nd (stp _ (by simp only [sv]) (by refine Bx.of5 ?_ ?_ ?_ ?_ ?_ ?_ ?_ ?_ ?_ ?_ <;> simp [go_sem, mk0, mk1, mk2, mk3, mk4, mz0, mz1, mz2, mz3, mz4])).out ⟨#[41]⟩ hN).mono ?_; rintro e wE ⟨rfl, stE⟩; obtain ⟨⟨rk0, rk1, rk2, rk3, rk4⟩, rz0, rz1, rz2, rz3, rz4⟩ := stE.out.p.1.e5; obtain ⟨⟨sk0, sk1, sk2, sk3, sk4⟩, sz0, sz1, sz2, sz3, sz4⟩ := stE.out.l.e5; clear stp)
        refine bodyPost_ret (v := .agg #[.int .i64 7, .string ⟨#[]⟩, .slice none 0 0, .int .i64 0, .slice (some ⟨w5.heap.size, 0, none⟩) 2 2]) (by rw [results_cell1 (fn := Tryz.f64) (p := 2) (ty := 52) (by kernel_rfl)]; simp [go_sem, rk0, rk1, rk2, rk3, rk4]) rfl ?_
        rw [HK.out]
        exact stE.out.ans (by simp only [sv]) stE.out.p.2
     · skip
       go_simp
       refine (qG2.out _ st4.out.r).mono ?_
       rintro e w5 ⟨⟨vsy, ny, rfl, ha0⟩, hRR, hBB⟩
       obtain ⟨yi, ys, ya, yn, yc, yj, yd, ym, ye, rfl⟩ := ha0.pat_form
       have st5 := st4.out.addAt hRR hBB ha0
       clear hRR hBB ha0 st4
       refine hK.out _ _ trivial (fun _ => ?_)
       clear hK K
       try simp only [sx]
       refine wpAnyH_ready (rs := [0]) (by kernel_rfl) (by simp) (AllReadyH.cons rfl (fun K hK => ?_) AllReadyH.nil)
       obtain ⟨⟨lk0, lk1, lk2, lk3, lk4⟩, lz0, lz1, lz2, lz3, lz4⟩ := st5.out.l.e5
       go_simp
       refine hK.out _ _ trivial (fun _ => ?_)
       clear hK K
       try simp only [sx]
       refine wpAnyH_ready (rs := [3]) (by kernel_rfl) (by simp) (AllReadyH.cons rfl (fun K hK => ?_) AllReadyH.nil)
       go_simp
       have st6 := st5.out.sl2 (st5.out.p.1.2) (st5.out.p.2) 52 (w5.heap.size) rfl rfl (by simp)
       simp only [List.cons_append, List.nil_append] at st6
       clear st5
       refine hK.out _ _ trivial (fun _ => ?_)
       clear hK K
       try simp only [sx]
       refine wpAnyH_take (i := 4) (v := ?_) rfl (by kernel_rfl) (by kernel_rfl) (by kernel_rfl) (fun _ _ _ h => h) (Or.inl ⟨by rfl, ?_⟩) hS ?_
       rotate_left
       · intro wz hz; go_simp; try with_reducible rfl
       try simp only [sx]
       refine wpAnyH_ready (rs := [5]) (by kernel_rfl) (by simp) (AllReadyH.cons rfl (fun K hK => ?_) AllReadyH.nil)
       obtain ⟨⟨mk0, mk1, mk2, mk3, mk4⟩, mz0, mz1, mz2, mz3, mz4⟩ := st6.out.l.e5
       go_simp
       refine hK.out _ _ trivial (fun _ => ?_)
       clear hK K
       try simp only [sx]
       refine wpAnyH_done (by kernel_rfl) ?_ _
       have stp := fun W1 (hs : Save w2.heap.size _ W1) (hl : Bx W1 w2.heap.size [.int .i64 7, .string ⟨#[]⟩, .slice none 0 0, .int .i64 0, .slice (some ⟨w5.heap.size, 0, none⟩) 2 2]) => st6.out.put [.int .i64 7, .string ⟨#[]⟩, .slice none 0 0, .int .i64 0, .slice (some ⟨w5.heap.size, 0, none⟩) 2 2] hs hl (st6.out.p.1.1.1) (by simp) (by simp) (At.pat_mk (by decide) (by decide) (Tx.none0 ..) (fun x hx => by cases hx) (Nat.zero_le _) (by decide) (st6.out.p.2))
       cases hN : Gr.isT [41] r2 with
       | false =>
        have HK : Hid (R = .bad r2 11) := by show _ = _; rw [← HQ.out, Gr.need, if_neg (by rw [hN]; simp)]
        go_wp2_with (go_at_call 17; refine (gr_need_no _ B S r2 (stp _ (by simp only [sv]) (by refine Bx.of5 ?_ ?_ ?_ ?_ ?_ ?_ ?_ ?_ ?_ ?_ <;> simp [go_sem, mk0, mk1, mk2, mk3, mk4, mz0, mz1, mz2, mz3, mz4])).out.r ⟨#[41]⟩ hN).mono ?_; rintro e wE ⟨rfl, hRR, hBB⟩)
        exact ⟨rfl, by rw [HK.out]; exact ⟨rfl, ⟨_, hRR⟩, (stp _ (by simp only [sv]) (by refine Bx.of5 ?_ ?_ ?_ ?_ ?_ ?_ ?_ ?_ ?_ ?_ <;> simp [go_sem, mk0, mk1, mk2, mk3, mk4, mz0, mz1, mz2, mz3, mz4])).out.b.trans hBB⟩⟩
       | true =>
        have HK : Hid (R = .ok (Gr.patN 7 Gr.none8 [] 0 [a, b]) r2.tail) := by show _ = _; rw [← HQ.out, Gr.need, if_pos hN]
        go_wp2_with (go_at_call 17; refine (Stt.nd (stp _ (by simp only [sv]) (by refine Bx.of5 ?_ ?_ ?_ ?_ ?_ ?_ ?_ ?_ ?_ ?_ <;> simp [go_sem, mk0, mk1, mk2, mk3, mk4, mz0, mz1, mz2, mz3, mz4])).out ⟨#[41]⟩ hN).mono ?_; rintro e wE ⟨rfl, stE⟩; obtain ⟨⟨rk0, rk1, rk2, rk3, rk4⟩, rz0, rz1, rz2, rz3, rz4⟩ := stE.out.p.1.e5; obtain ⟨⟨sk0, sk1, sk2, sk3, sk4⟩, sz0, sz1, sz2, sz3, sz4⟩ := stE.out.l.e5; clear stp)
        refine bodyPost_ret (v := .agg #[.int .i64 7, .string ⟨#[]⟩, .slice none 0 0, .int .i64 0, .slice (some ⟨w5.heap.size, 0, none⟩) 2 2]) (by rw [results_cell1 (fn := Tryz.f64) (p := 2) (ty := 52) (by kernel_rfl)]; simp [go_sem, rk0, rk1, rk2, rk3, rk4]) rfl ?_
        rw [HK.out]
        exact stE.out.ans (by simp only [sv]) stE.out.p.2
   | false =>
    simp only [hT1, Bool.false_eq_true, if_false] at hne ⊢
    clear hne ihP
    cases hN : Gr.isT [41] r with
    | false =>
     rw [Gr.need, if_neg (by rw [hN]; simp)]
     go_enter Tryz.func64, Tryz.ntmps64
     go_wp2_with (first | (go_at_call 17; refine (gr_need_no _ B S r st3.out.r ⟨#[41]⟩ hN).mono ?_; rintro e w4 ⟨rfl, hRR, hBB⟩) | (go_at_call 15; refine (st2.out.tkF ⟨#[44]⟩ hT1).mono ?_; rintro e w3 ⟨rfl, st3⟩; clear st2) | (go_at_call 16; refine (qG.out _ st1.out.r).mono ?_; rintro e w2 ⟨⟨vsx, nx, rfl, ha0⟩, hRR, hBB⟩; obtain ⟨xi, xs, xa, xn, xc, xj, xd, xm, xe, rfl⟩ := ha0.pat_form; have st2 := st1.out.own (by simp) hRR hBB ha0 52 (by simp); clear hRR hBB ha0 st1) | (go_at_call 15; refine (st0.out.tkF ⟨#[41]⟩ hT0).mono ?_; rintro e w1 ⟨rfl, st1⟩; clear st0))
     exact ⟨rfl, rfl, ⟨_, hRR⟩, st3.out.b.trans hBB⟩
    | true =>
     rw [Gr.need, if_pos hN]
     go_enter Tryz.func64, Tryz.ntmps64
     go_wp2_with (first | (go_at_call 17; refine (st3.out.nd ⟨#[41]⟩ hN).mono ?_; rintro e w4 ⟨rfl, st4⟩; obtain ⟨⟨k0, k1, k2, k3, k4⟩, z0, z1, z2, z3, z4⟩ := st4.out.p.1.e5; have hlw := st4.out.sz; obtain ⟨⟨lk0, lk1, lk2, lk3, lk4⟩, lz0, lz1, lz2, lz3, lz4⟩ := st4.out.l.e5; clear st3) | (go_at_call 15; refine (st2.out.tkF ⟨#[44]⟩ hT1).mono ?_; rintro e w3 ⟨rfl, st3⟩; clear st2) | (go_at_call 16; refine (qG.out _ st1.out.r).mono ?_; rintro e w2 ⟨⟨vsx, nx, rfl, ha0⟩, hRR, hBB⟩; obtain ⟨xi, xs, xa, xn, xc, xj, xd, xm, xe, rfl⟩ := ha0.pat_form; have st2 := st1.out.own (by simp) hRR hBB ha0 52 (by simp); clear hRR hBB ha0 st1) | (go_at_call 15; refine (st0.out.tkF ⟨#[41]⟩ hT0).mono ?_; rintro e w1 ⟨rfl, st1⟩; clear st0))
     refine bodyPost_ret (v := .agg #[.int .i64 xi, .string xs, .slice xa xn xc, .int .i64 xj, .slice xd xm xe]) (by rw [results_cell1 (fn := Tryz.f64) (p := 2) (ty := 52) (by kernel_rfl)]; simp [go_sem, k0, k1, k2, k3, k4]) rfl ?_
     exact st4.out.ans (by simp only [sv]) (st4.out.p.2)
end Go.Proofs.YtjebepnphoeiaabGreatDoor
