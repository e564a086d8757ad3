/- Pieces: GrBr. -/
import Derived.Test.YtjebepnphoeiaabGreatDoorQbf
namespace Go.Proofs.YtjebepnphoeiaabGreatDoor
open Go.RowKit
set_option linter.unusedVariables false
set_option linter.unusedSimpArgs false

set_option maxHeartbeats 12000000 in
set_option maxRecDepth 100000 in
theorem gr_restExp (f : Nat) (ihE : Gr.Rule 8 .exp 2 f) (ihT : Gr.Rule 23 .ty 0 f) : Gr.Rule 126 .restExp 2 (f + 1) := by
 intro w B S ts h hne
 rw [show Gr.g (f + 1) .restExp ts = (if Gr.isT [41] ts = true then .ok (Gr.expN 4 0 0 [] [] [] [] []) ts.tail
      else (Gr.g f .exp ts).bind fun a r =>
        if Gr.isT [44] r = true then (Gr.g f .exp r.tail).bind fun b r2 => Gr.need [41] r2 fun r3 => .ok (Gr.expN 9 0 0 [] [] [a, b] [] []) r3
        else if Gr.isT [58] r = true then (Gr.g f .ty r.tail).bind fun t r2 => Gr.need [41] r2 fun r3 => .ok (Gr.expN 14 0 0 [] [] [a] [] [t]) r3
        else Gr.need [41] r fun r2 => .ok a r2) from rfl] at hne ⊢
 have hlt := h.lt
 have st0 := Stt.init h [.int .i64 0, .int .i64 0, .int .i64 0, .slice none 0 0, .slice none 0 0, .slice none 0 0, .slice none 0 0, .slice none 0 0] 28 (by simp)
 clear h
 cases hT0 : Gr.isT [41] ts with
 | true =>
  simp only [hT0, if_true]
  clear hne
  go_enter Tryz.func126, Tryz.ntmps126
  go_wp2_with (go_at_call 15; refine (st0.out.tkT ⟨#[41]⟩ hT0).mono ?_; rintro e w1 ⟨rfl, st1⟩; obtain ⟨⟨k0, k1, k2, k3, k4, k5, k6, k7⟩, z0, z1, z2, z3, z4, z5, z6, z7⟩ := st1.out.p.e8; have hlw := st1.out.sz; clear st0)
  refine bodyPost_ret (v := .agg #[.int .i64 4, .int .i64 0, .int .i64 0, .slice none 0 0, .slice none 0 0, .slice none 0 0, .slice none 0 0, .slice none 0 0]) (by rw [results_cell1 (fn := Tryz.f126) (p := 2) (ty := 28) (by kernel_rfl)]; simp [go_sem, k0, k1, k2, k3, k4, k5, k6, k7]) rfl ?_
  exact st1.out.ans (by simp only [sv]) (At.exp_mk (n := 0) (by decide) (by decide) (by decide) (Tx.none0 ..) (fun x hx => by cases hx) (Nat.zero_le _) (AtL.none0 ..) (AtL.none0 ..) (AtL.none0 ..) (AtL.none0 ..))
 | false =>
  simp only [hT0, Bool.false_eq_true, if_false] at hne ⊢
  cases hG : Gr.g f .exp ts with
  | out => rw [hG] at hne; exact absurd rfl hne
  | bad r c =>
   have qG : Hid (∀ W, Rd W B S ts → Calls Tryz.prog 8 #[.pointer (some ⟨B, 0, none⟩)] W (Gr.Ans B S 2 W (.bad r c))) := fun W hW => by rw [← hG]; exact ihE W B S ts hW (by rw [hG]; simp)
   clear hne hG ihT
   go_enter Tryz.func126, Tryz.ntmps126
   go_wp2_with (first | (go_at_call 8; refine (qG.out _ st1.out.r).mono ?_; rintro e w2 ⟨rfl, hRR, hBB⟩) | (go_at_call 15; refine (st0.out.tkF ⟨#[41]⟩ hT0).mono ?_; rintro e w1 ⟨rfl, st1⟩; clear st0))
   exact ⟨rfl, rfl, hRR, st1.out.b.trans hBB⟩
  | ok a r =>
   have qG : Hid (∀ W, Rd W B S ts → Calls Tryz.prog 8 #[.pointer (some ⟨B, 0, none⟩)] W (Gr.Ans B S 2 W (.ok a r))) := fun W hW => by rw [← hG]; exact ihE W B S ts hW (by rw [hG]; simp)
   simp only [hG, Gr.Res.bind] at hne ⊢
   clear hG
   cases hT1 : Gr.isT [44] r with
   | true =>
    simp only [hT1, if_true] at hne ⊢
    cases hG2 : Gr.g f .exp r.tail with
    | out => rw [hG2] at hne; exact absurd rfl hne
    | bad r2 c =>
     have qG2 : Hid (∀ W, Rd W B S r.tail → Calls Tryz.prog 8 #[.pointer (some ⟨B, 0, none⟩)] W (Gr.Ans B S 2 W (.bad r2 c))) := fun W hW => by rw [← hG2]; exact ihE W B S r.tail hW (by rw [hG2]; simp)
     clear hne hG2 ihE ihT
     go_enter Tryz.func126, Tryz.ntmps126
     go_wp2_with (first | (go_at_call 15; refine (st2.out.tkT ⟨#[44]⟩ hT1).mono ?_; rintro e w3 ⟨rfl, st3⟩; clear st2) | (go_at_call 8; refine (qG.out _ st1.out.r).mono ?_; rintro e w2 ⟨⟨vsx, nx, rfl, ha0⟩, hRR, hBB⟩; obtain ⟨xi, xj, xk, xa, xn, xc, xd0, xm0, xe0, xd1, xm1, xe1, xd2, xm2, xe2, xd3, xm3, xe3, rfl⟩ := ha0.exp_form; have st2 := st1.out.own (by simp) hRR hBB ha0 28 (by simp); clear hRR hBB ha0 st1) | (go_at_call 15; refine (st0.out.tkF ⟨#[41]⟩ hT0).mono ?_; rintro e w1 ⟨rfl, st1⟩; clear st0))
     have st4 := st3.out.drew
     clear st3
     refine wp_region_held_drew (S := fun wz => True) rfl (trivial) (fun hS => ?_)
     refine wpAnyH_take (i := 1) (v := ?_) rfl (by kernel_rfl) (by kernel_rfl) (by kernel_rfl) (fun _ _ _ h => h) (Or.inl ⟨by rfl, ?_⟩) hS ?_
     rotate_left
     · intro wz hz; go_simp; try with_reducible rfl
     try simp only [sx]
     refine wpAnyH_ready (rs := [0, 2]) (by kernel_rfl) (by simp) (AllReadyH.cons rfl (fun K hK => ?_) (AllReadyH.cons rfl (fun K hK => ?_) AllReadyH.nil))
     · skip
       obtain ⟨⟨lk0, lk1, lk2, lk3, lk4, lk5, lk6, lk7⟩, lz0, lz1, lz2, lz3, lz4, lz5, lz6, lz7⟩ := st4.out.l.e8
       go_simp
       refine hK.out _ _ trivial (fun _ => ?_)
       clear hK K
       try simp only [sx]
       refine wpAnyH_ready (rs := [2]) (by kernel_rfl) (by simp) (AllReadyH.cons rfl (fun K hK => ?_) AllReadyH.nil)
       go_simp
       refine (qG2.out _ st4.out.r).mono ?_
       rintro e ww ⟨rfl, hRR, hBB⟩
       exact ⟨rfl, rfl, hRR, st4.out.b.trans hBB⟩
     · skip
       go_simp
       refine (qG2.out _ st4.out.r).mono ?_
       rintro e ww ⟨rfl, hRR, hBB⟩
       exact ⟨rfl, rfl, hRR, st4.out.b.trans hBB⟩
    | ok b r2 =>
     have qG2 : Hid (∀ W, Rd W B S r.tail → Calls Tryz.prog 8 #[.pointer (some ⟨B, 0, none⟩)] W (Gr.Ans B S 2 W (.ok b r2))) := fun W hW => by rw [← hG2]; exact ihE W B S r.tail hW (by rw [hG2]; simp)
     simp only [hG2, Gr.Res.bind] at hne ⊢
     clear hne hG2 ihE ihT
     obtain ⟨R, hRq⟩ : ∃ R, (Gr.need [41] r2 fun r3 => Gr.Res.ok (Gr.expN 9 0 0 [] [] [a, b] [] []) r3) = R := ⟨_, rfl⟩
     rw [hRq]
     have HQ : Hid ((Gr.need [41] r2 fun r3 => Gr.Res.ok (Gr.expN 9 0 0 [] [] [a, b] [] []) r3) = R) := hRq
     clear hRq
     go_enter Tryz.func126, Tryz.ntmps126
     go_wp2_with (first | (go_at_call 15; refine (st2.out.tkT ⟨#[44]⟩ hT1).mono ?_; rintro e w3 ⟨rfl, st3⟩; clear st2) | (go_at_call 8; refine (qG.out _ st1.out.r).mono ?_; rintro e w2 ⟨⟨vsx, nx, rfl, ha0⟩, hRR, hBB⟩; obtain ⟨xi, xj, xk, xa, xn, xc, xd0, xm0, xe0, xd1, xm1, xe1, xd2, xm2, xe2, xd3, xm3, xe3, rfl⟩ := ha0.exp_form; have st2 := st1.out.own (by simp) hRR hBB ha0 28 (by simp); clear hRR hBB ha0 st1) | (go_at_call 15; refine (st0.out.tkF ⟨#[41]⟩ hT0).mono ?_; rintro e w1 ⟨rfl, st1⟩; clear st0))
     have st4 := st3.out.drew
     clear st3
     refine wp_region_held_drew (S := fun wz => True) rfl (trivial) (fun hS => ?_)
     refine wpAnyH_take (i := 1) (v := ?_) rfl (by kernel_rfl) (by kernel_rfl) (by kernel_rfl) (fun _ _ _ h => h) (Or.inl ⟨by rfl, ?_⟩) hS ?_
     rotate_left
     · intro wz hz; go_simp; try with_reducible rfl
     try simp only [sx]
     refine wpAnyH_ready (rs := [0, 2]) (by kernel_rfl) (by simp) (AllReadyH.cons rfl (fun K hK => ?_) (AllReadyH.cons rfl (fun K hK => ?_) AllReadyH.nil))
     · skip
       obtain ⟨⟨lk0, lk1, lk2, lk3, lk4, lk5, lk6, lk7⟩, lz0, lz1, lz2, lz3, lz4, lz5, lz6, lz7⟩ := st4.out.l.e8
       go_simp
       refine hK.out _ _ trivial (fun _ => ?_)
       clear hK K
       try simp only [sx]
       refine wpAnyH_ready (rs := [2]) (by kernel_rfl) (by simp) (AllReadyH.cons rfl (fun K hK => ?_) AllReadyH.nil)
       go_simp
       refine (qG2.out _ st4.out.r).mono ?_
       rintro e w5 ⟨⟨vsy, ny, rfl, ha0⟩, hRR, hBB⟩
       obtain ⟨yi, yj, yk, ya, yn, yc, yd0, ym0, ye0, yd1, ym1, ye1, yd2, ym2, ye2, yd3, ym3, ye3, rfl⟩ := ha0.exp_form
       have st5 := st4.out.addAt hRR hBB ha0
       clear hRR hBB ha0 st4
       refine hK.out _ _ trivial (fun _ => ?_)
       clear hK K
       try simp only [sx]
       refine wpAnyH_ready (rs := [3]) (by kernel_rfl) (by simp) (AllReadyH.cons rfl (fun K hK => ?_) AllReadyH.nil)
       go_simp
       have st6 := st5.out.sl2 (st5.out.p.1.2) (st5.out.p.2) 28 (w5.heap.size) rfl rfl (by simp)
       simp only [List.cons_append, List.nil_append] at st6
       clear st5
       refine hK.out _ _ trivial (fun _ => ?_)
       clear hK K
       try simp only [sx]
       refine wpAnyH_take (i := 4) (v := ?_) rfl (by kernel_rfl) (by kernel_rfl) (by kernel_rfl) (fun _ _ _ h => h) (Or.inl ⟨by rfl, ?_⟩) hS ?_
       rotate_left
       · intro wz hz; go_simp; try with_reducible rfl
       try simp only [sx]
       refine wpAnyH_ready (rs := [5]) (by kernel_rfl) (by simp) (AllReadyH.cons rfl (fun K hK => ?_) AllReadyH.nil)
       obtain ⟨⟨mk0, mk1, mk2, mk3, mk4, mk5, mk6, mk7⟩, mz0, mz1, mz2, mz3, mz4, mz5, mz6, mz7⟩ := st6.out.l.e8
       go_simp
       refine hK.out _ _ trivial (fun _ => ?_)
       clear hK K
       try simp only [sx]
       refine wpAnyH_done (by kernel_rfl) ?_ _
       have stp := fun W1 (hs : Save w2.heap.size _ W1) (hl : Bx W1 w2.heap.size [.int .i64 9, .int .i64 0, .int .i64 0, .slice none 0 0, .slice none 0 0, .slice (some ⟨w5.heap.size, 0, none⟩) 2 2, .slice none 0 0, .slice none 0 0]) => st6.out.put [.int .i64 9, .int .i64 0, .int .i64 0, .slice none 0 0, .slice none 0 0, .slice (some ⟨w5.heap.size, 0, none⟩) 2 2, .slice none 0 0, .slice none 0 0] hs hl (st6.out.p.1.1.1) (by simp) (by simp) (At.exp_mk (by decide) (by decide) (by decide) (Tx.none0 ..) (fun x hx => by cases hx) (Nat.zero_le _) (AtL.none0 ..) (st6.out.p.2) (AtL.none0 ..) (AtL.none0 ..))
       cases hN : Gr.isT [41] r2 with
       | false =>
        have HK : Hid (R = .bad r2 11) := by show _ = _; rw [← HQ.out, Gr.need, if_neg (by rw [hN]; simp)]
        go_wp2_with (go_at_call 17; refine (gr_need_no _ B S r2 (stp _ (by simp only [sv]) (by refine Bx.of8 ?_ ?_ ?_ ?_ ?_ ?_ ?_ ?_ ?_ ?_ ?_ ?_ ?_ ?_ ?_ ?_ <;> simp [go_sem, mk0, mk1, mk2, mk3, mk4, mk5, mk6, mk7, mz0, mz1, mz2, mz3, mz4, mz5, mz6, mz7])).out.r ⟨#[41]⟩ hN).mono ?_; rintro e wE ⟨rfl, hRR, hBB⟩)
        exact ⟨rfl, by rw [HK.out]; exact ⟨rfl, ⟨_, hRR⟩, (stp _ (by simp only [sv]) (by refine Bx.of8 ?_ ?_ ?_ ?_ ?_ ?_ ?_ ?_ ?_ ?_ ?_ ?_ ?_ ?_ ?_ ?_ <;> simp [go_sem, mk0, mk1, mk2, mk3, mk4, mk5, mk6, mk7, mz0, mz1, mz2, mz3, mz4, mz5, mz6, mz7])).out.b.trans hBB⟩⟩
       | true =>
        have HK : Hid (R = .ok (Gr.expN 9 0 0 [] [] [a, b] [] []) r2.tail) := by show _ = _; rw [← HQ.out, Gr.need, if_pos hN]
        go_wp2_with (go_at_call 17; refine (Stt.nd (stp _ (by simp only [sv]) (by refine Bx.of8 ?_ ?_ ?_ ?_ ?_ ?_ ?_ ?_ ?_ ?_ ?_ ?_ ?_ ?_ ?_ ?_ <;> simp [go_sem, mk0, mk1, mk2, mk3, mk4, mk5, mk6, mk7, mz0, mz1, mz2, mz3, mz4, mz5, mz6, mz7])).out ⟨#[41]⟩ hN).mono ?_; rintro e wE ⟨rfl, stE⟩; obtain ⟨⟨rk0, rk1, rk2, rk3, rk4, rk5, rk6, rk7⟩, rz0, rz1, rz2, rz3, rz4, rz5, rz6, rz7⟩ := stE.out.p.1.e8; obtain ⟨⟨sk0, sk1, sk2, sk3, sk4, sk5, sk6, sk7⟩, sz0, sz1, sz2, sz3, sz4, sz5, sz6, sz7⟩ := stE.out.l.e8; clear stp)
        refine bodyPost_ret (v := .agg #[.int .i64 9, .int .i64 0, .int .i64 0, .slice none 0 0, .slice none 0 0, .slice (some ⟨w5.heap.size, 0, none⟩) 2 2, .slice none 0 0, .slice none 0 0]) (by rw [results_cell1 (fn := Tryz.f126) (p := 2) (ty := 28) (by kernel_rfl)]; simp [go_sem, rk0, rk1, rk2, rk3, rk4, rk5, rk6, rk7]) rfl ?_
        rw [HK.out]
        exact stE.out.ans (by simp only [sv]) stE.out.p.2
     · skip
       go_simp
       refine (qG2.out _ st4.out.r).mono ?_
       rintro e w5 ⟨⟨vsy, ny, rfl, ha0⟩, hRR, hBB⟩
       obtain ⟨yi, yj, yk, ya, yn, yc, yd0, ym0, ye0, yd1, ym1, ye1, yd2, ym2, ye2, yd3, ym3, ye3, rfl⟩ := ha0.exp_form
       have st5 := st4.out.addAt hRR hBB ha0
       clear hRR hBB ha0 st4
       refine hK.out _ _ trivial (fun _ => ?_)
       clear hK K
       try simp only [sx]
       refine wpAnyH_ready (rs := [0]) (by kernel_rfl) (by simp) (AllReadyH.cons rfl (fun K hK => ?_) AllReadyH.nil)
       obtain ⟨⟨lk0, lk1, lk2, lk3, lk4, lk5, lk6, lk7⟩, lz0, lz1, lz2, lz3, lz4, lz5, lz6, lz7⟩ := st5.out.l.e8
       go_simp
       refine hK.out _ _ trivial (fun _ => ?_)
       clear hK K
       try simp only [sx]
       refine wpAnyH_ready (rs := [3]) (by kernel_rfl) (by simp) (AllReadyH.cons rfl (fun K hK => ?_) AllReadyH.nil)
       go_simp
       have st6 := st5.out.sl2 (st5.out.p.1.2) (st5.out.p.2) 28 (w5.heap.size) rfl rfl (by simp)
       simp only [List.cons_append, List.nil_append] at st6
       clear st5
       refine hK.out _ _ trivial (fun _ => ?_)
       clear hK K
       try simp only [sx]
       refine wpAnyH_take (i := 4) (v := ?_) rfl (by kernel_rfl) (by kernel_rfl) (by kernel_rfl) (fun _ _ _ h => h) (Or.inl ⟨by rfl, ?_⟩) hS ?_
       rotate_left
       · intro wz hz; go_simp; try with_reducible rfl
       try simp only [sx]
       refine wpAnyH_ready (rs := [5]) (by kernel_rfl) (by simp) (AllReadyH.cons rfl (fun K hK => ?_) AllReadyH.nil)
       obtain ⟨⟨mk0, mk1, mk2, mk3, mk4, mk5, mk6, mk7⟩, mz0, mz1, mz2, mz3, mz4, mz5, mz6, mz7⟩ := st6.out.l.e8
       go_simp
       refine hK.out _ _ trivial (fun _ => ?_)
       clear hK K
       try simp only [sx]
       refine wpAnyH_done (by kernel_rfl) ?_ _
       have stp := fun W1 (hs : Save w2.heap.size _ W1) (hl : Bx W1 w2.heap.size [.int .i64 9, .int .i64 0, .int .i64 0, .slice none 0 0, .slice none 0 0, .slice (some ⟨w5.heap.size, 0, none⟩) 2 2, .slice none 0 0, .slice none 0 0]) => st6.out.put [.int .i64 9, .int .i64 0, .int .i64 0, .slice none 0 0, .slice none 0 0, .slice (some ⟨w5.heap.size, 0, none⟩) 2 2, .slice none 0 0, .slice none 0 0] hs hl (st6.out.p.1.1.1) (by simp) (by simp) (At.exp_mk (by decide) (by decide) (by decide) (Tx.none0 ..) (fun x hx => by cases hx) (Nat.zero_le _) (AtL.none0 ..) (st6.out.p.2) (AtL.none0 ..) (AtL.none0 ..))
       cases hN : Gr.isT [41] r2 with
       | false =>
        have HK : Hid (R = .bad r2 11) := by show _ = _; rw [← HQ.out, Gr.need, if_neg (by rw [hN]; simp)]
        go_wp2_with (go_at_call 17; refine (gr_need_no _ B S r2 (stp _ (by simp only [sv]) (by refine Bx.of8 ?_ ?_ ?_ ?_ ?_ ?_ ?_ ?_ ?_ ?_ ?_ ?_ ?_ ?_ ?_ ?_ <;> simp [go_sem, mk0, mk1, mk2, mk3, mk4, mk5, mk6, mk7, mz0, mz1, mz2, mz3, mz4, mz5, mz6, mz7])).out.r ⟨#[41]⟩ hN).mono ?_; rintro e wE ⟨rfl, hRR, hBB⟩)
        exact ⟨rfl, by rw [HK.out]; exact ⟨rfl, ⟨_, hRR⟩, (stp _ (by simp only [sv]) (by refine Bx.of8 ?_ ?_ ?_ ?_ ?_ ?_ ?_ ?_ ?_ ?_ ?_ ?_ ?_ ?_ ?_ ?_ <;> simp [go_sem, mk0, mk1, mk2, mk3, mk4, mk5, mk6, mk7, mz0, mz1, mz2, mz3, mz4, mz5, mz6, mz7])).out.b.trans hBB⟩⟩
       | true =>
        have HK : Hid (R = .ok (Gr.expN 9 0 0 [] [] [a, b] [] []) r2.tail) := by show _ = _; rw [← HQ.out, Gr.need, if_pos hN]
        go_wp2_with (go_at_call 17; refine (Stt.nd (stp _ (by simp only [sv]) (by refine Bx.of8 ?_ ?_ ?_ ?_ ?_ ?_ ?_ ?_ ?_ ?_ ?_ ?_ ?_ ?_ ?_ ?_ <;> simp [go_sem, mk0, mk1, mk2, mk3, mk4, mk5, mk6, mk7, mz0, mz1, mz2, mz3, mz4, mz5, mz6, mz7])).out ⟨#[41]⟩ hN).mono ?_; rintro e wE ⟨rfl, stE⟩; obtain ⟨⟨rk0, rk1, rk2, rk3, rk4, rk5, rk6, rk7⟩, rz0, rz1, rz2, rz3, rz4, rz5, rz6, rz7⟩ := stE.out.p.1.e8; obtain ⟨⟨sk0, sk1, sk2, sk3, sk4, sk5, sk6, sk7⟩, sz0, sz1, sz2, sz3, sz4, sz5, sz6, sz7⟩ := stE.out.l.e8; clear stp)
        refine bodyPost_ret (v := .agg #[.int .i64 9, .int .i64 0, .int .i64 0, .slice none 0 0, .slice none 0 0, .slice (some ⟨w5.heap.size, 0, none⟩) 2 2, .slice none 0 0, .slice none 0 0]) (by rw [results_cell1 (fn := Tryz.f126) (p := 2) (ty := 28) (by kernel_rfl)]; simp [go_sem, rk0, rk1, rk2, rk3, rk4, rk5, rk6, rk7]) rfl ?_
        rw [HK.out]
        exact stE.out.ans (by simp only [sv]) stE.out.p.2
   | false =>
    simp only [hT1, Bool.false_eq_true, if_false] at hne ⊢
    cases hT2 : Gr.isT [58] r with
    | true =>
     simp only [hT2, if_true] at hne ⊢
     cases hG2 : Gr.g f .ty r.tail with
     | out => rw [hG2] at hne; exact absurd rfl hne
     | bad r2 c =>
      have qG2 : Hid (∀ W, Rd W B S r.tail → Calls Tryz.prog 23 #[.pointer (some ⟨B, 0, none⟩)] W (Gr.Ans B S 0 W (.bad r2 c))) := fun W hW => by rw [← hG2]; exact ihT W B S r.tail hW (by rw [hG2]; simp)
      clear hne hG2 ihE ihT
      go_enter Tryz.func126, Tryz.ntmps126
      go_wp2_with (first | (go_at_call 15; refine (st3.out.tkT ⟨#[58]⟩ hT2).mono ?_; rintro e w4 ⟨rfl, st4⟩; clear st3) | (go_at_call 15; refine (st2.out.tkF ⟨#[44]⟩ hT1).mono ?_; rintro e w3 ⟨rfl, st3⟩; clear st2) | (go_at_call 8; refine (qG.out _ st1.out.r).mono ?_; rintro e w2 ⟨⟨vsx, nx, rfl, ha0⟩, hRR, hBB⟩; obtain ⟨xi, xj, xk, xa, xn, xc, xd0, xm0, xe0, xd1, xm1, xe1, xd2, xm2, xe2, xd3, xm3, xe3, rfl⟩ := ha0.exp_form; have st2 := st1.out.own (by simp) hRR hBB ha0 28 (by simp); clear hRR hBB ha0 st1) | (go_at_call 15; refine (st0.out.tkF ⟨#[41]⟩ hT0).mono ?_; rintro e w1 ⟨rfl, st1⟩; clear st0))
      have st5 := st4.out.drew
      clear st4
      refine wp_region_held_drew (S := fun wz => True) rfl (trivial) (fun hS => ?_)
      refine wpAnyH_take (i := 2) (v := ?_) rfl (by kernel_rfl) (by kernel_rfl) (by kernel_rfl) (fun _ _ _ h => h) (Or.inl ⟨by rfl, ?_⟩) hS ?_
      rotate_left
      · intro wz hz; go_simp; try with_reducible rfl
      try simp only [sx]
      refine wpAnyH_ready (rs := [0, 3]) (by kernel_rfl) (by simp) (AllReadyH.cons rfl (fun K hK => ?_) (AllReadyH.cons rfl (fun K hK => ?_) AllReadyH.nil))
      · skip
        obtain ⟨⟨lk0, lk1, lk2, lk3, lk4, lk5, lk6, lk7⟩, lz0, lz1, lz2, lz3, lz4, lz5, lz6, lz7⟩ := st5.out.l.e8
        go_simp
        refine hK.out _ _ trivial (fun _ => ?_)
        clear hK K
        try simp only [sx]
        refine wpAnyH_ready (rs := [1, 3]) (by kernel_rfl) (by simp) (AllReadyH.cons rfl (fun K hK => ?_) (AllReadyH.cons rfl (fun K hK => ?_) AllReadyH.nil))
        · skip
          go_simp
          have st6 := st5.out.sl1 (st5.out.p.2) 28 (w4.heap.size) rfl (by simp)
          clear st5
          refine hK.out _ _ trivial (fun _ => ?_)
          clear hK K
          try simp only [sx]
          refine wpAnyH_ready (rs := [3]) (by kernel_rfl) (by simp) (AllReadyH.cons rfl (fun K hK => ?_) AllReadyH.nil)
          go_simp
          refine (qG2.out _ st6.out.r).mono ?_
          rintro e ww ⟨rfl, hRR, hBB⟩
          exact ⟨rfl, rfl, hRR, st6.out.b.trans hBB⟩
        · skip
          go_simp
          refine (qG2.out _ st5.out.r).mono ?_
          rintro e ww ⟨rfl, hRR, hBB⟩
          exact ⟨rfl, rfl, hRR, st5.out.b.trans hBB⟩
      · skip
        go_simp
        refine (qG2.out _ st5.out.r).mono ?_
        rintro e ww ⟨rfl, hRR, hBB⟩
        exact ⟨rfl, rfl, hRR, st5.out.b.trans hBB⟩
     | ok t r2 =>
      have qG2 : Hid (∀ W, Rd W B S r.tail → Calls Tryz.prog 23 #[.pointer (some ⟨B, 0, none⟩)] W (Gr.Ans B S 0 W (.ok t r2))) := fun W hW => by rw [← hG2]; exact ihT W B S r.tail hW (by rw [hG2]; simp)
      simp only [hG2, Gr.Res.bind] at hne ⊢
      clear hne hG2 ihE ihT
      obtain ⟨R, hRq⟩ : ∃ R, (Gr.need [41] r2 fun r3 => Gr.Res.ok (Gr.expN 14 0 0 [] [] [a] [] [t]) r3) = R := ⟨_, rfl⟩
      rw [hRq]
      have HQ : Hid ((Gr.need [41] r2 fun r3 => Gr.Res.ok (Gr.expN 14 0 0 [] [] [a] [] [t]) r3) = R) := hRq
      clear hRq
      go_enter Tryz.func126, Tryz.ntmps126
      go_wp2_with (first | (go_at_call 15; refine (st3.out.tkT ⟨#[58]⟩ hT2).mono ?_; rintro e w4 ⟨rfl, st4⟩; clear st3) | (go_at_call 15; refine (st2.out.tkF ⟨#[44]⟩ hT1).mono ?_; rintro e w3 ⟨rfl, st3⟩; clear st2) | (go_at_call 8; refine (qG.out _ st1.out.r).mono ?_; rintro e w2 ⟨⟨vsx, nx, rfl, ha0⟩, hRR, hBB⟩; obtain ⟨xi, xj, xk, xa, xn, xc, xd0, xm0, xe0, xd1, xm1, xe1, xd2, xm2, xe2, xd3, xm3, xe3, rfl⟩ := ha0.exp_form; have st2 := st1.out.own (by simp) hRR hBB ha0 28 (by simp); clear hRR hBB ha0 st1) | (go_at_call 15; refine (st0.out.tkF ⟨#[41]⟩ hT0).mono ?_; rintro e w1 ⟨rfl, st1⟩; clear st0))
      have st5 := st4.out.drew
      clear st4
      refine wp_region_held_drew (S := fun wz => True) rfl (trivial) (fun hS => ?_)
      refine wpAnyH_take (i := 2) (v := ?_) rfl (by kernel_rfl) (by kernel_rfl) (by kernel_rfl) (fun _ _ _ h => h) (Or.inl ⟨by rfl, ?_⟩) hS ?_
      rotate_left
      · intro wz hz; go_simp; try with_reducible rfl
      try simp only [sx]
      refine wpAnyH_ready (rs := [0, 3]) (by kernel_rfl) (by simp) (AllReadyH.cons rfl (fun K hK => ?_) (AllReadyH.cons rfl (fun K hK => ?_) AllReadyH.nil))
      · skip
        obtain ⟨⟨lk0, lk1, lk2, lk3, lk4, lk5, lk6, lk7⟩, lz0, lz1, lz2, lz3, lz4, lz5, lz6, lz7⟩ := st5.out.l.e8
        go_simp
        refine hK.out _ _ trivial (fun _ => ?_)
        clear hK K
        try simp only [sx]
        refine wpAnyH_ready (rs := [1, 3]) (by kernel_rfl) (by simp) (AllReadyH.cons rfl (fun K hK => ?_) (AllReadyH.cons rfl (fun K hK => ?_) AllReadyH.nil))
        · skip
          go_simp
          have st6 := st5.out.sl1 (st5.out.p.2) 28 (w4.heap.size) rfl (by simp)
          clear st5
          refine hK.out _ _ trivial (fun _ => ?_)
          clear hK K
          try simp only [sx]
          refine wpAnyH_ready (rs := [3]) (by kernel_rfl) (by simp) (AllReadyH.cons rfl (fun K hK => ?_) AllReadyH.nil)
          go_simp
          refine (qG2.out _ st6.out.r).mono ?_
          rintro e w7 ⟨⟨vsy, ny, rfl, ha0⟩, hRR, hBB⟩
          obtain ⟨yi, ys, ya, yn, yc, yd, ym, ye, rfl⟩ := ha0.ty_form
          have st7 := st6.out.addAt hRR hBB ha0
          clear hRR hBB ha0 st6
          refine hK.out _ _ trivial (fun _ => ?_)
          clear hK K
          try simp only [sx]
          refine wpAnyH_ready (rs := [4]) (by kernel_rfl) (by simp) (AllReadyH.cons rfl (fun K hK => ?_) AllReadyH.nil)
          go_simp
          have st8 := st7.out.sl1 (st7.out.p.2) 41 (w7.heap.size) rfl (by simp)
          clear st7
          refine hK.out _ _ trivial (fun _ => ?_)
          clear hK K
          try simp only [sx]
          refine wpAnyH_take (i := 5) (v := ?_) rfl (by kernel_rfl) (by kernel_rfl) (by kernel_rfl) (fun _ _ _ h => h) (Or.inl ⟨by rfl, ?_⟩) hS ?_
          rotate_left
          · intro wz hz; go_simp; try with_reducible rfl
          try simp only [sx]
          refine wpAnyH_ready (rs := [6]) (by kernel_rfl) (by simp) (AllReadyH.cons rfl (fun K hK => ?_) AllReadyH.nil)
          obtain ⟨⟨mk0, mk1, mk2, mk3, mk4, mk5, mk6, mk7⟩, mz0, mz1, mz2, mz3, mz4, mz5, mz6, mz7⟩ := st8.out.l.e8
          go_simp
          refine hK.out _ _ trivial (fun _ => ?_)
          clear hK K
          try simp only [sx]
          refine wpAnyH_done (by kernel_rfl) ?_ _
          have stp := fun W1 (hs : Save w2.heap.size _ W1) (hl : Bx W1 w2.heap.size [.int .i64 14, .int .i64 0, .int .i64 0, .slice none 0 0, .slice none 0 0, .slice (some ⟨w4.heap.size, 0, none⟩) 1 1, .slice none 0 0, .slice (some ⟨w7.heap.size, 0, none⟩) 1 1]) => st8.out.put [.int .i64 14, .int .i64 0, .int .i64 0, .slice none 0 0, .slice none 0 0, .slice (some ⟨w4.heap.size, 0, none⟩) 1 1, .slice none 0 0, .slice (some ⟨w7.heap.size, 0, none⟩) 1 1] hs hl (st8.out.p.1.1.1.1) (by simp) (by simp) (At.exp_mk (n := max nx ny) (by decide) (by decide) (by decide) (Tx.none0 ..) (fun x hx => by cases hx) (Nat.zero_le _) (AtL.none0 ..) (AtL.le (st8.out.p.1.1.2) (Nat.le_max_left nx ny)) (AtL.none0 ..) (AtL.le (st8.out.p.2) (Nat.le_max_right nx ny)))
          cases hN : Gr.isT [41] r2 with
          | false =>
           have HK : Hid (R = .bad r2 11) := by show _ = _; rw [← HQ.out, Gr.need, if_neg (by rw [hN]; simp)]
           go_wp2_with (go_at_call 17; refine (gr_need_no _ B S r2 (stp _ (by simp only [sv]) (by refine Bx.of8 ?_ ?_ ?_ ?_ ?_ ?_ ?_ ?_ ?_ ?_ ?_ ?_ ?_ ?_ ?_ ?_ <;> simp [go_sem, mk0, mk1, mk2, mk3, mk4, mk5, mk6, mk7, mz0, mz1, mz2, mz3, mz4, mz5, mz6, mz7])).out.r ⟨#[41]⟩ hN).mono ?_; rintro e wE ⟨rfl, hRR, hBB⟩)
           exact ⟨rfl, by rw [HK.out]; exact ⟨rfl, ⟨_, hRR⟩, (stp _ (by simp only [sv]) (by refine Bx.of8 ?_ ?_ ?_ ?_ ?_ ?_ ?_ ?_ ?_ ?_ ?_ ?_ ?_ ?_ ?_ ?_ <;> simp [go_sem, mk0, mk1, mk2, mk3, mk4, mk5, mk6, mk7, mz0, mz1, mz2, mz3, mz4, mz5, mz6, mz7])).out.b.trans hBB⟩⟩
          | true =>
           have HK : Hid (R = .ok (Gr.expN 14 0 0 [] [] [a] [] [t]) r2.tail) := by show _ = _; rw [← HQ.out, Gr.need, if_pos hN]
           go_wp2_with (go_at_call 17; refine (Stt.nd (stp _ (by simp only [sv]) (by refine Bx.of8 ?_ ?_ ?_ ?_ ?_ ?_ ?_ ?_ ?_ ?_ ?_ ?_ ?_ ?_ ?_ ?_ <;> simp [go_sem, mk0, mk1, mk2, mk3, mk4, mk5, mk6, mk7, mz0, mz1, mz2, mz3, mz4, mz5, mz6, mz7])).out ⟨#[41]⟩ hN).mono ?_; rintro e wE ⟨rfl, stE⟩; obtain ⟨⟨rk0, rk1, rk2, rk3, rk4, rk5, rk6, rk7⟩, rz0, rz1, rz2, rz3, rz4, rz5, rz6, rz7⟩ := stE.out.p.1.e8; obtain ⟨⟨sk0, sk1, sk2, sk3, sk4, sk5, sk6, sk7⟩, sz0, sz1, sz2, sz3, sz4, sz5, sz6, sz7⟩ := stE.out.l.e8; clear stp)
           refine bodyPost_ret (v := .agg #[.int .i64 14, .int .i64 0, .int .i64 0, .slice none 0 0, .slice none 0 0, .slice (some ⟨w4.heap.size, 0, none⟩) 1 1, .slice none 0 0, .slice (some ⟨w7.heap.size, 0, none⟩) 1 1]) (by rw [results_cell1 (fn := Tryz.f126) (p := 2) (ty := 28) (by kernel_rfl)]; simp [go_sem, rk0, rk1, rk2, rk3, rk4, rk5, rk6, rk7]) rfl ?_
           rw [HK.out]
           exact stE.out.ans (by simp only [sv]) stE.out.p.2
        · skip
          go_simp
          refine (qG2.out _ st5.out.r).mono ?_
          rintro e w6 ⟨⟨vsy, ny, rfl, ha0⟩, hRR, hBB⟩
          obtain ⟨yi, ys, ya, yn, yc, yd, ym, ye, rfl⟩ := ha0.ty_form
          have st6 := st5.out.addAt hRR hBB ha0
          clear hRR hBB ha0 st5
          refine hK.out _ _ trivial (fun _ => ?_)
          clear hK K
          try simp only [sx]
          refine wpAnyH_ready (rs := [1, 4]) (by kernel_rfl) (by simp) (AllReadyH.cons rfl (fun K hK => ?_) (AllReadyH.cons rfl (fun K hK => ?_) AllReadyH.nil))
          · skip
            go_simp
            have st7 := st6.out.sl1 (st6.out.p.1.2) 28 (w6.heap.size) rfl (by simp)
            clear st6
            refine hK.out _ _ trivial (fun _ => ?_)
            clear hK K
            try simp only [sx]
            refine wpAnyH_ready (rs := [4]) (by kernel_rfl) (by simp) (AllReadyH.cons rfl (fun K hK => ?_) AllReadyH.nil)
            go_simp
            have st8 := st7.out.sl1 (st7.out.p.1.2) 41 (w6.heap.size + 1) rfl (by simp)
            clear st7
            refine hK.out _ _ trivial (fun _ => ?_)
            clear hK K
            try simp only [sx]
            refine wpAnyH_take (i := 5) (v := ?_) rfl (by kernel_rfl) (by kernel_rfl) (by kernel_rfl) (fun _ _ _ h => h) (Or.inl ⟨by rfl, ?_⟩) hS ?_
            rotate_left
            · intro wz hz; go_simp; try with_reducible rfl
            try simp only [sx]
            refine wpAnyH_ready (rs := [6]) (by kernel_rfl) (by simp) (AllReadyH.cons rfl (fun K hK => ?_) AllReadyH.nil)
            obtain ⟨⟨mk0, mk1, mk2, mk3, mk4, mk5, mk6, mk7⟩, mz0, mz1, mz2, mz3, mz4, mz5, mz6, mz7⟩ := st8.out.l.e8
            go_simp
            refine hK.out _ _ trivial (fun _ => ?_)
            clear hK K
            try simp only [sx]
            refine wpAnyH_done (by kernel_rfl) ?_ _
            have stp := fun W1 (hs : Save w2.heap.size _ W1) (hl : Bx W1 w2.heap.size [.int .i64 14, .int .i64 0, .int .i64 0, .slice none 0 0, .slice none 0 0, .slice (some ⟨w6.heap.size, 0, none⟩) 1 1, .slice none 0 0, .slice (some ⟨w6.heap.size + 1, 0, none⟩) 1 1]) => st8.out.put [.int .i64 14, .int .i64 0, .int .i64 0, .slice none 0 0, .slice none 0 0, .slice (some ⟨w6.heap.size, 0, none⟩) 1 1, .slice none 0 0, .slice (some ⟨w6.heap.size + 1, 0, none⟩) 1 1] hs hl (st8.out.p.1.1.1.1) (by simp) (by simp) (At.exp_mk (n := max nx ny) (by decide) (by decide) (by decide) (Tx.none0 ..) (fun x hx => by cases hx) (Nat.zero_le _) (AtL.none0 ..) (AtL.le (st8.out.p.1.2) (Nat.le_max_left nx ny)) (AtL.none0 ..) (AtL.le (st8.out.p.2) (Nat.le_max_right nx ny)))
            cases hN : Gr.isT [41] r2 with
            | false =>
             have HK : Hid (R = .bad r2 11) := by show _ = _; rw [← HQ.out, Gr.need, if_neg (by rw [hN]; simp)]
             go_wp2_with (go_at_call 17; refine (gr_need_no _ B S r2 (stp _ (by simp only [sv]) (by refine Bx.of8 ?_ ?_ ?_ ?_ ?_ ?_ ?_ ?_ ?_ ?_ ?_ ?_ ?_ ?_ ?_ ?_ <;> simp [go_sem, mk0, mk1, mk2, mk3, mk4, mk5, mk6, mk7, mz0, mz1, mz2, mz3, mz4, mz5, mz6, mz7])).out.r ⟨#[41]⟩ hN).mono ?_; rintro e wE ⟨rfl, hRR, hBB⟩)
             exact ⟨rfl, by rw [HK.out]; exact ⟨rfl, ⟨_, hRR⟩, (stp _ (by simp only [sv]) (by refine Bx.of8 ?_ ?_ ?_ ?_ ?_ ?_ ?_ ?_ ?_ ?_ ?_ ?_ ?_ ?_ ?_ ?_ <;> simp [go_sem, mk0, mk1, mk2, mk3, mk4, mk5, mk6, mk7, mz0, mz1, mz2, mz3, mz4, mz5, mz6, mz7])).out.b.trans hBB⟩⟩
            | true =>
             have HK : Hid (R = .ok (Gr.expN 14 0 0 [] [] [a] [] [t]) r2.tail) := by show _ = _; rw [← HQ.out, Gr.need, if_pos hN]
             go_wp2_with (go_at_call 17; refine (Stt.nd (stp _ (by simp only [sv]) (by refine Bx.of8 ?_ ?_ ?_ ?_ ?_ ?_ ?_ ?_ ?_ ?_ ?_ ?_ ?_ ?_ ?_ ?_ <;> simp [go_sem, mk0, mk1, mk2, mk3, mk4, mk5, mk6, mk7, mz0, mz1, mz2, mz3, mz4, mz5, mz6, mz7])).out ⟨#[41]⟩ hN).mono ?_; rintro e wE ⟨rfl, stE⟩; obtain ⟨⟨rk0, rk1, rk2, rk3, rk4, rk5, rk6, rk7⟩, rz0, rz1, rz2, rz3, rz4, rz5, rz6, rz7⟩ := stE.out.p.1.e8; obtain ⟨⟨sk0, sk1, sk2, sk3, sk4, sk5, sk6, sk7⟩, sz0, sz1, sz2, sz3, sz4, sz5, sz6, sz7⟩ := stE.out.l.e8; clear stp)
             refine bodyPost_ret (v := .agg #[.int .i64 14, .int .i64 0, .int .i64 0, .slice none 0 0, .slice none 0 0, .slice (some ⟨w6.heap.size, 0, none⟩) 1 1, .slice none 0 0, .slice (some ⟨w6.heap.size + 1, 0, none⟩) 1 1]) (by rw [results_cell1 (fn := Tryz.f126) (p := 2) (ty := 28) (by kernel_rfl)]; simp [go_sem, rk0, rk1, rk2, rk3, rk4, rk5, rk6, rk7]) rfl ?_
             rw [HK.out]
             exact stE.out.ans (by simp only [sv]) stE.out.p.2
          · skip
            go_simp
            have st7 := st6.out.sl1 (st6.out.p.2) 41 (w6.heap.size) rfl (by simp)
            clear st6
            refine hK.out _ _ trivial (fun _ => ?_)
            clear hK K
            try simp only [sx]
            refine wpAnyH_ready (rs := [1]) (by kernel_rfl) (by simp) (AllReadyH.cons rfl (fun K hK => ?_) AllReadyH.nil)
            go_simp
            have st8 := st7.out.sl1 (st7.out.p.1.1.2) 28 (w6.heap.size + 1) rfl (by simp)
            clear st7
            refine hK.out _ _ trivial (fun _ => ?_)
            clear hK K
            try simp only [sx]
            refine wpAnyH_take (i := 5) (v := ?_) rfl (by kernel_rfl) (by kernel_rfl) (by kernel_rfl) (fun _ _ _ h => h) (Or.inl ⟨by rfl, ?_⟩) hS ?_
            rotate_left
            · intro wz hz; go_simp; try with_reducible rfl
            try simp only [sx]
            refine wpAnyH_ready (rs := [6]) (by kernel_rfl) (by simp) (AllReadyH.cons rfl (fun K hK => ?_) AllReadyH.nil)
            obtain ⟨⟨mk0, mk1, mk2, mk3, mk4, mk5, mk6, mk7⟩, mz0, mz1, mz2, mz3, mz4, mz5, mz6, mz7⟩ := st8.out.l.e8
            go_simp
            refine hK.out _ _ trivial (fun _ => ?_)
            clear hK K
            try simp only [sx]
            refine wpAnyH_done (by kernel_rfl) ?_ _
            have stp := fun W1 (hs : Save w2.heap.size _ W1) (hl : Bx W1 w2.heap.size [.int .i64 14, .int .i64 0, .int .i64 0, .slice none 0 0, .slice none 0 0, .slice (some ⟨w6.heap.size + 1, 0, none⟩) 1 1, .slice none 0 0, .slice (some ⟨w6.heap.size, 0, none⟩) 1 1]) => st8.out.put [.int .i64 14, .int .i64 0, .int .i64 0, .slice none 0 0, .slice none 0 0, .slice (some ⟨w6.heap.size + 1, 0, none⟩) 1 1, .slice none 0 0, .slice (some ⟨w6.heap.size, 0, none⟩) 1 1] hs hl (st8.out.p.1.1.1.1) (by simp) (by simp) (At.exp_mk (n := max nx ny) (by decide) (by decide) (by decide) (Tx.none0 ..) (fun x hx => by cases hx) (Nat.zero_le _) (AtL.none0 ..) (AtL.le (st8.out.p.2) (Nat.le_max_left nx ny)) (AtL.none0 ..) (AtL.le (st8.out.p.1.2) (Nat.le_max_right nx ny)))
            cases hN : Gr.isT [41] r2 with
            | false =>
             have HK : Hid (R = .bad r2 11) := by show _ = _; rw [← HQ.out, Gr.need, if_neg (by rw [hN]; simp)]
             go_wp2_with (go_at_call 17; refine (gr_need_no _ B S r2 (stp _ (by simp only [sv]) (by refine Bx.of8 ?_ ?_ ?_ ?_ ?_ ?_ ?_ ?_ ?_ ?_ ?_ ?_ ?_ ?_ ?_ ?_ <;> simp [go_sem, mk0, mk1, mk2, mk3, mk4, mk5, mk6, mk7, mz0, mz1, mz2, mz3, mz4, mz5, mz6, mz7])).out.r ⟨#[41]⟩ hN).mono ?_; rintro e wE ⟨rfl, hRR, hBB⟩)
             exact ⟨rfl, by rw [HK.out]; exact ⟨rfl, ⟨_, hRR⟩, (stp _ (by simp only [sv]) (by refine Bx.of8 ?_ ?_ ?_ ?_ ?_ ?_ ?_ ?_ ?_ ?_ ?_ ?_ ?_ ?_ ?_ ?_ <;> simp [go_sem, mk0, mk1, mk2, mk3, mk4, mk5, mk6, mk7, mz0, mz1, mz2, mz3, mz4, mz5, mz6, mz7])).out.b.trans hBB⟩⟩
            | true =>
             have HK : Hid (R = .ok (Gr.expN 14 0 0 [] [] [a] [] [t]) r2.tail) := by show _ = _; rw [← HQ.out, Gr.need, if_pos hN]
             go_wp2_with (go_at_call 17; refine (Stt.nd (stp _ (by simp only [sv]) (by refine Bx.of8 ?_ ?_ ?_ ?_ ?_ ?_ ?_ ?_ ?_ ?_ ?_ ?_ ?_ ?_ ?_ ?_ <;> simp [go_sem, mk0, mk1, mk2, mk3, mk4, mk5, mk6, mk7, mz0, mz1, mz2, mz3, mz4, mz5, mz6, mz7])).out ⟨#[41]⟩ hN).mono ?_; rintro e wE ⟨rfl, stE⟩; obtain ⟨⟨rk0, rk1, rk2, rk3, rk4, rk5, rk6, rk7⟩, rz0, rz1, rz2, rz3, rz4, rz5, rz6, rz7⟩ := stE.out.p.1.e8; obtain ⟨⟨sk0, sk1, sk2, sk3, sk4, sk5, sk6, sk7⟩, sz0, sz1, sz2, sz3, sz4, sz5, sz6, sz7⟩ := stE.out.l.e8; clear stp)
             refine bodyPost_ret (v := .agg #[.int .i64 14, .int .i64 0, .int .i64 0, .slice none 0 0, .slice none 0 0, .slice (some ⟨w6.heap.size + 1, 0, none⟩) 1 1, .slice none 0 0, .slice (some ⟨w6.heap.size, 0, none⟩) 1 1]) (by rw [results_cell1 (fn := Tryz.f126) (p := 2) (ty := 28) (by kernel_rfl)]; simp [go_sem, rk0, rk1, rk2, rk3, rk4, rk5, rk6, rk7]) rfl ?_
             rw [HK.out]
             exact stE.out.ans (by simp only [sv]) stE.out.p.2
      · skip
        go_simp
        refine (qG2.out _ st5.out.r).mono ?_
        rintro e w6 ⟨⟨vsy, ny, rfl, ha0⟩, hRR, hBB⟩
        obtain ⟨yi, ys, ya, yn, yc, yd, ym, ye, rfl⟩ := ha0.ty_form
        have st6 := st5.out.addAt hRR hBB ha0
        clear hRR hBB ha0 st5
        refine hK.out _ _ trivial (fun _ => ?_)
        clear hK K
        try simp only [sx]
        refine wpAnyH_ready (rs := [0, 4]) (by kernel_rfl) (by simp) (AllReadyH.cons rfl (fun K hK => ?_) (AllReadyH.cons rfl (fun K hK => ?_) AllReadyH.nil))
        · skip
          obtain ⟨⟨lk0, lk1, lk2, lk3, lk4, lk5, lk6, lk7⟩, lz0, lz1, lz2, lz3, lz4, lz5, lz6, lz7⟩ := st6.out.l.e8
          go_simp
          refine hK.out _ _ trivial (fun _ => ?_)
          clear hK K
          try simp only [sx]
          refine wpAnyH_ready (rs := [1, 4]) (by kernel_rfl) (by simp) (AllReadyH.cons rfl (fun K hK => ?_) (AllReadyH.cons rfl (fun K hK => ?_) AllReadyH.nil))
          · skip
            go_simp
            have st7 := st6.out.sl1 (st6.out.p.1.2) 28 (w6.heap.size) rfl (by simp)
            clear st6
            refine hK.out _ _ trivial (fun _ => ?_)
            clear hK K
            try simp only [sx]
            refine wpAnyH_ready (rs := [4]) (by kernel_rfl) (by simp) (AllReadyH.cons rfl (fun K hK => ?_) AllReadyH.nil)
            go_simp
            have st8 := st7.out.sl1 (st7.out.p.1.2) 41 (w6.heap.size + 1) rfl (by simp)
            clear st7
            refine hK.out _ _ trivial (fun _ => ?_)
            clear hK K
            try simp only [sx]
            refine wpAnyH_take (i := 5) (v := ?_) rfl (by kernel_rfl) (by kernel_rfl) (by kernel_rfl) (fun _ _ _ h => h) (Or.inl ⟨by rfl, ?_⟩) hS ?_
            rotate_left
            · intro wz hz; go_simp; try with_reducible rfl
            try simp only [sx]
            refine wpAnyH_ready (rs := [6]) (by kernel_rfl) (by simp) (AllReadyH.cons rfl (fun K hK => ?_) AllReadyH.nil)
            obtain ⟨⟨mk0, mk1, mk2, mk3, mk4, mk5, mk6, mk7⟩, mz0, mz1, mz2, mz3, mz4, mz5, mz6, mz7⟩ := st8.out.l.e8
            go_simp
            refine hK.out _ _ trivial (fun _ => ?_)
            clear hK K
            try simp only [sx]
            refine wpAnyH_done (by kernel_rfl) ?_ _
            have stp := fun W1 (hs : Save w2.heap.size _ W1) (hl : Bx W1 w2.heap.size [.int .i64 14, .int .i64 0, .int .i64 0, .slice none 0 0, .slice none 0 0, .slice (some ⟨w6.heap.size, 0, none⟩) 1 1, .slice none 0 0, .slice (some ⟨w6.heap.size + 1, 0, none⟩) 1 1]) => st8.out.put [.int .i64 14, .int .i64 0, .int .i64 0, .slice none 0 0, .slice none 0 0, .slice (some ⟨w6.heap.size, 0, none⟩) 1 1, .slice none 0 0, .slice (some ⟨w6.heap.size + 1, 0, none⟩) 1 1] hs hl (st8.out.p.1.1.1.1) (by simp) (by simp) (At.exp_mk (n := max nx ny) (by decide) (by decide) (by decide) (Tx.none0 ..) (fun x hx => by cases hx) (Nat.zero_le _) (AtL.none0 ..) (AtL.le (st8.out.p.1.2) (Nat.le_max_left nx ny)) (AtL.none0 ..) (AtL.le (st8.out.p.2) (Nat.le_max_right nx ny)))
            cases hN : Gr.isT [41] r2 with
            | false =>
             have HK : Hid (R = .bad r2 11) := by show _ = _; rw [← HQ.out, Gr.need, if_neg (by rw [hN]; simp)]
             go_wp2_with (go_at_call 17; refine (gr_need_no _ B S r2 (stp _ (by simp only [sv]) (by refine Bx.of8 ?_ ?_ ?_ ?_ ?_ ?_ ?_ ?_ ?_ ?_ ?_ ?_ ?_ ?_ ?_ ?_ <;> simp [go_sem, mk0, mk1, mk2, mk3, mk4, mk5, mk6, mk7, mz0, mz1, mz2, mz3, mz4, mz5, mz6, mz7])).out.r ⟨#[41]⟩ hN).mono ?_; rintro e wE ⟨rfl, hRR, hBB⟩)
             exact ⟨rfl, by rw [HK.out]; exact ⟨rfl, ⟨_, hRR⟩, (stp _ (by simp only [sv]) (by refine Bx.of8 ?_ ?_ ?_ ?_ ?_ ?_ ?_ ?_ ?_ ?_ ?_ ?_ ?_ ?_ ?_ ?_ <;> simp [go_sem, mk0, mk1, mk2, mk3, mk4, mk5, mk6, mk7, mz0, mz1, mz2, mz3, mz4, mz5, mz6, mz7])).out.b.trans hBB⟩⟩
            | true =>
             have HK : Hid (R = .ok (Gr.expN 14 0 0 [] [] [a] [] [t]) r2.tail) := by show _ = _; rw [← HQ.out, Gr.need, if_pos hN]
             go_wp2_with (go_at_call 17; refine (Stt.nd (stp _ (by simp only [sv]) (by refine Bx.of8 ?_ ?_ ?_ ?_ ?_ ?_ ?_ ?_ ?_ ?_ ?_ ?_ ?_ ?_ ?_ ?_ <;> simp [go_sem, mk0, mk1, mk2, mk3, mk4, mk5, mk6, mk7, mz0, mz1, mz2, mz3, mz4, mz5, mz6, mz7])).out ⟨#[41]⟩ hN).mono ?_; rintro e wE ⟨rfl, stE⟩; obtain ⟨⟨rk0, rk1, rk2, rk3, rk4, rk5, rk6, rk7⟩, rz0, rz1, rz2, rz3, rz4, rz5, rz6, rz7⟩ := stE.out.p.1.e8; obtain ⟨⟨sk0, sk1, sk2, sk3, sk4, sk5, sk6, sk7⟩, sz0, sz1, sz2, sz3, sz4, sz5, sz6, sz7⟩ := stE.out.l.e8; clear stp)
             refine bodyPost_ret (v := .agg #[.int .i64 14, .int .i64 0, .int .i64 0, .slice none 0 0, .slice none 0 0, .slice (some ⟨w6.heap.size, 0, none⟩) 1 1, .slice none 0 0, .slice (some ⟨w6.heap.size + 1, 0, none⟩) 1 1]) (by rw [results_cell1 (fn := Tryz.f126) (p := 2) (ty := 28) (by kernel_rfl)]; simp [go_sem, rk0, rk1, rk2, rk3, rk4, rk5, rk6, rk7]) rfl ?_
             rw [HK.out]
             exact stE.out.ans (by simp only [sv]) stE.out.p.2
          · skip
            go_simp
            have st7 := st6.out.sl1 (st6.out.p.2) 41 (w6.heap.size) rfl (by simp)
            clear st6
            refine hK.out _ _ trivial (fun _ => ?_)
            clear hK K
            try simp only [sx]
            refine wpAnyH_ready (rs := [1]) (by kernel_rfl) (by simp) (AllReadyH.cons rfl (fun K hK => ?_) AllReadyH.nil)
            go_simp
            have st8 := st7.out.sl1 (st7.out.p.1.1.2) 28 (w6.heap.size + 1) rfl (by simp)
            clear st7
            refine hK.out _ _ trivial (fun _ => ?_)
            clear hK K
            try simp only [sx]
            refine wpAnyH_take (i := 5) (v := ?_) rfl (by kernel_rfl) (by kernel_rfl) (by kernel_rfl) (fun _ _ _ h => h) (Or.inl ⟨by rfl, ?_⟩) hS ?_
            rotate_left
            · intro wz hz; go_simp; try with_reducible rfl
            try simp only [sx]
            refine wpAnyH_ready (rs := [6]) (by kernel_rfl) (by simp) (AllReadyH.cons rfl (fun K hK => ?_) AllReadyH.nil)
            obtain ⟨⟨mk0, mk1, mk2, mk3, mk4, mk5, mk6, mk7⟩, mz0, mz1, mz2, mz3, mz4, mz5, mz6, mz7⟩ := st8.out.l.e8
            go_simp
            refine hK.out _ _ trivial (fun _ => ?_)
            clear hK K
            try simp only [sx]
            refine wpAnyH_done (by kernel_rfl) ?_ _
            have stp := fun W1 (hs : Save w2.heap.size _ W1) (hl : Bx W1 w2.heap.size [.int .i64 14, .int .i64 0, .int .i64 0, .slice none 0 0, .slice none 0 0, .slice (some ⟨w6.heap.size + 1, 0, none⟩) 1 1, .slice none 0 0, .slice (some ⟨w6.heap.size, 0, none⟩) 1 1]) => st8.out.put [.int .i64 14, .int .i64 0, .int .i64 0, .slice none 0 0, .slice none 0 0, .slice (some ⟨w6.heap.size + 1, 0, none⟩) 1 1, .slice none 0 0, .slice (some ⟨w6.heap.size, 0, none⟩) 1 1] hs hl (st8.out.p.1.1.1.1) (by simp) (by simp) (At.exp_mk (n := max nx ny) (by decide) (by decide) (by decide) (Tx.none0 ..) (fun x hx => by cases hx) (Nat.zero_le _) (AtL.none0 ..) (AtL.le (st8.out.p.2) (Nat.le_max_left nx ny)) (AtL.none0 ..) (AtL.le (st8.out.p.1.2) (Nat.le_max_right nx ny)))
            cases hN : Gr.isT [41] r2 with
            | false =>
             have HK : Hid (R = .bad r2 11) := by show _ = _; rw [← HQ.out, Gr.need, if_neg (by rw [hN]; simp)]
             go_wp2_with (go_at_call 17; refine (gr_need_no _ B S r2 (stp _ (by simp only [sv]) (by refine Bx.of8 ?_ ?_ ?_ ?_ ?_ ?_ ?_ ?_ ?_ ?_ ?_ ?_ ?_ ?_ ?_ ?_ <;> simp [go_sem, mk0, mk1, mk2, mk3, mk4, mk5, mk6, mk7, mz0, mz1, mz2, mz3, mz4, mz5, mz6, mz7])).out.r ⟨#[41]⟩ hN).mono ?_; rintro e wE ⟨rfl, hRR, hBB⟩)
             exact ⟨rfl, by rw [HK.out]; exact ⟨rfl, ⟨_, hRR⟩, (stp _ (by simp only [sv]) (by refine Bx.of8 ?_ ?_ ?_ ?_ ?_ ?_ ?_ ?_ ?_ ?_ ?_ ?_ ?_ ?_ ?_ ?_ <;> simp [go_sem, mk0, mk1, mk2, mk3, mk4, mk5, mk6, mk7, mz0, mz1, mz2, mz3, mz4, mz5, mz6, mz7])).out.b.trans hBB⟩⟩
            | true =>
             have HK : Hid (R = .ok (Gr.expN 14 0 0 [] [] [a] [] [t]) r2.tail) := by show _ = _; rw [← HQ.out, Gr.need, if_pos hN]
             go_wp2_with (go_at_call 17; refine (Stt.nd (stp _ (by simp only [sv]) (by refine Bx.of8 ?_ ?_ ?_ ?_ ?_ ?_ ?_ ?_ ?_ ?_ ?_ ?_ ?_ ?_ ?_ ?_ <;> simp [go_sem, mk0, mk1, mk2, mk3, mk4, mk5, mk6, mk7, mz0, mz1, mz2, mz3, mz4, mz5, mz6, mz7])).out ⟨#[41]⟩ hN).mono ?_; rintro e wE ⟨rfl, stE⟩; obtain ⟨⟨rk0, rk1, rk2, rk3, rk4, rk5, rk6, rk7⟩, rz0, rz1, rz2, rz3, rz4, rz5, rz6, rz7⟩ := stE.out.p.1.e8; obtain ⟨⟨sk0, sk1, sk2, sk3, sk4, sk5, sk6, sk7⟩, sz0, sz1, sz2, sz3, sz4, sz5, sz6, sz7⟩ := stE.out.l.e8; clear stp)
             refine bodyPost_ret (v := .agg #[.int .i64 14, .int .i64 0, .int .i64 0, .slice none 0 0, .slice none 0 0, .slice (some ⟨w6.heap.size + 1, 0, none⟩) 1 1, .slice none 0 0, .slice (some ⟨w6.heap.size, 0, none⟩) 1 1]) (by rw [results_cell1 (fn := Tryz.f126) (p := 2) (ty := 28) (by kernel_rfl)]; simp [go_sem, rk0, rk1, rk2, rk3, rk4, rk5, rk6, rk7]) rfl ?_
             rw [HK.out]
             exact stE.out.ans (by simp only [sv]) stE.out.p.2
        · skip
          go_simp
          have st7 := st6.out.sl1 (st6.out.p.2) 41 (w6.heap.size) rfl (by simp)
          clear st6
          refine hK.out _ _ trivial (fun _ => ?_)
          clear hK K
          try simp only [sx]
          refine wpAnyH_ready (rs := [0]) (by kernel_rfl) (by simp) (AllReadyH.cons rfl (fun K hK => ?_) AllReadyH.nil)
          obtain ⟨⟨lk0, lk1, lk2, lk3, lk4, lk5, lk6, lk7⟩, lz0, lz1, lz2, lz3, lz4, lz5, lz6, lz7⟩ := st7.out.l.e8
          go_simp
          refine hK.out _ _ trivial (fun _ => ?_)
          clear hK K
          try simp only [sx]
          refine wpAnyH_ready (rs := [1]) (by kernel_rfl) (by simp) (AllReadyH.cons rfl (fun K hK => ?_) AllReadyH.nil)
          go_simp
          have st8 := st7.out.sl1 (st7.out.p.1.1.2) 28 (w6.heap.size + 1) rfl (by simp)
          clear st7
          refine hK.out _ _ trivial (fun _ => ?_)
          clear hK K
          try simp only [sx]
          refine wpAnyH_take (i := 5) (v := ?_) rfl (by kernel_rfl) (by kernel_rfl) (by kernel_rfl) (fun _ _ _ h => h) (Or.inl ⟨by rfl, ?_⟩) hS ?_
          rotate_left
          · intro wz hz; go_simp; try with_reducible rfl
          try simp only [sx]
          refine wpAnyH_ready (rs := [6]) (by kernel_rfl) (by simp) (AllReadyH.cons rfl (fun K hK => ?_) AllReadyH.nil)
          obtain ⟨⟨mk0, mk1, mk2, mk3, mk4, mk5, mk6, mk7⟩, mz0, mz1, mz2, mz3, mz4, mz5, mz6, mz7⟩ := st8.out.l.e8
          go_simp
          refine hK.out _ _ trivial (fun _ => ?_)
          clear hK K
          try simp only [sx]
          refine wpAnyH_done (by kernel_rfl) ?_ _
          have stp := fun W1 (hs : Save w2.heap.size _ W1) (hl : Bx W1 w2.heap.size [.int .i64 14, .int .i64 0, .int .i64 0, .slice none 0 0, .slice none 0 0, .slice (some ⟨w6.heap.size + 1, 0, none⟩) 1 1, .slice none 0 0, .slice (some ⟨w6.heap.size, 0, none⟩) 1 1]) => st8.out.put [.int .i64 14, .int .i64 0, .int .i64 0, .slice none 0 0, .slice none 0 0, .slice (some ⟨w6.heap.size + 1, 0, none⟩) 1 1, .slice none 0 0, .slice (some ⟨w6.heap.size, 0, none⟩) 1 1] hs hl (st8.out.p.1.1.1.1) (by simp) (by simp) (At.exp_mk (n := max nx ny) (by decide) (by decide) (by decide) (Tx.none0 ..) (fun x hx => by cases hx) (Nat.zero_le _) (AtL.none0 ..) (AtL.le (st8.out.p.2) (Nat.le_max_left nx ny)) (AtL.none0 ..) (AtL.le (st8.out.p.1.2) (Nat.le_max_right nx ny)))
          cases hN : Gr.isT [41] r2 with
          | false =>
           have HK : Hid (R = .bad r2 11) := by show _ = _; rw [← HQ.out, Gr.need, if_neg (by rw [hN]; simp)]
           go_wp2_with (go_at_call 17; refine (gr_need_no _ B S r2 (stp _ (by simp only [sv]) (by refine Bx.of8 ?_ ?_ ?_ ?_ ?_ ?_ ?_ ?_ ?_ ?_ ?_ ?_ ?_ ?_ ?_ ?_ <;> simp [go_sem, mk0, mk1, mk2, mk3, mk4, mk5, mk6, mk7, mz0, mz1, mz2, mz3, mz4, mz5, mz6, mz7])).out.r ⟨#[41]⟩ hN).mono ?_; rintro e wE ⟨rfl, hRR, hBB⟩)
           exact ⟨rfl, by rw [HK.out]; exact ⟨rfl, ⟨_, hRR⟩, (stp _ (by simp only [sv]) (by refine Bx.of8 ?_ ?_ ?_ ?_ ?_ ?_ ?_ ?_ ?_ ?_ ?_ ?_ ?_ ?_ ?_ ?_ <;> simp [go_sem, mk0, mk1, mk2, mk3, mk4, mk5, mk6, mk7, mz0, mz1, mz2, mz3, mz4, mz5, mz6, mz7])).out.b.trans hBB⟩⟩
          | true =>
           have HK : Hid (R = .ok (Gr.expN 14 0 0 [] [] [a] [] [t]) r2.tail) := by show _ = _; rw [← HQ.out, Gr.need, if_pos hN]
           go_wp2_with (go_at_call 17; refine (Stt.nd (stp _ (by simp only [sv]) (by refine Bx.of8 ?_ ?_ ?_ ?_ ?_ ?_ ?_ ?_ ?_ ?_ ?_ ?_ ?_ ?_ ?_ ?_ <;> simp [go_sem, mk0, mk1, mk2, mk3, mk4, mk5, mk6, mk7, mz0, mz1, mz2, mz3, mz4, mz5, mz6, mz7])).out ⟨#[41]⟩ hN).mono ?_; rintro e wE ⟨rfl, stE⟩; obtain ⟨⟨rk0, rk1, rk2, rk3, rk4, rk5, rk6, rk7⟩, rz0, rz1, rz2, rz3, rz4, rz5, rz6, rz7⟩ := stE.out.p.1.e8; obtain ⟨⟨sk0, sk1, sk2, sk3, sk4, sk5, sk6, sk7⟩, sz0, sz1, sz2, sz3, sz4, sz5, sz6, sz7⟩ := stE.out.l.e8; clear stp)
           refine bodyPost_ret (v := .agg #[.int .i64 14, .int .i64 0, .int .i64 0, .slice none 0 0, .slice none 0 0, .slice (some ⟨w6.heap.size + 1, 0, none⟩) 1 1, .slice none 0 0, .slice (some ⟨w6.heap.size, 0, none⟩) 1 1]) (by rw [results_cell1 (fn := Tryz.f126) (p := 2) (ty := 28) (by kernel_rfl)]; simp [go_sem, rk0, rk1, rk2, rk3, rk4, rk5, rk6, rk7]) rfl ?_
           rw [HK.out]
           exact stE.out.ans (by simp only [sv]) stE.out.p.2
    | false =>
     simp only [hT2, Bool.false_eq_true, if_false] at hne ⊢
     clear hne ihE ihT
     cases hN : Gr.isT [41] r with
     | false =>
      rw [Gr.need, if_neg (by rw [hN]; simp)]
      go_enter Tryz.func126, Tryz.ntmps126
      go_wp2_with (first | (go_at_call 17; refine (gr_need_no _ B S r st4.out.r ⟨#[41]⟩ hN).mono ?_; rintro e w5 ⟨rfl, hRR, hBB⟩) | (go_at_call 15; refine (st3.out.tkF ⟨#[58]⟩ hT2).mono ?_; rintro e w4 ⟨rfl, st4⟩; clear st3) | (go_at_call 15; refine (st2.out.tkF ⟨#[44]⟩ hT1).mono ?_; rintro e w3 ⟨rfl, st3⟩; clear st2) | (go_at_call 8; refine (qG.out _ st1.out.r).mono ?_; rintro e w2 ⟨⟨vsx, nx, rfl, ha0⟩, hRR, hBB⟩; obtain ⟨xi, xj, xk, xa, xn, xc, xd0, xm0, xe0, xd1, xm1, xe1, xd2, xm2, xe2, xd3, xm3, xe3, rfl⟩ := ha0.exp_form; have st2 := st1.out.own (by simp) hRR hBB ha0 28 (by simp); clear hRR hBB ha0 st1) | (go_at_call 15; refine (st0.out.tkF ⟨#[41]⟩ hT0).mono ?_; rintro e w1 ⟨rfl, st1⟩; clear st0))
      exact ⟨rfl, rfl, ⟨_, hRR⟩, st4.out.b.trans hBB⟩
     | true =>
      rw [Gr.need, if_pos hN]
      go_enter Tryz.func126, Tryz.ntmps126
      go_wp2_with (first | (go_at_call 17; refine (st4.out.nd ⟨#[41]⟩ hN).mono ?_; rintro e w5 ⟨rfl, st5⟩; obtain ⟨⟨k0, k1, k2, k3, k4, k5, k6, k7⟩, z0, z1, z2, z3, z4, z5, z6, z7⟩ := st5.out.p.1.e8; have hlw := st5.out.sz; obtain ⟨⟨lk0, lk1, lk2, lk3, lk4, lk5, lk6, lk7⟩, lz0, lz1, lz2, lz3, lz4, lz5, lz6, lz7⟩ := st5.out.l.e8; clear st4) | (go_at_call 15; refine (st3.out.tkF ⟨#[58]⟩ hT2).mono ?_; rintro e w4 ⟨rfl, st4⟩; clear st3) | (go_at_call 15; refine (st2.out.tkF ⟨#[44]⟩ hT1).mono ?_; rintro e w3 ⟨rfl, st3⟩; clear st2) | (go_at_call 8; refine (qG.out _ st1.out.r).mono ?_; rintro e w2 ⟨⟨vsx, nx, rfl, ha0⟩, hRR, hBB⟩; obtain ⟨xi, xj, xk, xa, xn, xc, xd0, xm0, xe0, xd1, xm1, xe1, xd2, xm2, xe2, xd3, xm3, xe3, rfl⟩ := ha0.exp_form; have st2 := st1.out.own (by simp) hRR hBB ha0 28 (by simp); clear hRR hBB ha0 st1) | (go_at_call 15; refine (st0.out.tkF ⟨#[41]⟩ hT0).mono ?_; rintro e w1 ⟨rfl, st1⟩; clear st0))
      refine bodyPost_ret (v := .agg #[.int .i64 xi, .int .i64 xj, .int .i64 xk, .slice xa xn xc, .slice xd0 xm0 xe0, .slice xd1 xm1 xe1, .slice xd2 xm2 xe2, .slice xd3 xm3 xe3]) (by rw [results_cell1 (fn := Tryz.f126) (p := 2) (ty := 28) (by kernel_rfl)]; simp [go_sem, k0, k1, k2, k3, k4, k5, k6, k7]) rfl ?_
      exact st5.out.ans (by simp only [sv]) (st5.out.p.2)
end Go.Proofs.YtjebepnphoeiaabGreatDoor
