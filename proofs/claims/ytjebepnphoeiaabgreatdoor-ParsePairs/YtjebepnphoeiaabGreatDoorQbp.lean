/- Pieces: GrBe. -/
import Derived.Test.YtjebepnphoeiaabGreatDoorQbf
namespace Go.Proofs.YtjebepnphoeiaabGreatDoor
open Go.RowKit
set_option linter.unusedVariables false
set_option linter.unusedSimpArgs false

set_option maxHeartbeats 12000000 in
set_option maxRecDepth 100000 in
theorem gr_exp (f : Nat) (ihP : Gr.Rule 16 .pat 1 f) (ihE : Gr.Rule 8 .exp 2 f) (ihC : Gr.Rule 18 .cmp 2 f) : Gr.Rule 8 .exp 2 (f + 1) := by
 intro w B S ts h hne
 rw [show Gr.g (f + 1) .exp ts = (if Gr.isT [102, 110] ts = true then (Gr.g f .pat ts.tail).bind fun p r => Gr.need [61, 62] r fun r2 => (Gr.g f .exp r2).bind fun e r3 => .ok (Gr.expN 7 0 0 [] [p] [e] [] []) r3
      else if Gr.isT [105, 102] ts = true then (Gr.g f .exp ts.tail).bind fun a r => Gr.need [116, 104, 101, 110] r fun r2 => (Gr.g f .exp r2).bind fun b r3 => Gr.need [101, 108, 115, 101] r3 fun r4 => (Gr.g f .exp r4).bind fun c r5 => .ok (Gr.expN 11 0 0 [] [] [a, b, c] [] []) r5
      else Gr.g f .cmp ts) from rfl] at hne ⊢
 have st0 := Stt.init h [.int .i64 0, .int .i64 0, .int .i64 0, .slice none 0 0, .slice none 0 0, .slice none 0 0, .slice none 0 0, .slice none 0 0] 28 (by simp)
 clear h
 cases hT0 : Gr.isT [102, 110] ts with
 | true =>
  simp only [hT0, if_true] at hne ⊢
  clear ihC
  cases hP : Gr.g f .pat ts.tail with
  | out => rw [hP] at hne; exact absurd rfl hne
  | bad r c =>
   have qP : Hid (∀ W, Rd W B S ts.tail → Calls Tryz.prog 16 #[.pointer (some ⟨B, 0, none⟩)] W (Gr.Ans B S 1 W (.bad r c))) := fun W hW => by rw [← hP]; exact ihP W B S ts.tail hW (by rw [hP]; simp)
   clear hne hP ihP ihE
   go_enter Tryz.func8, Tryz.ntmps8
   go_wp2_with (first | (go_at_call 16; refine (qP.out _ st1.out.r).mono ?_; rintro e w2 ⟨rfl, hRR, hBB⟩) | (go_at_call 15; refine (st0.out.tkT ⟨#[102, 110]⟩ hT0).mono ?_; rintro e w1 ⟨rfl, st1⟩; clear st0))
   exact ⟨rfl, rfl, hRR, st1.out.b.trans hBB⟩
  | ok p r =>
   have qP : Hid (∀ W, Rd W B S ts.tail → Calls Tryz.prog 16 #[.pointer (some ⟨B, 0, none⟩)] W (Gr.Ans B S 1 W (.ok p r))) := fun W hW => by rw [← hP]; exact ihP W B S ts.tail hW (by rw [hP]; simp)
   simp only [hP, Gr.Res.bind] at hne ⊢
   clear hP
   cases hN : Gr.isT [61, 62] r with
   | false =>
    rw [Gr.need, if_neg (by rw [hN]; simp)]
    clear hne
    go_enter Tryz.func8, Tryz.ntmps8
    go_wp2_with (first | (go_at_call 17; refine (gr_need_no _ B S r st3.out.r ⟨#[61, 62]⟩ hN).mono ?_; rintro e w4 ⟨rfl, hRR, hBB⟩) | (go_at_call 16; refine (qP.out _ st1.out.r).mono ?_; rintro e w2 ⟨⟨vsx, nx, rfl, ha0⟩, hRR, hBB⟩; obtain ⟨xi, xs, xa, xn, xc, xj, xd, xm, xe, rfl⟩ := ha0.pat_form; have st2 := st1.out.addAt hRR hBB ha0; have hqbx := st2.out.sz; have st3 := st2.out.new [.int .i64 xi, .string xs, .slice xa xn xc, .int .i64 xj, .slice xd xm xe] 52 (by simp); clear st2; clear hRR hBB ha0 st1) | (go_at_call 15; refine (st0.out.tkT ⟨#[102, 110]⟩ hT0).mono ?_; rintro e w1 ⟨rfl, st1⟩; clear st0))
    exact ⟨rfl, rfl, ⟨_, hRR⟩, st3.out.b.trans hBB⟩
   | true =>
    rw [Gr.need, if_pos hN] at hne ⊢
    cases hG : Gr.g f .exp r.tail with
    | out => rw [hG] at hne; exact absurd rfl hne
    | bad r2 c =>
     have qG : Hid (∀ W, Rd W B S r.tail → Calls Tryz.prog 8 #[.pointer (some ⟨B, 0, none⟩)] W (Gr.Ans B S 2 W (.bad r2 c))) := fun W hW => by rw [← hG]; exact ihE W B S r.tail hW (by rw [hG]; simp)
     clear hne hG ihP ihE
     go_enter Tryz.func8, Tryz.ntmps8
     go_wp2_with (first | (go_at_call 17; refine (st3.out.nd ⟨#[61, 62]⟩ hN).mono ?_; rintro e w4 ⟨rfl, st4⟩; clear st3) | (go_at_call 16; refine (qP.out _ st1.out.r).mono ?_; rintro e w2 ⟨⟨vsx, nx, rfl, ha0⟩, hRR, hBB⟩; obtain ⟨xi, xs, xa, xn, xc, xj, xd, xm, xe, rfl⟩ := ha0.pat_form; have st2 := st1.out.addAt hRR hBB ha0; have hqbx := st2.out.sz; have st3 := st2.out.new [.int .i64 xi, .string xs, .slice xa xn xc, .int .i64 xj, .slice xd xm xe] 52 (by simp); clear st2; clear hRR hBB ha0 st1) | (go_at_call 15; refine (st0.out.tkT ⟨#[102, 110]⟩ hT0).mono ?_; rintro e w1 ⟨rfl, st1⟩; clear st0))
     have st5 := st4.out.drew
     clear st4
     refine wp_region_held_drew (S := fun wz => Bx wz w2.heap.size [.int .i64 xi, .string xs, .slice xa xn xc, .int .i64 xj, .slice xd xm xe]) rfl (st5.out.p.2) (fun hS => ?_)
     refine wpAnyH_take (i := 0) (v := ?_) rfl (by kernel_rfl) (by kernel_rfl) (by kernel_rfl) (fun _ _ _ h => h) (Or.inl ⟨by rfl, ?_⟩) hS ?_
     rotate_left
     · intro wz hz; obtain ⟨⟨yk0, yk1, yk2, yk3, yk4⟩, -⟩ := hz.e5; go_simp; try with_reducible rfl
     try simp only [sx]
     refine wpAnyH_take (i := 2) (v := ?_) rfl (by kernel_rfl) (by kernel_rfl) (by kernel_rfl) (fun _ _ _ h => h) (Or.inl ⟨by rfl, ?_⟩) hS ?_
     rotate_left
     · intro wz hz; go_simp; try with_reducible rfl
     try simp only [sx]
     refine wpAnyH_ready (rs := [1, 3]) (by kernel_rfl) (by simp) (AllReadyH.cons rfl (fun K hK => ?_) (AllReadyH.cons rfl (fun K hK => ?_) AllReadyH.nil))
     · skip
       go_simp
       have st6 := st5.out.sl1 (st5.out.p.1.2) 52 (w4.heap.size) rfl (by simp)
       clear st5
       refine hK.out _ _ (st6.out.p.1.2) (fun hSn => ?_)
       clear hK K hS
       have hS := hSn
       clear hSn
       try simp only [sx]
       refine wpAnyH_ready (rs := [3]) (by kernel_rfl) (by simp) (AllReadyH.cons rfl (fun K hK => ?_) AllReadyH.nil)
       go_simp
       refine (qG.out _ st6.out.r).mono ?_
       rintro e ww ⟨rfl, hRR, hBB⟩
       exact ⟨rfl, rfl, hRR, st6.out.b.trans hBB⟩
     · skip
       go_simp
       refine (qG.out _ st5.out.r).mono ?_
       rintro e ww ⟨rfl, hRR, hBB⟩
       exact ⟨rfl, rfl, hRR, st5.out.b.trans hBB⟩
    | ok e r2 =>
     have qG : Hid (∀ W, Rd W B S r.tail → Calls Tryz.prog 8 #[.pointer (some ⟨B, 0, none⟩)] W (Gr.Ans B S 2 W (.ok e r2))) := fun W hW => by rw [← hG]; exact ihE W B S r.tail hW (by rw [hG]; simp)
     simp only [hG, Gr.Res.bind]
     clear hne hG ihP ihE
     go_enter Tryz.func8, Tryz.ntmps8
     go_wp2_with (first | (go_at_call 17; refine (st3.out.nd ⟨#[61, 62]⟩ hN).mono ?_; rintro e w4 ⟨rfl, st4⟩; clear st3) | (go_at_call 16; refine (qP.out _ st1.out.r).mono ?_; rintro e w2 ⟨⟨vsx, nx, rfl, ha0⟩, hRR, hBB⟩; obtain ⟨xi, xs, xa, xn, xc, xj, xd, xm, xe, rfl⟩ := ha0.pat_form; have st2 := st1.out.addAt hRR hBB ha0; have hqbx := st2.out.sz; have st3 := st2.out.new [.int .i64 xi, .string xs, .slice xa xn xc, .int .i64 xj, .slice xd xm xe] 52 (by simp); clear st2; clear hRR hBB ha0 st1) | (go_at_call 15; refine (st0.out.tkT ⟨#[102, 110]⟩ hT0).mono ?_; rintro e w1 ⟨rfl, st1⟩; clear st0))
     have st5 := st4.out.drew
     clear st4
     refine wp_region_held_drew (S := fun wz => Bx wz w2.heap.size [.int .i64 xi, .string xs, .slice xa xn xc, .int .i64 xj, .slice xd xm xe]) rfl (st5.out.p.2) (fun hS => ?_)
     refine wpAnyH_take (i := 0) (v := ?_) rfl (by kernel_rfl) (by kernel_rfl) (by kernel_rfl) (fun _ _ _ h => h) (Or.inl ⟨by rfl, ?_⟩) hS ?_
     rotate_left
     · intro wz hz; obtain ⟨⟨yk0, yk1, yk2, yk3, yk4⟩, -⟩ := hz.e5; go_simp; try with_reducible rfl
     try simp only [sx]
     refine wpAnyH_take (i := 2) (v := ?_) rfl (by kernel_rfl) (by kernel_rfl) (by kernel_rfl) (fun _ _ _ h => h) (Or.inl ⟨by rfl, ?_⟩) hS ?_
     rotate_left
     · intro wz hz; go_simp; try with_reducible rfl
     try simp only [sx]
     refine wpAnyH_ready (rs := [1, 3]) (by kernel_rfl) (by simp) (AllReadyH.cons rfl (fun K hK => ?_) (AllReadyH.cons rfl (fun K hK => ?_) AllReadyH.nil))
     · skip
       go_simp
       have st6 := st5.out.sl1 (st5.out.p.1.2) 52 (w4.heap.size) rfl (by simp)
       clear st5
       refine hK.out _ _ (st6.out.p.1.2) (fun hSn => ?_)
       clear hK K hS
       have hS := hSn
       clear hSn
       try simp only [sx]
       refine wpAnyH_ready (rs := [3]) (by kernel_rfl) (by simp) (AllReadyH.cons rfl (fun K hK => ?_) AllReadyH.nil)
       go_simp
       refine (qG.out _ st6.out.r).mono ?_
       rintro e w7 ⟨⟨vsy, ny, rfl, ha0⟩, hRR, hBB⟩
       obtain ⟨yi, yj, yk, ya, yn, yc, yd0, ym0, ye0, yd1, ym1, ye1, yd2, ym2, ye2, yd3, ym3, ye3, rfl⟩ := ha0.exp_form
       have st7 := st6.out.addAt hRR hBB ha0
       clear hRR hBB ha0 st6
       refine hK.out _ _ (st7.out.p.1.1.2) (fun hSn => ?_)
       clear hK K hS
       have hS := hSn
       clear hSn
       try simp only [sx]
       refine wpAnyH_ready (rs := [4]) (by kernel_rfl) (by simp) (AllReadyH.cons rfl (fun K hK => ?_) AllReadyH.nil)
       go_simp
       have st8 := st7.out.sl1 (st7.out.p.2) 28 (w7.heap.size) rfl (by simp)
       clear st7
       refine hK.out _ _ (st8.out.p.1.1.1.2) (fun hSn => ?_)
       clear hK K hS
       have hS := hSn
       clear hSn
       try simp only [sx]
       refine wpAnyH_take (i := 5) (v := ?_) rfl (by kernel_rfl) (by kernel_rfl) (by kernel_rfl) (fun _ _ _ h => h) (Or.inl ⟨by rfl, ?_⟩) hS ?_
       rotate_left
       · intro wz hz; go_simp; try with_reducible rfl
       try simp only [sx]
       refine wpAnyH_ready (rs := [6]) (by kernel_rfl) (by simp) (AllReadyH.cons rfl (fun K hK => ?_) AllReadyH.nil)
       obtain ⟨⟨rk0, rk1, rk2, rk3, rk4, rk5, rk6, rk7⟩, rz0, rz1, rz2, rz3, rz4, rz5, rz6, rz7⟩ := st8.out.p.1.1.1.1.1.e8
       go_simp
       refine hK.out _ _ (Bx.save (M := w.heap.size) (st8.out.p.1.1.1.2) (by simp only [sv]) (by omega)) (fun hSn => ?_)
       clear hK K hS hSn
       try simp only [sx]
       refine wpAnyH_done (by kernel_rfl) ?_ _
       go_wp2
       refine bodyPost_ret (v := .agg #[.int .i64 7, .int .i64 0, .int .i64 0, .slice none 0 0, .slice (some ⟨w4.heap.size, 0, none⟩) 1 1, .slice (some ⟨w7.heap.size, 0, none⟩) 1 1, .slice none 0 0, .slice none 0 0]) (by rw [results_cell1 (fn := Tryz.f8) (p := 2) (ty := 28) (by kernel_rfl)]; simp [go_sem, rk0, rk1, rk2, rk3, rk4, rk5, rk6, rk7]) rfl ?_
       exact st8.out.ans (by simp only [sv]) (At.exp_mk (n := max nx ny) (by decide) (by decide) (by decide) (Tx.none0 ..) (fun x hx => by cases hx) (Nat.zero_le _) (AtL.le (st8.out.p.1.1.2) (Nat.le_max_left nx ny)) (AtL.le (st8.out.p.2) (Nat.le_max_right nx ny)) (AtL.none0 ..) (AtL.none0 ..))
     · skip
       go_simp
       refine (qG.out _ st5.out.r).mono ?_
       rintro e w6 ⟨⟨vsy, ny, rfl, ha0⟩, hRR, hBB⟩
       obtain ⟨yi, yj, yk, ya, yn, yc, yd0, ym0, ye0, yd1, ym1, ye1, yd2, ym2, ye2, yd3, ym3, ye3, rfl⟩ := ha0.exp_form
       have st6 := st5.out.addAt hRR hBB ha0
       clear hRR hBB ha0 st5
       refine hK.out _ _ (st6.out.p.1.2) (fun hSn => ?_)
       clear hK K hS
       have hS := hSn
       clear hSn
       try simp only [sx]
       refine wpAnyH_ready (rs := [1, 4]) (by kernel_rfl) (by simp) (AllReadyH.cons rfl (fun K hK => ?_) (AllReadyH.cons rfl (fun K hK => ?_) AllReadyH.nil))
       · skip
         go_simp
         have st7 := st6.out.sl1 (st6.out.p.1.1.2) 52 (w6.heap.size) rfl (by simp)
         clear st6
         refine hK.out _ _ (st7.out.p.1.1.2) (fun hSn => ?_)
         clear hK K hS
         have hS := hSn
         clear hSn
         try simp only [sx]
         refine wpAnyH_ready (rs := [4]) (by kernel_rfl) (by simp) (AllReadyH.cons rfl (fun K hK => ?_) AllReadyH.nil)
         go_simp
         have st8 := st7.out.sl1 (st7.out.p.1.2) 28 (w6.heap.size + 1) rfl (by simp)
         clear st7
         refine hK.out _ _ (st8.out.p.1.1.1.2) (fun hSn => ?_)
         clear hK K hS
         have hS := hSn
         clear hSn
         try simp only [sx]
         refine wpAnyH_take (i := 5) (v := ?_) rfl (by kernel_rfl) (by kernel_rfl) (by kernel_rfl) (fun _ _ _ h => h) (Or.inl ⟨by rfl, ?_⟩) hS ?_
         rotate_left
         · intro wz hz; go_simp; try with_reducible rfl
         try simp only [sx]
         refine wpAnyH_ready (rs := [6]) (by kernel_rfl) (by simp) (AllReadyH.cons rfl (fun K hK => ?_) AllReadyH.nil)
         obtain ⟨⟨rk0, rk1, rk2, rk3, rk4, rk5, rk6, rk7⟩, rz0, rz1, rz2, rz3, rz4, rz5, rz6, rz7⟩ := st8.out.p.1.1.1.1.1.e8
         go_simp
         refine hK.out _ _ (Bx.save (M := w.heap.size) (st8.out.p.1.1.1.2) (by simp only [sv]) (by omega)) (fun hSn => ?_)
         clear hK K hS hSn
         try simp only [sx]
         refine wpAnyH_done (by kernel_rfl) ?_ _
         go_wp2
         refine bodyPost_ret (v := .agg #[.int .i64 7, .int .i64 0, .int .i64 0, .slice none 0 0, .slice (some ⟨w6.heap.size, 0, none⟩) 1 1, .slice (some ⟨w6.heap.size + 1, 0, none⟩) 1 1, .slice none 0 0, .slice none 0 0]) (by rw [results_cell1 (fn := Tryz.f8) (p := 2) (ty := 28) (by kernel_rfl)]; simp [go_sem, rk0, rk1, rk2, rk3, rk4, rk5, rk6, rk7]) rfl ?_
         exact st8.out.ans (by simp only [sv]) (At.exp_mk (n := max nx ny) (by decide) (by decide) (by decide) (Tx.none0 ..) (fun x hx => by cases hx) (Nat.zero_le _) (AtL.le (st8.out.p.1.2) (Nat.le_max_left nx ny)) (AtL.le (st8.out.p.2) (Nat.le_max_right nx ny)) (AtL.none0 ..) (AtL.none0 ..))
       · skip
         go_simp
         have st7 := st6.out.sl1 (st6.out.p.2) 28 (w6.heap.size) rfl (by simp)
         clear st6
         refine hK.out _ _ (st7.out.p.1.1.2) (fun hSn => ?_)
         clear hK K hS
         have hS := hSn
         clear hSn
         try simp only [sx]
         refine wpAnyH_ready (rs := [1]) (by kernel_rfl) (by simp) (AllReadyH.cons rfl (fun K hK => ?_) AllReadyH.nil)
         go_simp
         have st8 := st7.out.sl1 (st7.out.p.1.1.1.2) 52 (w6.heap.size + 1) rfl (by simp)
         clear st7
         refine hK.out _ _ (st8.out.p.1.1.1.2) (fun hSn => ?_)
         clear hK K hS
         have hS := hSn
         clear hSn
         try simp only [sx]
         refine wpAnyH_take (i := 5) (v := ?_) rfl (by kernel_rfl) (by kernel_rfl) (by kernel_rfl) (fun _ _ _ h => h) (Or.inl ⟨by rfl, ?_⟩) hS ?_
         rotate_left
         · intro wz hz; go_simp; try with_reducible rfl
         try simp only [sx]
         refine wpAnyH_ready (rs := [6]) (by kernel_rfl) (by simp) (AllReadyH.cons rfl (fun K hK => ?_) AllReadyH.nil)
         obtain ⟨⟨rk0, rk1, rk2, rk3, rk4, rk5, rk6, rk7⟩, rz0, rz1, rz2, rz3, rz4, rz5, rz6, rz7⟩ := st8.out.p.1.1.1.1.1.e8
         go_simp
         refine hK.out _ _ (Bx.save (M := w.heap.size) (st8.out.p.1.1.1.2) (by simp only [sv]) (by omega)) (fun hSn => ?_)
         clear hK K hS hSn
         try simp only [sx]
         refine wpAnyH_done (by kernel_rfl) ?_ _
         go_wp2
         refine bodyPost_ret (v := .agg #[.int .i64 7, .int .i64 0, .int .i64 0, .slice none 0 0, .slice (some ⟨w6.heap.size + 1, 0, none⟩) 1 1, .slice (some ⟨w6.heap.size, 0, none⟩) 1 1, .slice none 0 0, .slice none 0 0]) (by rw [results_cell1 (fn := Tryz.f8) (p := 2) (ty := 28) (by kernel_rfl)]; simp [go_sem, rk0, rk1, rk2, rk3, rk4, rk5, rk6, rk7]) rfl ?_
         exact st8.out.ans (by simp only [sv]) (At.exp_mk (n := max nx ny) (by decide) (by decide) (by decide) (Tx.none0 ..) (fun x hx => by cases hx) (Nat.zero_le _) (AtL.le (st8.out.p.2) (Nat.le_max_left nx ny)) (AtL.le (st8.out.p.1.2) (Nat.le_max_right nx ny)) (AtL.none0 ..) (AtL.none0 ..))
 | false =>
  simp only [hT0, Bool.false_eq_true, if_false] at hne ⊢
  cases hT1 : Gr.isT [105, 102] ts with
  | true =>
   simp only [hT1, if_true] at hne ⊢
   clear ihC ihP
   cases hA : Gr.g f .exp ts.tail with
   | out => rw [hA] at hne; exact absurd rfl hne
   | bad r c =>
    have qA : Hid (∀ W, Rd W B S ts.tail → Calls Tryz.prog 8 #[.pointer (some ⟨B, 0, none⟩)] W (Gr.Ans B S 2 W (.bad r c))) := fun W hW => by rw [← hA]; exact ihE W B S ts.tail hW (by rw [hA]; simp)
    clear hne hA ihE
    go_enter Tryz.func8, Tryz.ntmps8
    go_wp2_with (first | (go_at_call 8; refine (qA.out _ st2.out.r).mono ?_; rintro e w3 ⟨rfl, hRR, hBB⟩) | (go_at_call 15; refine (st1.out.tkT ⟨#[105, 102]⟩ hT1).mono ?_; rintro e w2 ⟨rfl, st2⟩; clear st1) | (go_at_call 15; refine (st0.out.tkF ⟨#[102, 110]⟩ hT0).mono ?_; rintro e w1 ⟨rfl, st1⟩; clear st0))
    exact ⟨rfl, rfl, hRR, st2.out.b.trans hBB⟩
   | ok a r =>
    have qA : Hid (∀ W, Rd W B S ts.tail → Calls Tryz.prog 8 #[.pointer (some ⟨B, 0, none⟩)] W (Gr.Ans B S 2 W (.ok a r))) := fun W hW => by rw [← hA]; exact ihE W B S ts.tail hW (by rw [hA]; simp)
    simp only [hA, Gr.Res.bind] at hne ⊢
    clear hA
    cases hN : Gr.isT [116, 104, 101, 110] r with
    | false =>
     rw [Gr.need, if_neg (by rw [hN]; simp)]
     clear hne
     go_enter Tryz.func8, Tryz.ntmps8
     go_wp2_with (first | (go_at_call 17; refine (gr_need_no _ B S r st4.out.r ⟨#[116, 104, 101, 110]⟩ hN).mono ?_; rintro e w5 ⟨rfl, hRR, hBB⟩) | (go_at_call 8; refine (qA.out _ st2.out.r).mono ?_; rintro e w3 ⟨⟨vsx, nx, rfl, ha0⟩, hRR, hBB⟩; obtain ⟨xi, xj, xk, xa, xn, xc, xd0, xm0, xe0, xd1, xm1, xe1, xd2, xm2, xe2, xd3, xm3, xe3, rfl⟩ := ha0.exp_form; have st3 := st2.out.addAt hRR hBB ha0; have hqbx := st3.out.sz; have st4 := st3.out.new [.int .i64 xi, .int .i64 xj, .int .i64 xk, .slice xa xn xc, .slice xd0 xm0 xe0, .slice xd1 xm1 xe1, .slice xd2 xm2 xe2, .slice xd3 xm3 xe3] 28 (by simp); clear st3; clear hRR hBB ha0 st2) | (go_at_call 15; refine (st1.out.tkT ⟨#[105, 102]⟩ hT1).mono ?_; rintro e w2 ⟨rfl, st2⟩; clear st1) | (go_at_call 15; refine (st0.out.tkF ⟨#[102, 110]⟩ hT0).mono ?_; rintro e w1 ⟨rfl, st1⟩; clear st0))
     exact ⟨rfl, rfl, ⟨_, hRR⟩, st4.out.b.trans hBB⟩
    | true =>
     rw [Gr.need, if_pos hN] at hne ⊢
     cases hG : Gr.g f .exp r.tail with
     | out => rw [hG] at hne; exact absurd rfl hne
     | bad r2 c =>
      have qB : Hid (∀ W, Rd W B S r.tail → Calls Tryz.prog 8 #[.pointer (some ⟨B, 0, none⟩)] W (Gr.Ans B S 2 W (.bad r2 c))) := fun W hW => by rw [← hG]; exact ihE W B S r.tail hW (by rw [hG]; simp)
      clear hne hG ihE
      go_enter Tryz.func8, Tryz.ntmps8
      go_wp2_with (first | (go_at_call 8; refine (qB.out _ st5.out.r).mono ?_; rintro e w6 ⟨rfl, hRR, hBB⟩) | (go_at_call 17; refine (st4.out.nd ⟨#[116, 104, 101, 110]⟩ hN).mono ?_; rintro e w5 ⟨rfl, st5⟩; clear st4) | (go_at_call 8; refine (qA.out _ st2.out.r).mono ?_; rintro e w3 ⟨⟨vsx, nx, rfl, ha0⟩, hRR, hBB⟩; obtain ⟨xi, xj, xk, xa, xn, xc, xd0, xm0, xe0, xd1, xm1, xe1, xd2, xm2, xe2, xd3, xm3, xe3, rfl⟩ := ha0.exp_form; have st3 := st2.out.addAt hRR hBB ha0; have hqbx := st3.out.sz; have st4 := st3.out.new [.int .i64 xi, .int .i64 xj, .int .i64 xk, .slice xa xn xc, .slice xd0 xm0 xe0, .slice xd1 xm1 xe1, .slice xd2 xm2 xe2, .slice xd3 xm3 xe3] 28 (by simp); clear st3; clear hRR hBB ha0 st2) | (go_at_call 15; refine (st1.out.tkT ⟨#[105, 102]⟩ hT1).mono ?_; rintro e w2 ⟨rfl, st2⟩; clear st1) | (go_at_call 15; refine (st0.out.tkF ⟨#[102, 110]⟩ hT0).mono ?_; rintro e w1 ⟨rfl, st1⟩; clear st0))
      exact ⟨rfl, rfl, hRR, st5.out.b.trans hBB⟩
     | ok b r2 =>
      have qB : Hid (∀ W, Rd W B S r.tail → Calls Tryz.prog 8 #[.pointer (some ⟨B, 0, none⟩)] W (Gr.Ans B S 2 W (.ok b r2))) := fun W hW => by rw [← hG]; exact ihE W B S r.tail hW (by rw [hG]; simp)
      simp only [hG, Gr.Res.bind] at hne ⊢
      clear hG
      cases hM : Gr.isT [101, 108, 115, 101] r2 with
      | false =>
       rw [Gr.need, if_neg (by rw [hM]; simp)]
       clear hne
       go_enter Tryz.func8, Tryz.ntmps8
       go_wp2_with (first | (go_at_call 17; refine (gr_need_no _ B S r2 st7.out.r ⟨#[101, 108, 115, 101]⟩ hM).mono ?_; rintro e w8 ⟨rfl, hRR, hBB⟩) | (go_at_call 8; refine (qB.out _ st5.out.r).mono ?_; rintro e w6 ⟨⟨vsy, ny, rfl, ha0⟩, hRR, hBB⟩; obtain ⟨yi, yj, yk, ya, yn, yc, yd0, ym0, ye0, yd1, ym1, ye1, yd2, ym2, ye2, yd3, ym3, ye3, rfl⟩ := ha0.exp_form; have st6 := st5.out.addAt hRR hBB ha0; have hqby := st6.out.sz; have st7 := st6.out.new [.int .i64 yi, .int .i64 yj, .int .i64 yk, .slice ya yn yc, .slice yd0 ym0 ye0, .slice yd1 ym1 ye1, .slice yd2 ym2 ye2, .slice yd3 ym3 ye3] 28 (by simp); clear st6; clear hRR hBB ha0 st5) | (go_at_call 17; refine (st4.out.nd ⟨#[116, 104, 101, 110]⟩ hN).mono ?_; rintro e w5 ⟨rfl, st5⟩; clear st4) | (go_at_call 8; refine (qA.out _ st2.out.r).mono ?_; rintro e w3 ⟨⟨vsx, nx, rfl, ha0⟩, hRR, hBB⟩; obtain ⟨xi, xj, xk, xa, xn, xc, xd0, xm0, xe0, xd1, xm1, xe1, xd2, xm2, xe2, xd3, xm3, xe3, rfl⟩ := ha0.exp_form; have st3 := st2.out.addAt hRR hBB ha0; have hqbx := st3.out.sz; have st4 := st3.out.new [.int .i64 xi, .int .i64 xj, .int .i64 xk, .slice xa xn xc, .slice xd0 xm0 xe0, .slice xd1 xm1 xe1, .slice xd2 xm2 xe2, .slice xd3 xm3 xe3] 28 (by simp); clear st3; clear hRR hBB ha0 st2) | (go_at_call 15; refine (st1.out.tkT ⟨#[105, 102]⟩ hT1).mono ?_; rintro e w2 ⟨rfl, st2⟩; clear st1) | (go_at_call 15; refine (st0.out.tkF ⟨#[102, 110]⟩ hT0).mono ?_; rintro e w1 ⟨rfl, st1⟩; clear st0))
       exact ⟨rfl, rfl, ⟨_, hRR⟩, st7.out.b.trans hBB⟩
      | true =>
       rw [Gr.need, if_pos hM] at hne ⊢
       cases hG2 : Gr.g f .exp r2.tail with
       | out => rw [hG2] at hne; exact absurd rfl hne
       | bad r3 c =>
        have qC : Hid (∀ W, Rd W B S r2.tail → Calls Tryz.prog 8 #[.pointer (some ⟨B, 0, none⟩)] W (Gr.Ans B S 2 W (.bad r3 c))) := fun W hW => by rw [← hG2]; exact ihE W B S r2.tail hW (by rw [hG2]; simp)
        clear hne hG2 ihE
        go_enter Tryz.func8, Tryz.ntmps8
        go_wp2_with (first | (go_at_call 17; refine (st7.out.nd ⟨#[101, 108, 115, 101]⟩ hM).mono ?_; rintro e w8 ⟨rfl, st8⟩; clear st7) | (go_at_call 8; refine (qB.out _ st5.out.r).mono ?_; rintro e w6 ⟨⟨vsy, ny, rfl, ha0⟩, hRR, hBB⟩; obtain ⟨yi, yj, yk, ya, yn, yc, yd0, ym0, ye0, yd1, ym1, ye1, yd2, ym2, ye2, yd3, ym3, ye3, rfl⟩ := ha0.exp_form; have st6 := st5.out.addAt hRR hBB ha0; have hqby := st6.out.sz; have st7 := st6.out.new [.int .i64 yi, .int .i64 yj, .int .i64 yk, .slice ya yn yc, .slice yd0 ym0 ye0, .slice yd1 ym1 ye1, .slice yd2 ym2 ye2, .slice yd3 ym3 ye3] 28 (by simp); clear st6; clear hRR hBB ha0 st5) | (go_at_call 17; refine (st4.out.nd ⟨#[116, 104, 101, 110]⟩ hN).mono ?_; rintro e w5 ⟨rfl, st5⟩; clear st4) | (go_at_call 8; refine (qA.out _ st2.out.r).mono ?_; rintro e w3 ⟨⟨vsx, nx, rfl, ha0⟩, hRR, hBB⟩; obtain ⟨xi, xj, xk, xa, xn, xc, xd0, xm0, xe0, xd1, xm1, xe1, xd2, xm2, xe2, xd3, xm3, xe3, rfl⟩ := ha0.exp_form; have st3 := st2.out.addAt hRR hBB ha0; have hqbx := st3.out.sz; have st4 := st3.out.new [.int .i64 xi, .int .i64 xj, .int .i64 xk, .slice xa xn xc, .slice xd0 xm0 xe0, .slice xd1 xm1 xe1, .slice xd2 xm2 xe2, .slice xd3 xm3 xe3] 28 (by simp); clear st3; clear hRR hBB ha0 st2) | (go_at_call 15; refine (st1.out.tkT ⟨#[105, 102]⟩ hT1).mono ?_; rintro e w2 ⟨rfl, st2⟩; clear st1) | (go_at_call 15; refine (st0.out.tkF ⟨#[102, 110]⟩ hT0).mono ?_; rintro e w1 ⟨rfl, st1⟩; clear st0))
        have st9 := st8.out.drew
        clear st8
        refine wp_region_held_drew (S := fun wz => Bx wz w3.heap.size [.int .i64 xi, .int .i64 xj, .int .i64 xk, .slice xa xn xc, .slice xd0 xm0 xe0, .slice xd1 xm1 xe1, .slice xd2 xm2 xe2, .slice xd3 xm3 xe3] ∧ Bx wz w6.heap.size [.int .i64 yi, .int .i64 yj, .int .i64 yk, .slice ya yn yc, .slice yd0 ym0 ye0, .slice yd1 ym1 ye1, .slice yd2 ym2 ye2, .slice yd3 ym3 ye3]) rfl (⟨st9.out.p.1.1.2, st9.out.p.2⟩) (fun hS => ?_)
        refine wpAnyH_take (i := 0) (v := ?_) rfl (by kernel_rfl) (by kernel_rfl) (by kernel_rfl) (fun _ _ _ h => h) (Or.inl ⟨by rfl, ?_⟩) hS ?_
        rotate_left
        · intro wz hz; obtain ⟨⟨yk0, yk1, yk2, yk3, yk4, yk5, yk6, yk7⟩, -⟩ := hz.1.e8; go_simp; try with_reducible rfl
        try simp only [sx]
        refine wpAnyH_take (i := 1) (v := ?_) rfl (by kernel_rfl) (by kernel_rfl) (by kernel_rfl) (fun _ _ _ h => h) (Or.inl ⟨by rfl, ?_⟩) hS ?_
        rotate_left
        · intro wz hz; obtain ⟨⟨yk0, yk1, yk2, yk3, yk4, yk5, yk6, yk7⟩, -⟩ := hz.2.e8; go_simp; try with_reducible rfl
        try simp only [sx]
        refine wpAnyH_take (i := 2) (v := ?_) rfl (by kernel_rfl) (by kernel_rfl) (by kernel_rfl) (fun _ _ _ h => h) (Or.inl ⟨by rfl, ?_⟩) hS ?_
        rotate_left
        · intro wz hz; go_simp; try with_reducible rfl
        try simp only [sx]
        refine wpAnyH_ready (rs := [3]) (by kernel_rfl) (by simp) (AllReadyH.cons rfl (fun K hK => ?_) AllReadyH.nil)
        go_simp
        refine (qC.out _ st9.out.r).mono ?_
        rintro e ww ⟨rfl, hRR, hBB⟩
        exact ⟨rfl, rfl, hRR, st9.out.b.trans hBB⟩
       | ok d r3 =>
        have qC : Hid (∀ W, Rd W B S r2.tail → Calls Tryz.prog 8 #[.pointer (some ⟨B, 0, none⟩)] W (Gr.Ans B S 2 W (.ok d r3))) := fun W hW => by rw [← hG2]; exact ihE W B S r2.tail hW (by rw [hG2]; simp)
        simp only [hG2, Gr.Res.bind]
        clear hne hG2 ihE
        go_enter Tryz.func8, Tryz.ntmps8
        go_wp2_with (first | (go_at_call 17; refine (st7.out.nd ⟨#[101, 108, 115, 101]⟩ hM).mono ?_; rintro e w8 ⟨rfl, st8⟩; clear st7) | (go_at_call 8; refine (qB.out _ st5.out.r).mono ?_; rintro e w6 ⟨⟨vsy, ny, rfl, ha0⟩, hRR, hBB⟩; obtain ⟨yi, yj, yk, ya, yn, yc, yd0, ym0, ye0, yd1, ym1, ye1, yd2, ym2, ye2, yd3, ym3, ye3, rfl⟩ := ha0.exp_form; have st6 := st5.out.addAt hRR hBB ha0; have hqby := st6.out.sz; have st7 := st6.out.new [.int .i64 yi, .int .i64 yj, .int .i64 yk, .slice ya yn yc, .slice yd0 ym0 ye0, .slice yd1 ym1 ye1, .slice yd2 ym2 ye2, .slice yd3 ym3 ye3] 28 (by simp); clear st6; clear hRR hBB ha0 st5) | (go_at_call 17; refine (st4.out.nd ⟨#[116, 104, 101, 110]⟩ hN).mono ?_; rintro e w5 ⟨rfl, st5⟩; clear st4) | (go_at_call 8; refine (qA.out _ st2.out.r).mono ?_; rintro e w3 ⟨⟨vsx, nx, rfl, ha0⟩, hRR, hBB⟩; obtain ⟨xi, xj, xk, xa, xn, xc, xd0, xm0, xe0, xd1, xm1, xe1, xd2, xm2, xe2, xd3, xm3, xe3, rfl⟩ := ha0.exp_form; have st3 := st2.out.addAt hRR hBB ha0; have hqbx := st3.out.sz; have st4 := st3.out.new [.int .i64 xi, .int .i64 xj, .int .i64 xk, .slice xa xn xc, .slice xd0 xm0 xe0, .slice xd1 xm1 xe1, .slice xd2 xm2 xe2, .slice xd3 xm3 xe3] 28 (by simp); clear st3; clear hRR hBB ha0 st2) | (go_at_call 15; refine (st1.out.tkT ⟨#[105, 102]⟩ hT1).mono ?_; rintro e w2 ⟨rfl, st2⟩; clear st1) | (go_at_call 15; refine (st0.out.tkF ⟨#[102, 110]⟩ hT0).mono ?_; rintro e w1 ⟨rfl, st1⟩; clear st0))
        have st9 := st8.out.drew
        clear st8
        refine wp_region_held_drew (S := fun wz => Bx wz w3.heap.size [.int .i64 xi, .int .i64 xj, .int .i64 xk, .slice xa xn xc, .slice xd0 xm0 xe0, .slice xd1 xm1 xe1, .slice xd2 xm2 xe2, .slice xd3 xm3 xe3] ∧ Bx wz w6.heap.size [.int .i64 yi, .int .i64 yj, .int .i64 yk, .slice ya yn yc, .slice yd0 ym0 ye0, .slice yd1 ym1 ye1, .slice yd2 ym2 ye2, .slice yd3 ym3 ye3]) rfl (⟨st9.out.p.1.1.2, st9.out.p.2⟩) (fun hS => ?_)
        refine wpAnyH_take (i := 0) (v := ?_) rfl (by kernel_rfl) (by kernel_rfl) (by kernel_rfl) (fun _ _ _ h => h) (Or.inl ⟨by rfl, ?_⟩) hS ?_
        rotate_left
        · intro wz hz; obtain ⟨⟨yk0, yk1, yk2, yk3, yk4, yk5, yk6, yk7⟩, -⟩ := hz.1.e8; go_simp; try with_reducible rfl
        try simp only [sx]
        refine wpAnyH_take (i := 1) (v := ?_) rfl (by kernel_rfl) (by kernel_rfl) (by kernel_rfl) (fun _ _ _ h => h) (Or.inl ⟨by rfl, ?_⟩) hS ?_
        rotate_left
        · intro wz hz; obtain ⟨⟨yk0, yk1, yk2, yk3, yk4, yk5, yk6, yk7⟩, -⟩ := hz.2.e8; go_simp; try with_reducible rfl
        try simp only [sx]
        refine wpAnyH_take (i := 2) (v := ?_) rfl (by kernel_rfl) (by kernel_rfl) (by kernel_rfl) (fun _ _ _ h => h) (Or.inl ⟨by rfl, ?_⟩) hS ?_
        rotate_left
        · intro wz hz; go_simp; try with_reducible rfl
        try simp only [sx]
        refine wpAnyH_ready (rs := [3]) (by kernel_rfl) (by simp) (AllReadyH.cons rfl (fun K hK => ?_) AllReadyH.nil)
        go_simp
        refine (qC.out _ st9.out.r).mono ?_
        rintro e w10 ⟨⟨vsz, nz, rfl, ha0⟩, hRR, hBB⟩
        obtain ⟨zi, zj, zk, za, zn, zc, zd0, zm0, ze0, zd1, zm1, ze1, zd2, zm2, ze2, zd3, zm3, ze3, rfl⟩ := ha0.exp_form
        have st10 := st9.out.addAt hRR hBB ha0
        clear hRR hBB ha0 st9
        refine hK.out _ _ (⟨st10.out.p.1.1.1.2, st10.out.p.1.2⟩) (fun hSn => ?_)
        clear hK K hS
        have hS := hSn
        clear hSn
        try simp only [sx]
        refine wpAnyH_ready (rs := [4]) (by kernel_rfl) (by simp) (AllReadyH.cons rfl (fun K hK => ?_) AllReadyH.nil)
        go_simp
        have st11 := st10.out.sl3 (st10.out.p.1.1.1.1.2) (st10.out.p.1.1.2) (st10.out.p.2) 28 (w10.heap.size) rfl rfl rfl (by simp)
        simp only [List.cons_append, List.nil_append] at st11
        clear st10
        refine hK.out _ _ (⟨st11.out.p.1.1.1.1.2, st11.out.p.1.1.2⟩) (fun hSn => ?_)
        clear hK K hS
        have hS := hSn
        clear hSn
        try simp only [sx]
        refine wpAnyH_take (i := 5) (v := ?_) rfl (by kernel_rfl) (by kernel_rfl) (by kernel_rfl) (fun _ _ _ h => h) (Or.inl ⟨by rfl, ?_⟩) hS ?_
        rotate_left
        · intro wz hz; go_simp; try with_reducible rfl
        try simp only [sx]
        refine wpAnyH_ready (rs := [6]) (by kernel_rfl) (by simp) (AllReadyH.cons rfl (fun K hK => ?_) AllReadyH.nil)
        obtain ⟨⟨rk0, rk1, rk2, rk3, rk4, rk5, rk6, rk7⟩, rz0, rz1, rz2, rz3, rz4, rz5, rz6, rz7⟩ := st11.out.p.1.1.1.1.1.1.e8
        go_simp
        refine hK.out _ _ (⟨Bx.save (M := w.heap.size) (st11.out.p.1.1.1.1.2) (by simp only [sv]) (by omega), Bx.save (M := w.heap.size) (st11.out.p.1.1.2) (by simp only [sv]) (by omega)⟩) (fun hSn => ?_)
        clear hK K hS hSn
        try simp only [sx]
        refine wpAnyH_done (by kernel_rfl) ?_ _
        go_wp2
        refine bodyPost_ret (v := .agg #[.int .i64 11, .int .i64 0, .int .i64 0, .slice none 0 0, .slice none 0 0, .slice (some ⟨w10.heap.size, 0, none⟩) 3 3, .slice none 0 0, .slice none 0 0]) (by rw [results_cell1 (fn := Tryz.f8) (p := 2) (ty := 28) (by kernel_rfl)]; simp [go_sem, rk0, rk1, rk2, rk3, rk4, rk5, rk6, rk7]) rfl ?_
        exact st11.out.ans (by simp only [sv]) (At.exp_mk (by decide) (by decide) (by decide) (Tx.none0 ..) (fun x hx => by cases hx) (Nat.zero_le _) (AtL.none0 ..) (st11.out.p.2) (AtL.none0 ..) (AtL.none0 ..))
  | false =>
   simp only [hT1, Bool.false_eq_true, if_false] at hne ⊢
   clear ihE ihP
   cases hA : Gr.g f .cmp ts with
   | out => exact absurd hA hne
   | bad r c =>
    have qA : Hid (∀ W, Rd W B S ts → Calls Tryz.prog 18 #[.pointer (some ⟨B, 0, none⟩)] W (Gr.Ans B S 2 W (.bad r c))) := fun W hW => by rw [← hA]; exact ihC W B S ts hW (by rw [hA]; simp)
    clear hne hA ihC
    go_enter Tryz.func8, Tryz.ntmps8
    go_wp2_with (first | (go_at_call 18; refine (qA.out _ st2.out.r).mono ?_; rintro e w3 ⟨rfl, hRR, hBB⟩) | (go_at_call 15; refine (st1.out.tkF ⟨#[105, 102]⟩ hT1).mono ?_; rintro e w2 ⟨rfl, st2⟩; clear st1) | (go_at_call 15; refine (st0.out.tkF ⟨#[102, 110]⟩ hT0).mono ?_; rintro e w1 ⟨rfl, st1⟩; clear st0))
    exact ⟨rfl, rfl, hRR, st2.out.b.trans hBB⟩
   | ok a r =>
    have qA : Hid (∀ W, Rd W B S ts → Calls Tryz.prog 18 #[.pointer (some ⟨B, 0, none⟩)] W (Gr.Ans B S 2 W (.ok a r))) := fun W hW => by rw [← hA]; exact ihC W B S ts hW (by rw [hA]; simp)
    clear hne hA ihC
    go_enter Tryz.func8, Tryz.ntmps8
    go_wp2_with (first | (go_at_call 18; refine (qA.out _ st2.out.r).mono ?_; rintro e w3 ⟨⟨vsx, nx, rfl, ha0⟩, hRR, hBB⟩; obtain ⟨xi, xj, xk, xa, xn, xc, xd0, xm0, xe0, xd1, xm1, xe1, xd2, xm2, xe2, xd3, xm3, xe3, rfl⟩ := ha0.exp_form; have st3 := st2.out.addAt hRR hBB ha0; obtain ⟨⟨k0, k1, k2, k3, k4, k5, k6, k7⟩, z0, z1, z2, z3, z4, z5, z6, z7⟩ := st3.out.p.1.e8; have hlw := st3.out.sz; clear hRR hBB ha0 st2) | (go_at_call 15; refine (st1.out.tkF ⟨#[105, 102]⟩ hT1).mono ?_; rintro e w2 ⟨rfl, st2⟩; clear st1) | (go_at_call 15; refine (st0.out.tkF ⟨#[102, 110]⟩ hT0).mono ?_; rintro e w1 ⟨rfl, st1⟩; clear st0))
    refine bodyPost_ret (v := .agg #[.int .i64 xi, .int .i64 xj, .int .i64 xk, .slice xa xn xc, .slice xd0 xm0 xe0, .slice xd1 xm1 xe1, .slice xd2 xm2 xe2, .slice xd3 xm3 xe3]) (by rw [results_cell1 (fn := Tryz.f8) (p := 2) (ty := 28) (by kernel_rfl)]; simp [go_sem, k0, k1, k2, k3, k4, k5, k6, k7]) rfl ?_
    exact st3.out.ans (by simp only [sv]) (st3.out.p.2)
end Go.Proofs.YtjebepnphoeiaabGreatDoor
