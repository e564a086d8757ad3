/- Pieces: GrV. -/
import Derived.Test.YtjebepnphoeiaabGreatDoorQak
import Derived.Test.YtjebepnphoeiaabGreatDoorQbk
namespace Go.Proofs.YtjebepnphoeiaabGreatDoor
open Go.RowKit
set_option linter.unusedVariables false
set_option linter.unusedSimpArgs false

set_option maxHeartbeats 1600000 in
set_option maxRecDepth 100000 in
theorem gr_compared (f : Nat) (ihS : Gr.Rule 38 .sum 2 f) : Gr.Rule 18 .cmp 2 (f + 1) := by
  intro w B S ts h hne
  rw [show Gr.g (f + 1) .cmp ts = ((Gr.g f .sum ts).bind fun a r =>
      if Gr.isT [61] r = true then (Gr.g f .sum r.tail).bind fun b r2 => .ok (Gr.binN 5 a b) r2
      else if Gr.isT [60] r = true then (Gr.g f .sum r.tail).bind fun b r2 => .ok (Gr.binN 6 a b) r2
      else .ok a r) from rfl] at hne ⊢
  have hlt := h.lt
  have HR : Hid (Rd w B S ts) := h
  clear h
  cases hG : Gr.g f .sum ts with
  | out => rw [hG] at hne; exact absurd rfl hne
  | bad r c =>
    have qG : Hid (∀ W, Rd W B S ts → Calls Tryz.prog 38 #[.pointer (some ⟨B, 0, none⟩)] W (Gr.Ans B S 2 W (.bad r c))) := fun W hW => by rw [← hG]; exact ihS W B S ts hW (by rw [hG]; simp)
    clear hne hG
    go_enter Tryz.func18, Tryz.ntmps18
    go_wp2_with (go_at_call 38; refine (qG.out _ (HR.out.alloc _)).mono ?_; rintro e w1 ⟨rfl, hRR, hBB⟩)
    exact ⟨rfl, rfl, hRR, ((Bes.refl _ _).alloc _).trans hBB⟩
  | ok a r =>
    have qG : Hid (∀ W, Rd W B S ts → Calls Tryz.prog 38 #[.pointer (some ⟨B, 0, none⟩)] W (Gr.Ans B S 2 W (.ok a r))) := fun W hW => by rw [← hG]; exact ihS W B S ts hW (by rw [hG]; simp)
    simp only [hG, Gr.Res.bind] at hne ⊢
    clear hG
    cases hT61 : Gr.isT [61] r with
    | true =>
      simp only [hT61, if_true] at hne ⊢
      cases hG2 : Gr.g f .sum r.tail with
      | out => rw [hG2] at hne; exact absurd rfl hne
      | bad r2 c =>
        have qG2 : Hid (∀ W, Rd W B S r.tail → Calls Tryz.prog 38 #[.pointer (some ⟨B, 0, none⟩)] W (Gr.Ans B S 2 W (.bad r2 c))) := fun W hW => by rw [← hG2]; exact ihS W B S r.tail hW (by rw [hG2]; simp)
        clear hne hG2 ihS
        go_enter Tryz.func18, Tryz.ntmps18
        go_wp2_with (first | (go_at_call 39; refine Calls.mono (gr_op_yes _ B S r ?rd (w1.heap.size + 1) ⟨#[61]⟩ ⟨#[60]⟩ ?c0 ?c1 (by rw [show Gr.isT (⟨#[61]⟩ : ByteArray).data.toList r = true from hT61]; rfl) 61 (by decide) (Gr.isT_hd hT61)) ?_; (case rd => exact (hR1.alloc _).alloc _); (case c0 => rw [World.cell?_alloc_at _ _ _ _ (by simp)]; rfl); (case c1 => rw [World.cell?_alloc_at _ _ _ _ (by simp)]; rfl); rintro e w2 ⟨rfl, hRR, hBB⟩; have hPF : Bes B w1 w2 := (((Bes.refl B w1).alloc (.cells #[.int .i64 xi, .int .i64 xj, .int .i64 xk, .slice xa xn xc, .slice xd0 xm0 xe0, .slice xd1 xm1 xe1, .slice xd2 xm2 xe2, .slice xd3 xm3 xe3] 28)).alloc (.cells #[.string ⟨#[61]⟩, .string ⟨#[60]⟩] 9)).trans hBB; have hR2 : Hid (Rd w2 B S r.tail) := hRR; have hb2 := hbx.out.bes hPF (by omega); have hl2 := ((Bx.new w1 [.int .i64 xi, .int .i64 xj, .int .i64 xk, .slice xa xn xc, .slice xd0 xm0 xe0, .slice xd1 xm1 xe1, .slice xd2 xm2 xe2, .slice xd3 xm3 xe3] 28).below (bl_alloc (Below.refl _ _) (.cells #[.string ⟨#[61]⟩, .string ⟨#[60]⟩] 9))).bes hBB (by omega); have hlw2 := hb2.lt; have hll := hl2.lt; have hx2 : Hid (At w2 (Ge (w.heap.size + 1)) n 2 [.int .i64 xi, .int .i64 xj, .int .i64 xk, .slice xa xn xc, .slice xd0 xm0 xe0, .slice xd1 xm1 xe1, .slice xd2 xm2 xe2, .slice xd3 xm3 xe3] a) := hPF.at (by omega) ha.out; have hB2 : Bes B w w2 := hB1.trans hPF; obtain ⟨⟨k0, k1, k2, k3, k4, k5, k6, k7⟩, z0, z1, z2, z3, z4, z5, z6, z7⟩ := hb2.e8; obtain ⟨⟨lk0, lk1, lk2, lk3, lk4, lk5, lk6, lk7⟩, lz0, lz1, lz2, lz3, lz4, lz5, lz6, lz7⟩ := hl2.e8; clear hRR hBB hPF) | (go_at_call 38; refine (qG.out _ (HR.out.alloc _)).mono ?_; rintro e w1 ⟨⟨vs, n, rfl, ha0⟩, hR1, hB0⟩; obtain ⟨xi, xj, xk, xa, xn, xc, xd0, xm0, xe0, xd1, xm1, xe1, xd2, xm2, xe2, xd3, xm3, xe3, rfl⟩ := ha0.exp_form; have ha : Hid (At w1 (Ge (w.heap.size + 1)) n 2 [.int .i64 xi, .int .i64 xj, .int .i64 xk, .slice xa xn xc, .slice xd0 xm0 xe0, .slice xd1 xm1 xe1, .slice xd2 xm2 xe2, .slice xd3 xm3 xe3] a) := (by have := ha0; simp at this; exact this); have hbx : Hid (Bx w1 w.heap.size [.int .i64 0, .int .i64 0, .int .i64 0, .slice none 0 0, .slice none 0 0, .slice none 0 0, .slice none 0 0, .slice none 0 0]) := (Bx.new w [.int .i64 0, .int .i64 0, .int .i64 0, .slice none 0 0, .slice none 0 0, .slice none 0 0, .slice none 0 0, .slice none 0 0] 28).bes hB0 (by omega); have hB1 : Bes B w w1 := ((Bes.refl _ _).alloc _).trans hB0; have hlt1 : w.heap.size < w1.heap.size := (by have := hB0.size; simp at this; omega); clear ha0 hB0 HR))
        refine wp_region_held_drew (S := fun wz => Bx wz w1.heap.size [.int .i64 xi, .int .i64 xj, .int .i64 xk, .slice xa xn xc, .slice xd0 xm0 xe0, .slice xd1 xm1 xe1, .slice xd2 xm2 xe2, .slice xd3 xm3 xe3]) rfl (hl2.below (Below.refl _ _).drew) (fun hS => ?_)
        refine wpAnyH_take (i := 0) (v := ?_) rfl (by kernel_rfl) (by kernel_rfl) (by kernel_rfl) (fun _ _ _ h => h) (Or.inl ⟨by rfl, ?_⟩) hS ?_
        rotate_left
        · intro wz hz; go_simp; try with_reducible rfl
        try simp only [sx]
        refine wpAnyH_take (i := 1) (v := ?_) rfl (by kernel_rfl) (by kernel_rfl) (by kernel_rfl) (fun _ _ _ h => h) (Or.inl ⟨by rfl, ?_⟩) hS ?_
        rotate_left
        · intro wz hz; obtain ⟨⟨yk0, yk1, yk2, yk3, yk4, yk5, yk6, yk7⟩, -⟩ := hz.e8; go_simp; try with_reducible rfl
        try simp only [sx]
        refine wpAnyH_take (i := 2) (v := ?_) rfl (by kernel_rfl) (by kernel_rfl) (by kernel_rfl) (fun _ _ _ h => h) (Or.inl ⟨by rfl, ?_⟩) hS ?_
        rotate_left
        · intro wz hz; go_simp; try with_reducible rfl
        try simp only [sx]
        refine wpAnyH_ready (rs := [3]) (by kernel_rfl) (by simp) (AllReadyH.cons rfl (fun K hK => ?_) AllReadyH.nil)
        go_simp
        refine (qG2.out _ (hR2.out.below (Below.refl _ _).drew)).mono ?_
        rintro e w3 ⟨rfl, hR3, hB3⟩
        exact ⟨rfl, rfl, hR3, hB2.drew.trans hB3⟩
      | ok b r2 =>
        have qG2 : Hid (∀ W, Rd W B S r.tail → Calls Tryz.prog 38 #[.pointer (some ⟨B, 0, none⟩)] W (Gr.Ans B S 2 W (.ok b r2))) := fun W hW => by rw [← hG2]; exact ihS W B S r.tail hW (by rw [hG2]; simp)
        simp only [hG2, Gr.Res.bind] at hne ⊢
        clear hne hG2 ihS
        go_enter Tryz.func18, Tryz.ntmps18
        go_wp2_with (first | (go_at_call 39; refine Calls.mono (gr_op_yes _ B S r ?rd (w1.heap.size + 1) ⟨#[61]⟩ ⟨#[60]⟩ ?c0 ?c1 (by rw [show Gr.isT (⟨#[61]⟩ : ByteArray).data.toList r = true from hT61]; rfl) 61 (by decide) (Gr.isT_hd hT61)) ?_; (case rd => exact (hR1.alloc _).alloc _); (case c0 => rw [World.cell?_alloc_at _ _ _ _ (by simp)]; rfl); (case c1 => rw [World.cell?_alloc_at _ _ _ _ (by simp)]; rfl); rintro e w2 ⟨rfl, hRR, hBB⟩; have hPF : Bes B w1 w2 := (((Bes.refl B w1).alloc (.cells #[.int .i64 xi, .int .i64 xj, .int .i64 xk, .slice xa xn xc, .slice xd0 xm0 xe0, .slice xd1 xm1 xe1, .slice xd2 xm2 xe2, .slice xd3 xm3 xe3] 28)).alloc (.cells #[.string ⟨#[61]⟩, .string ⟨#[60]⟩] 9)).trans hBB; have hR2 : Hid (Rd w2 B S r.tail) := hRR; have hb2 := hbx.out.bes hPF (by omega); have hl2 := ((Bx.new w1 [.int .i64 xi, .int .i64 xj, .int .i64 xk, .slice xa xn xc, .slice xd0 xm0 xe0, .slice xd1 xm1 xe1, .slice xd2 xm2 xe2, .slice xd3 xm3 xe3] 28).below (bl_alloc (Below.refl _ _) (.cells #[.string ⟨#[61]⟩, .string ⟨#[60]⟩] 9))).bes hBB (by omega); have hlw2 := hb2.lt; have hll := hl2.lt; have hx2 : Hid (At w2 (Ge (w.heap.size + 1)) n 2 [.int .i64 xi, .int .i64 xj, .int .i64 xk, .slice xa xn xc, .slice xd0 xm0 xe0, .slice xd1 xm1 xe1, .slice xd2 xm2 xe2, .slice xd3 xm3 xe3] a) := hPF.at (by omega) ha.out; have hB2 : Bes B w w2 := hB1.trans hPF; obtain ⟨⟨k0, k1, k2, k3, k4, k5, k6, k7⟩, z0, z1, z2, z3, z4, z5, z6, z7⟩ := hb2.e8; obtain ⟨⟨lk0, lk1, lk2, lk3, lk4, lk5, lk6, lk7⟩, lz0, lz1, lz2, lz3, lz4, lz5, lz6, lz7⟩ := hl2.e8; clear hRR hBB hPF) | (go_at_call 38; refine (qG.out _ (HR.out.alloc _)).mono ?_; rintro e w1 ⟨⟨vs, n, rfl, ha0⟩, hR1, hB0⟩; obtain ⟨xi, xj, xk, xa, xn, xc, xd0, xm0, xe0, xd1, xm1, xe1, xd2, xm2, xe2, xd3, xm3, xe3, rfl⟩ := ha0.exp_form; have ha : Hid (At w1 (Ge (w.heap.size + 1)) n 2 [.int .i64 xi, .int .i64 xj, .int .i64 xk, .slice xa xn xc, .slice xd0 xm0 xe0, .slice xd1 xm1 xe1, .slice xd2 xm2 xe2, .slice xd3 xm3 xe3] a) := (by have := ha0; simp at this; exact this); have hbx : Hid (Bx w1 w.heap.size [.int .i64 0, .int .i64 0, .int .i64 0, .slice none 0 0, .slice none 0 0, .slice none 0 0, .slice none 0 0, .slice none 0 0]) := (Bx.new w [.int .i64 0, .int .i64 0, .int .i64 0, .slice none 0 0, .slice none 0 0, .slice none 0 0, .slice none 0 0, .slice none 0 0] 28).bes hB0 (by omega); have hB1 : Bes B w w1 := ((Bes.refl _ _).alloc _).trans hB0; have hlt1 : w.heap.size < w1.heap.size := (by have := hB0.size; simp at this; omega); clear ha0 hB0 HR))
        refine wp_region_held_drew (S := fun wz => Bx wz w1.heap.size [.int .i64 xi, .int .i64 xj, .int .i64 xk, .slice xa xn xc, .slice xd0 xm0 xe0, .slice xd1 xm1 xe1, .slice xd2 xm2 xe2, .slice xd3 xm3 xe3]) rfl (hl2.below (Below.refl _ _).drew) (fun hS => ?_)
        refine wpAnyH_take (i := 0) (v := ?_) rfl (by kernel_rfl) (by kernel_rfl) (by kernel_rfl) (fun _ _ _ h => h) (Or.inl ⟨by rfl, ?_⟩) hS ?_
        rotate_left
        · intro wz hz; go_simp; try with_reducible rfl
        try simp only [sx]
        refine wpAnyH_take (i := 1) (v := ?_) rfl (by kernel_rfl) (by kernel_rfl) (by kernel_rfl) (fun _ _ _ h => h) (Or.inl ⟨by rfl, ?_⟩) hS ?_
        rotate_left
        · intro wz hz; obtain ⟨⟨yk0, yk1, yk2, yk3, yk4, yk5, yk6, yk7⟩, -⟩ := hz.e8; go_simp; try with_reducible rfl
        try simp only [sx]
        refine wpAnyH_take (i := 2) (v := ?_) rfl (by kernel_rfl) (by kernel_rfl) (by kernel_rfl) (fun _ _ _ h => h) (Or.inl ⟨by rfl, ?_⟩) hS ?_
        rotate_left
        · intro wz hz; go_simp; try with_reducible rfl
        try simp only [sx]
        refine wpAnyH_ready (rs := [3]) (by kernel_rfl) (by simp) (AllReadyH.cons rfl (fun K hK => ?_) AllReadyH.nil)
        go_simp
        refine (qG2.out _ (hR2.out.below (Below.refl _ _).drew)).mono ?_
        rintro e w3 ⟨⟨us2, p, rfl, hb0⟩, hRR, hBB⟩
        obtain ⟨yi, yj, yk, ya, yn, yc, yd0, ym0, ye0, yd1, ym1, ye1, yd2, ym2, ye2, yd3, ym3, ye3, rfl⟩ := hb0.exp_form
        have hPF : Bes B w2 w3 := (Bes.of_below (B := B) (Below.refl _ _).drew).trans hBB
        have hy3 : Hid (At w3 (Ge (w.heap.size + 1)) p 2 [.int .i64 yi, .int .i64 yj, .int .i64 yk, .slice ya yn yc, .slice yd0 ym0 ye0, .slice yd1 ym1 ye1, .slice yd2 ym2 ye2, .slice yd3 ym3 ye3] b) := At.move (Keeps.refl _ _) (Ge.le (by simp; omega)) _ _ _ _ hb0
        have hx3 : Hid (At w3 (Ge (w.heap.size + 1)) n 2 [.int .i64 xi, .int .i64 xj, .int .i64 xk, .slice xa xn xc, .slice xd0 xm0 xe0, .slice xd1 xm1 xe1, .slice xd2 xm2 xe2, .slice xd3 xm3 xe3] a) := hPF.at (by omega) hx2.out
        have hl3 := hl2.bes hPF (by omega)
        have hb3 := hb2.bes hPF (by omega)
        have hR3 : Hid (Rd w3 B S r2) := hRR
        have hB3 : Bes B w w3 := hB2.trans hPF
        refine hK.out _ _ hl3 (fun hS3 => ?_)
        clear hK K hS hBB hRR hb0 hPF
        have hS := hS3
        clear hS3
        try simp only [sx]
        refine wpAnyH_ready (rs := [4]) (by kernel_rfl) (by simp) (AllReadyH.cons rfl (fun K hK => ?_) AllReadyH.nil)
        go_simp
        have hl3lt := hb3.lt
        refine (gr_binary w3 (Ge (w.heap.size + 1)) n p 5 [.int .i64 xi, .int .i64 xj, .int .i64 xk, .slice xa xn xc, .slice xd0 xm0 xe0, .slice xd1 xm1 xe1, .slice xd2 xm2 xe2, .slice xd3 xm3 xe3] [.int .i64 yi, .int .i64 yj, .int .i64 yk, .slice ya yn yc, .slice yd0 ym0 ye0, .slice yd1 ym1 ye1, .slice yd2 ym2 ye2, .slice yd3 ym3 ye3] a b (by decide) hx3.out hy3.out (fun b hb => (by show _ ≤ _; omega))).mono ?_
        rintro e w4 ⟨⟨vs4, rfl, hz0⟩, hb4⟩
        obtain ⟨zi, zj, zk, za, zn, zc, zd0, zm0, ze0, zd1, zm1, ze1, zd2, zm2, ze2, zd3, zm3, ze3, rfl⟩ := hz0.exp_form
        have hz4 : Hid (At w4 (Ge (w.heap.size + 1)) (max n p + 1) 2 [.int .i64 zi, .int .i64 zj, .int .i64 zk, .slice za zn zc, .slice zd0 zm0 ze0, .slice zd1 zm1 ze1, .slice zd2 zm2 ze2, .slice zd3 zm3 ze3] (Gr.binN 5 a b)) := hz0
        have hl4 := hl3.below hb4
        have hbx4 := hb3.below hb4
        have hR4 : Hid (Rd w4 B S r2) := hR3.out.below hb4
        have hB4 : Bes B w w4 := hB3.below hb4
        refine hK.out _ _ hl4 (fun hS4 => ?_)
        clear hK K hS hz0 hb4
        have hS := hS4
        clear hS4
        try simp only [sx]
        obtain ⟨⟨mk0, mk1, mk2, mk3, mk4, mk5, mk6, mk7⟩, mz0, mz1, mz2, mz3, mz4, mz5, mz6, mz7⟩ := hbx4.e8
        refine wpAnyH_ready (rs := [5]) (by kernel_rfl) (by simp) (AllReadyH.cons rfl (fun K hK => ?_) AllReadyH.nil)
        go_simp
        refine hK.out _ _ (Bx.save (M := w.heap.size) hl4 (by simp only [sv]) (by omega)) (fun hS5 => ?_)
        clear hK K hS hS5
        try simp only [sx]
        refine wpAnyH_done (by kernel_rfl) ?_ _
        go_wp2
        refine bodyPost_ret (v := .agg #[.int .i64 zi, .int .i64 zj, .int .i64 zk, .slice za zn zc, .slice zd0 zm0 ze0, .slice zd1 zm1 ze1, .slice zd2 zm2 ze2, .slice zd3 zm3 ze3]) (by rw [results_cell1 (fn := Tryz.f18) (p := 2) (ty := 28) (by kernel_rfl)]; simp [go_sem, mk0, mk1, mk2, mk3, mk4, mk5, mk6, mk7]) rfl ?_
        exact Gr.Ans.mk hlt (by simp only [sv]) hR4.out hB4 hz4.out
    | false =>
      simp only [hT61, Bool.false_eq_true, if_false] at hne ⊢
      cases hT60 : Gr.isT [60] r with
      | true =>
        simp only [hT60, if_true] at hne ⊢
        cases hG2 : Gr.g f .sum r.tail with
        | out => rw [hG2] at hne; exact absurd rfl hne
        | bad r2 c =>
          have qG2 : Hid (∀ W, Rd W B S r.tail → Calls Tryz.prog 38 #[.pointer (some ⟨B, 0, none⟩)] W (Gr.Ans B S 2 W (.bad r2 c))) := fun W hW => by rw [← hG2]; exact ihS W B S r.tail hW (by rw [hG2]; simp)
          clear hne hG2 ihS
          go_enter Tryz.func18, Tryz.ntmps18
          go_wp2_with (first | (go_at_call 39; refine Calls.mono (gr_op_yes _ B S r ?rd (w1.heap.size + 1) ⟨#[61]⟩ ⟨#[60]⟩ ?c0 ?c1 (by rw [show Gr.isT (⟨#[60]⟩ : ByteArray).data.toList r = true from hT60]; simp) 60 (by decide) (Gr.isT_hd hT60)) ?_; (case rd => exact (hR1.alloc _).alloc _); (case c0 => rw [World.cell?_alloc_at _ _ _ _ (by simp)]; rfl); (case c1 => rw [World.cell?_alloc_at _ _ _ _ (by simp)]; rfl); rintro e w2 ⟨rfl, hRR, hBB⟩; have hPF : Bes B w1 w2 := (((Bes.refl B w1).alloc (.cells #[.int .i64 xi, .int .i64 xj, .int .i64 xk, .slice xa xn xc, .slice xd0 xm0 xe0, .slice xd1 xm1 xe1, .slice xd2 xm2 xe2, .slice xd3 xm3 xe3] 28)).alloc (.cells #[.string ⟨#[61]⟩, .string ⟨#[60]⟩] 9)).trans hBB; have hR2 : Hid (Rd w2 B S r.tail) := hRR; have hb2 := hbx.out.bes hPF (by omega); have hl2 := ((Bx.new w1 [.int .i64 xi, .int .i64 xj, .int .i64 xk, .slice xa xn xc, .slice xd0 xm0 xe0, .slice xd1 xm1 xe1, .slice xd2 xm2 xe2, .slice xd3 xm3 xe3] 28).below (bl_alloc (Below.refl _ _) (.cells #[.string ⟨#[61]⟩, .string ⟨#[60]⟩] 9))).bes hBB (by omega); have hlw2 := hb2.lt; have hll := hl2.lt; have hx2 : Hid (At w2 (Ge (w.heap.size + 1)) n 2 [.int .i64 xi, .int .i64 xj, .int .i64 xk, .slice xa xn xc, .slice xd0 xm0 xe0, .slice xd1 xm1 xe1, .slice xd2 xm2 xe2, .slice xd3 xm3 xe3] a) := hPF.at (by omega) ha.out; have hB2 : Bes B w w2 := hB1.trans hPF; obtain ⟨⟨k0, k1, k2, k3, k4, k5, k6, k7⟩, z0, z1, z2, z3, z4, z5, z6, z7⟩ := hb2.e8; obtain ⟨⟨lk0, lk1, lk2, lk3, lk4, lk5, lk6, lk7⟩, lz0, lz1, lz2, lz3, lz4, lz5, lz6, lz7⟩ := hl2.e8; clear hRR hBB hPF) | (go_at_call 38; refine (qG.out _ (HR.out.alloc _)).mono ?_; rintro e w1 ⟨⟨vs, n, rfl, ha0⟩, hR1, hB0⟩; obtain ⟨xi, xj, xk, xa, xn, xc, xd0, xm0, xe0, xd1, xm1, xe1, xd2, xm2, xe2, xd3, xm3, xe3, rfl⟩ := ha0.exp_form; have ha : Hid (At w1 (Ge (w.heap.size + 1)) n 2 [.int .i64 xi, .int .i64 xj, .int .i64 xk, .slice xa xn xc, .slice xd0 xm0 xe0, .slice xd1 xm1 xe1, .slice xd2 xm2 xe2, .slice xd3 xm3 xe3] a) := (by have := ha0; simp at this; exact this); have hbx : Hid (Bx w1 w.heap.size [.int .i64 0, .int .i64 0, .int .i64 0, .slice none 0 0, .slice none 0 0, .slice none 0 0, .slice none 0 0, .slice none 0 0]) := (Bx.new w [.int .i64 0, .int .i64 0, .int .i64 0, .slice none 0 0, .slice none 0 0, .slice none 0 0, .slice none 0 0, .slice none 0 0] 28).bes hB0 (by omega); have hB1 : Bes B w w1 := ((Bes.refl _ _).alloc _).trans hB0; have hlt1 : w.heap.size < w1.heap.size := (by have := hB0.size; simp at this; omega); clear ha0 hB0 HR))
          refine wp_region_held_drew (S := fun wz => Bx wz w1.heap.size [.int .i64 xi, .int .i64 xj, .int .i64 xk, .slice xa xn xc, .slice xd0 xm0 xe0, .slice xd1 xm1 xe1, .slice xd2 xm2 xe2, .slice xd3 xm3 xe3]) rfl (hl2.below (Below.refl _ _).drew) (fun hS => ?_)
          refine wpAnyH_take (i := 0) (v := ?_) rfl (by kernel_rfl) (by kernel_rfl) (by kernel_rfl) (fun _ _ _ h => h) (Or.inl ⟨by rfl, ?_⟩) hS ?_
          rotate_left
          · intro wz hz; go_simp; try with_reducible rfl
          try simp only [sx]
          refine wpAnyH_take (i := 1) (v := ?_) rfl (by kernel_rfl) (by kernel_rfl) (by kernel_rfl) (fun _ _ _ h => h) (Or.inl ⟨by rfl, ?_⟩) hS ?_
          rotate_left
          · intro wz hz; obtain ⟨⟨yk0, yk1, yk2, yk3, yk4, yk5, yk6, yk7⟩, -⟩ := hz.e8; go_simp; try with_reducible rfl
          try simp only [sx]
          refine wpAnyH_take (i := 2) (v := ?_) rfl (by kernel_rfl) (by kernel_rfl) (by kernel_rfl) (fun _ _ _ h => h) (Or.inl ⟨by rfl, ?_⟩) hS ?_
          rotate_left
          · intro wz hz; go_simp; try with_reducible rfl
          try simp only [sx]
          refine wpAnyH_ready (rs := [3]) (by kernel_rfl) (by simp) (AllReadyH.cons rfl (fun K hK => ?_) AllReadyH.nil)
          go_simp
          refine (qG2.out _ (hR2.out.below (Below.refl _ _).drew)).mono ?_
          rintro e w3 ⟨rfl, hR3, hB3⟩
          exact ⟨rfl, rfl, hR3, hB2.drew.trans hB3⟩
        | ok b r2 =>
          have qG2 : Hid (∀ W, Rd W B S r.tail → Calls Tryz.prog 38 #[.pointer (some ⟨B, 0, none⟩)] W (Gr.Ans B S 2 W (.ok b r2))) := fun W hW => by rw [← hG2]; exact ihS W B S r.tail hW (by rw [hG2]; simp)
          simp only [hG2, Gr.Res.bind] at hne ⊢
          clear hne hG2 ihS
          go_enter Tryz.func18, Tryz.ntmps18
          go_wp2_with (first | (go_at_call 39; refine Calls.mono (gr_op_yes _ B S r ?rd (w1.heap.size + 1) ⟨#[61]⟩ ⟨#[60]⟩ ?c0 ?c1 (by rw [show Gr.isT (⟨#[60]⟩ : ByteArray).data.toList r = true from hT60]; simp) 60 (by decide) (Gr.isT_hd hT60)) ?_; (case rd => exact (hR1.alloc _).alloc _); (case c0 => rw [World.cell?_alloc_at _ _ _ _ (by simp)]; rfl); (case c1 => rw [World.cell?_alloc_at _ _ _ _ (by simp)]; rfl); rintro e w2 ⟨rfl, hRR, hBB⟩; have hPF : Bes B w1 w2 := (((Bes.refl B w1).alloc (.cells #[.int .i64 xi, .int .i64 xj, .int .i64 xk, .slice xa xn xc, .slice xd0 xm0 xe0, .slice xd1 xm1 xe1, .slice xd2 xm2 xe2, .slice xd3 xm3 xe3] 28)).alloc (.cells #[.string ⟨#[61]⟩, .string ⟨#[60]⟩] 9)).trans hBB; have hR2 : Hid (Rd w2 B S r.tail) := hRR; have hb2 := hbx.out.bes hPF (by omega); have hl2 := ((Bx.new w1 [.int .i64 xi, .int .i64 xj, .int .i64 xk, .slice xa xn xc, .slice xd0 xm0 xe0, .slice xd1 xm1 xe1, .slice xd2 xm2 xe2, .slice xd3 xm3 xe3] 28).below (bl_alloc (Below.refl _ _) (.cells #[.string ⟨#[61]⟩, .string ⟨#[60]⟩] 9))).bes hBB (by omega); have hlw2 := hb2.lt; have hll := hl2.lt; have hx2 : Hid (At w2 (Ge (w.heap.size + 1)) n 2 [.int .i64 xi, .int .i64 xj, .int .i64 xk, .slice xa xn xc, .slice xd0 xm0 xe0, .slice xd1 xm1 xe1, .slice xd2 xm2 xe2, .slice xd3 xm3 xe3] a) := hPF.at (by omega) ha.out; have hB2 : Bes B w w2 := hB1.trans hPF; obtain ⟨⟨k0, k1, k2, k3, k4, k5, k6, k7⟩, z0, z1, z2, z3, z4, z5, z6, z7⟩ := hb2.e8; obtain ⟨⟨lk0, lk1, lk2, lk3, lk4, lk5, lk6, lk7⟩, lz0, lz1, lz2, lz3, lz4, lz5, lz6, lz7⟩ := hl2.e8; clear hRR hBB hPF) | (go_at_call 38; refine (qG.out _ (HR.out.alloc _)).mono ?_; rintro e w1 ⟨⟨vs, n, rfl, ha0⟩, hR1, hB0⟩; obtain ⟨xi, xj, xk, xa, xn, xc, xd0, xm0, xe0, xd1, xm1, xe1, xd2, xm2, xe2, xd3, xm3, xe3, rfl⟩ := ha0.exp_form; have ha : Hid (At w1 (Ge (w.heap.size + 1)) n 2 [.int .i64 xi, .int .i64 xj, .int .i64 xk, .slice xa xn xc, .slice xd0 xm0 xe0, .slice xd1 xm1 xe1, .slice xd2 xm2 xe2, .slice xd3 xm3 xe3] a) := (by have := ha0; simp at this; exact this); have hbx : Hid (Bx w1 w.heap.size [.int .i64 0, .int .i64 0, .int .i64 0, .slice none 0 0, .slice none 0 0, .slice none 0 0, .slice none 0 0, .slice none 0 0]) := (Bx.new w [.int .i64 0, .int .i64 0, .int .i64 0, .slice none 0 0, .slice none 0 0, .slice none 0 0, .slice none 0 0, .slice none 0 0] 28).bes hB0 (by omega); have hB1 : Bes B w w1 := ((Bes.refl _ _).alloc _).trans hB0; have hlt1 : w.heap.size < w1.heap.size := (by have := hB0.size; simp at this; omega); clear ha0 hB0 HR))
          refine wp_region_held_drew (S := fun wz => Bx wz w1.heap.size [.int .i64 xi, .int .i64 xj, .int .i64 xk, .slice xa xn xc, .slice xd0 xm0 xe0, .slice xd1 xm1 xe1, .slice xd2 xm2 xe2, .slice xd3 xm3 xe3]) rfl (hl2.below (Below.refl _ _).drew) (fun hS => ?_)
          refine wpAnyH_take (i := 0) (v := ?_) rfl (by kernel_rfl) (by kernel_rfl) (by kernel_rfl) (fun _ _ _ h => h) (Or.inl ⟨by rfl, ?_⟩) hS ?_
          rotate_left
          · intro wz hz; go_simp; try with_reducible rfl
          try simp only [sx]
          refine wpAnyH_take (i := 1) (v := ?_) rfl (by kernel_rfl) (by kernel_rfl) (by kernel_rfl) (fun _ _ _ h => h) (Or.inl ⟨by rfl, ?_⟩) hS ?_
          rotate_left
          · intro wz hz; obtain ⟨⟨yk0, yk1, yk2, yk3, yk4, yk5, yk6, yk7⟩, -⟩ := hz.e8; go_simp; try with_reducible rfl
          try simp only [sx]
          refine wpAnyH_take (i := 2) (v := ?_) rfl (by kernel_rfl) (by kernel_rfl) (by kernel_rfl) (fun _ _ _ h => h) (Or.inl ⟨by rfl, ?_⟩) hS ?_
          rotate_left
          · intro wz hz; go_simp; try with_reducible rfl
          try simp only [sx]
          refine wpAnyH_ready (rs := [3]) (by kernel_rfl) (by simp) (AllReadyH.cons rfl (fun K hK => ?_) AllReadyH.nil)
          go_simp
          refine (qG2.out _ (hR2.out.below (Below.refl _ _).drew)).mono ?_
          rintro e w3 ⟨⟨us2, p, rfl, hb0⟩, hRR, hBB⟩
          obtain ⟨yi, yj, yk, ya, yn, yc, yd0, ym0, ye0, yd1, ym1, ye1, yd2, ym2, ye2, yd3, ym3, ye3, rfl⟩ := hb0.exp_form
          have hPF : Bes B w2 w3 := (Bes.of_below (B := B) (Below.refl _ _).drew).trans hBB
          have hy3 : Hid (At w3 (Ge (w.heap.size + 1)) p 2 [.int .i64 yi, .int .i64 yj, .int .i64 yk, .slice ya yn yc, .slice yd0 ym0 ye0, .slice yd1 ym1 ye1, .slice yd2 ym2 ye2, .slice yd3 ym3 ye3] b) := At.move (Keeps.refl _ _) (Ge.le (by simp; omega)) _ _ _ _ hb0
          have hx3 : Hid (At w3 (Ge (w.heap.size + 1)) n 2 [.int .i64 xi, .int .i64 xj, .int .i64 xk, .slice xa xn xc, .slice xd0 xm0 xe0, .slice xd1 xm1 xe1, .slice xd2 xm2 xe2, .slice xd3 xm3 xe3] a) := hPF.at (by omega) hx2.out
          have hl3 := hl2.bes hPF (by omega)
          have hb3 := hb2.bes hPF (by omega)
          have hR3 : Hid (Rd w3 B S r2) := hRR
          have hB3 : Bes B w w3 := hB2.trans hPF
          refine hK.out _ _ hl3 (fun hS3 => ?_)
          clear hK K hS hBB hRR hb0 hPF
          have hS := hS3
          clear hS3
          try simp only [sx]
          refine wpAnyH_ready (rs := [4]) (by kernel_rfl) (by simp) (AllReadyH.cons rfl (fun K hK => ?_) AllReadyH.nil)
          go_simp
          have hl3lt := hb3.lt
          refine (gr_binary w3 (Ge (w.heap.size + 1)) n p 6 [.int .i64 xi, .int .i64 xj, .int .i64 xk, .slice xa xn xc, .slice xd0 xm0 xe0, .slice xd1 xm1 xe1, .slice xd2 xm2 xe2, .slice xd3 xm3 xe3] [.int .i64 yi, .int .i64 yj, .int .i64 yk, .slice ya yn yc, .slice yd0 ym0 ye0, .slice yd1 ym1 ye1, .slice yd2 ym2 ye2, .slice yd3 ym3 ye3] a b (by decide) hx3.out hy3.out (fun b hb => (by show _ ≤ _; omega))).mono ?_
          rintro e w4 ⟨⟨vs4, rfl, hz0⟩, hb4⟩
          obtain ⟨zi, zj, zk, za, zn, zc, zd0, zm0, ze0, zd1, zm1, ze1, zd2, zm2, ze2, zd3, zm3, ze3, rfl⟩ := hz0.exp_form
          have hz4 : Hid (At w4 (Ge (w.heap.size + 1)) (max n p + 1) 2 [.int .i64 zi, .int .i64 zj, .int .i64 zk, .slice za zn zc, .slice zd0 zm0 ze0, .slice zd1 zm1 ze1, .slice zd2 zm2 ze2, .slice zd3 zm3 ze3] (Gr.binN 6 a b)) := hz0
          have hl4 := hl3.below hb4
          have hbx4 := hb3.below hb4
          have hR4 : Hid (Rd w4 B S r2) := hR3.out.below hb4
          have hB4 : Bes B w w4 := hB3.below hb4
          refine hK.out _ _ hl4 (fun hS4 => ?_)
          clear hK K hS hz0 hb4
          have hS := hS4
          clear hS4
          try simp only [sx]
          obtain ⟨⟨mk0, mk1, mk2, mk3, mk4, mk5, mk6, mk7⟩, mz0, mz1, mz2, mz3, mz4, mz5, mz6, mz7⟩ := hbx4.e8
          refine wpAnyH_ready (rs := [5]) (by kernel_rfl) (by simp) (AllReadyH.cons rfl (fun K hK => ?_) AllReadyH.nil)
          go_simp
          refine hK.out _ _ (Bx.save (M := w.heap.size) hl4 (by simp only [sv]) (by omega)) (fun hS5 => ?_)
          clear hK K hS hS5
          try simp only [sx]
          refine wpAnyH_done (by kernel_rfl) ?_ _
          go_wp2
          refine bodyPost_ret (v := .agg #[.int .i64 zi, .int .i64 zj, .int .i64 zk, .slice za zn zc, .slice zd0 zm0 ze0, .slice zd1 zm1 ze1, .slice zd2 zm2 ze2, .slice zd3 zm3 ze3]) (by rw [results_cell1 (fn := Tryz.f18) (p := 2) (ty := 28) (by kernel_rfl)]; simp [go_sem, mk0, mk1, mk2, mk3, mk4, mk5, mk6, mk7]) rfl ?_
          exact Gr.Ans.mk hlt (by simp only [sv]) hR4.out hB4 hz4.out
      | false =>
        simp only [hT60, Bool.false_eq_true, if_false] at hne ⊢
        clear hne ihS
        go_enter Tryz.func18, Tryz.ntmps18
        go_wp2_with (first | (go_at_call 39; refine Calls.mono (gr_op_no _ B S r ?rd (w1.heap.size + 1) ⟨#[61]⟩ ⟨#[60]⟩ ?c0 ?c1 hT61 hT60) ?_; (case rd => exact (hR1.alloc _).alloc _); (case c0 => rw [World.cell?_alloc_at _ _ _ _ (by simp)]; rfl); (case c1 => rw [World.cell?_alloc_at _ _ _ _ (by simp)]; rfl); rintro e w2 ⟨rfl, hRR, hBB⟩; have hPF : Bes B w1 w2 := (((Bes.refl B w1).alloc (.cells #[.int .i64 xi, .int .i64 xj, .int .i64 xk, .slice xa xn xc, .slice xd0 xm0 xe0, .slice xd1 xm1 xe1, .slice xd2 xm2 xe2, .slice xd3 xm3 xe3] 28)).alloc (.cells #[.string ⟨#[61]⟩, .string ⟨#[60]⟩] 9)).trans hBB; have hR2 : Hid (Rd w2 B S r) := hRR; have hb2 := hbx.out.bes hPF (by omega); have hl2 := ((Bx.new w1 [.int .i64 xi, .int .i64 xj, .int .i64 xk, .slice xa xn xc, .slice xd0 xm0 xe0, .slice xd1 xm1 xe1, .slice xd2 xm2 xe2, .slice xd3 xm3 xe3] 28).below (bl_alloc (Below.refl _ _) (.cells #[.string ⟨#[61]⟩, .string ⟨#[60]⟩] 9))).bes hBB (by omega); have hlw2 := hb2.lt; have hll := hl2.lt; have hx2 : Hid (At w2 (Ge (w.heap.size + 1)) n 2 [.int .i64 xi, .int .i64 xj, .int .i64 xk, .slice xa xn xc, .slice xd0 xm0 xe0, .slice xd1 xm1 xe1, .slice xd2 xm2 xe2, .slice xd3 xm3 xe3] a) := hPF.at (by omega) ha.out; have hB2 : Bes B w w2 := hB1.trans hPF; obtain ⟨⟨k0, k1, k2, k3, k4, k5, k6, k7⟩, z0, z1, z2, z3, z4, z5, z6, z7⟩ := hb2.e8; obtain ⟨⟨lk0, lk1, lk2, lk3, lk4, lk5, lk6, lk7⟩, lz0, lz1, lz2, lz3, lz4, lz5, lz6, lz7⟩ := hl2.e8; clear hRR hBB hPF) | (go_at_call 38; refine (qG.out _ (HR.out.alloc _)).mono ?_; rintro e w1 ⟨⟨vs, n, rfl, ha0⟩, hR1, hB0⟩; obtain ⟨xi, xj, xk, xa, xn, xc, xd0, xm0, xe0, xd1, xm1, xe1, xd2, xm2, xe2, xd3, xm3, xe3, rfl⟩ := ha0.exp_form; have ha : Hid (At w1 (Ge (w.heap.size + 1)) n 2 [.int .i64 xi, .int .i64 xj, .int .i64 xk, .slice xa xn xc, .slice xd0 xm0 xe0, .slice xd1 xm1 xe1, .slice xd2 xm2 xe2, .slice xd3 xm3 xe3] a) := (by have := ha0; simp at this; exact this); have hbx : Hid (Bx w1 w.heap.size [.int .i64 0, .int .i64 0, .int .i64 0, .slice none 0 0, .slice none 0 0, .slice none 0 0, .slice none 0 0, .slice none 0 0]) := (Bx.new w [.int .i64 0, .int .i64 0, .int .i64 0, .slice none 0 0, .slice none 0 0, .slice none 0 0, .slice none 0 0, .slice none 0 0] 28).bes hB0 (by omega); have hB1 : Bes B w w1 := ((Bes.refl _ _).alloc _).trans hB0; have hlt1 : w.heap.size < w1.heap.size := (by have := hB0.size; simp at this; omega); clear ha0 hB0 HR))
        refine bodyPost_ret (v := .agg #[.int .i64 xi, .int .i64 xj, .int .i64 xk, .slice xa xn xc, .slice xd0 xm0 xe0, .slice xd1 xm1 xe1, .slice xd2 xm2 xe2, .slice xd3 xm3 xe3]) (by rw [results_cell1 (fn := Tryz.f18) (p := 2) (ty := 28) (by kernel_rfl)]; simp [go_sem, k0, k1, k2, k3, k4, k5, k6, k7]) rfl ?_
        exact Gr.Ans.mk hlt (by simp only [sv]) hR2.out hB2 hx2.out
end Go.Proofs.YtjebepnphoeiaabGreatDoor
