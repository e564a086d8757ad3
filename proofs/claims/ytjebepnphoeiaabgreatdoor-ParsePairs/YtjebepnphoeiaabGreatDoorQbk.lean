/- Pieces: GrO GrN. -/
import Derived.Test.YtjebepnphoeiaabGreatDoorQak
namespace Go.Proofs.YtjebepnphoeiaabGreatDoor
open Go.RowKit
set_option linter.unusedVariables false
set_option linter.unusedSimpArgs false

set_option maxHeartbeats 1600000 in
set_option maxRecDepth 100000 in
theorem gr_application (f : Nat) (ih2 : ∀ k, k ≤ f → Gr.Rule2 118 .atom 2 Gr.begE k) (ih0 : Gr.Rule0 118 (.agg #[.int .i64 0, .int .i64 0, .int .i64 0, .slice none 0 0, .slice none 0 0, .slice none 0 0, .slice none 0 0, .slice none 0 0]) Gr.begE) : Gr.Rule 100 .app 2 (f + 1) := by
 intro w B S ts h hne
 rw [show Gr.g (f + 1) .app ts = (if Gr.begE ts = true then (Gr.g f .atom ts).bind fun a r => Gr.g f (.appGo a) r else .bad ts 11) from rfl] at hne ⊢
 have hlt := h.lt
 have HR : Hid (Rd w B S ts) := h
 clear h
 cases hP : Gr.begE ts with
 | false =>
  simp only [hP, Bool.false_eq_true, if_false]
  clear hne
  have qN : Hid (∀ W, Rd W B S ts → Calls Tryz.prog 118 #[.pointer (some ⟨B, 0, none⟩)] W (Gr.No B S (.agg #[.int .i64 0, .int .i64 0, .int .i64 0, .slice none 0 0, .slice none 0 0, .slice none 0 0, .slice none 0 0, .slice none 0 0]) W ts)) := fun W hW => ih0 W B S ts hW hP
  go_enter Tryz.func100, Tryz.ntmps100
  go_wp2_with (first | (go_at_call 37; refine Calls.mono (gr_giveUp _ B S ts ?rd) ?_; (case rd => exact hR1.out.alloc _); rintro e ww ⟨rfl, hww⟩; rw [hww]; clear hww ww) | (go_at_call 118; refine (qN.out _ (HR.out.alloc _)).mono ?_; rintro e w1 ⟨rfl, hRR, hBB⟩; have hR1 : Hid (Rd w1 B S ts) := hRR; have hB1 : Bes B w w1 := ((Bes.refl _ _).alloc _).trans hBB; clear hRR hBB))
  exact ⟨rfl, rfl, ⟨_, hR1.out.alloc _⟩, hB1.alloc _⟩
 | true =>
  simp only [hP, if_true] at hne ⊢
  cases hG : Gr.g f .atom ts with
  | out => rw [hG] at hne; exact absurd rfl hne
  | bad r c =>
   have qG : Hid (∀ W, Rd W B S ts → Calls Tryz.prog 118 #[.pointer (some ⟨B, 0, none⟩)] W (Gr.Ans2 B S 2 W (.bad r c))) := fun W hW => by rw [← hG]; exact ih2 f (Nat.le_refl _) W B S ts hW hP (by rw [hG]; simp)
   clear hne hG
   go_enter Tryz.func100, Tryz.ntmps100
   go_wp2_with (go_at_call 118; refine (qG.out _ (HR.out.alloc _)).mono ?_; rintro e w1 ⟨rfl, hRR, hBB⟩)
   exact ⟨rfl, rfl, hRR, ((Bes.refl _ _).alloc _).trans hBB⟩
  | ok a r =>
   have qG : Hid (∀ W, Rd W B S ts → Calls Tryz.prog 118 #[.pointer (some ⟨B, 0, none⟩)] W (Gr.Ans2 B S 2 W (.ok a r))) := fun W hW => by rw [← hG]; exact ih2 f (Nat.le_refl _) W B S ts hW hP (by rw [hG]; simp)
   simp only [hG, Gr.Res.bind] at hne ⊢
   have HN : Hid (Gr.g f (.appGo a) r ≠ .out) := hne
   clear hne hG hP
   go_enter Tryz.func100, Tryz.ntmps100
   go_wp2_with (go_at_call 118; refine (qG.out _ (HR.out.alloc _)).mono ?_; rintro e w1 ⟨⟨vs, n, rfl, ha0⟩, hR1, hB0⟩; obtain ⟨xi, xj, xk, xa, xn, xc, xd0, xm0, xe0, xd1, xm1, xe1, xd2, xm2, xe2, xd3, xm3, xe3, rfl⟩ := ha0.exp_form; have ha : Hid (At w1 (Ge (w.heap.size + 1)) n 2 [.int .i64 xi, .int .i64 xj, .int .i64 xk, .slice xa xn xc, .slice xd0 xm0 xe0, .slice xd1 xm1 xe1, .slice xd2 xm2 xe2, .slice xd3 xm3 xe3] a) := (by have := ha0; simp at this; exact this); have hbx : Hid (Bx w1 w.heap.size [.int .i64 0, .int .i64 0, .int .i64 0, .slice none 0 0, .slice none 0 0, .slice none 0 0, .slice none 0 0, .slice none 0 0]) := (Bx.new w [.int .i64 0, .int .i64 0, .int .i64 0, .slice none 0 0, .slice none 0 0, .slice none 0 0, .slice none 0 0, .slice none 0 0] 28).bes hB0 (by omega); have hB1 : Bes B w w1 := ((Bes.refl _ _).alloc _).trans hB0; have hlt1 : w.heap.size < w1.heap.size := (by have := hB0.size; simp at this; omega); clear ha0 hB0)
   obtain ⟨L, hL⟩ : ∃ L, w1.heap.size = L := ⟨_, rfl⟩
   rw [hL]
   go_loopw [16] (fun _ wr => ∃ (k n : Nat) (us : Gr.Ts) (x : Nd) (vs : List Value), Hid (k ≤ f ∧ Gr.g f (.appGo a) r = Gr.g k (.appGo x) us) ∧ Hid (Bx wr L vs ∧ At wr (Gx (w.heap.size + 1) L) n 2 vs x) ∧ Hid (Bx wr w.heap.size [.int .i64 0, .int .i64 0, .int .i64 0, .slice none 0 0, .slice none 0 0, .slice none 0 0, .slice none 0 0, .slice none 0 0]) ∧ Rd wr B S us ∧ Bes B w wr) (fun _ wr => Gr.left B wr)
   case atStart => exact ⟨f, n, r, a, _, ⟨Nat.le_refl _, rfl⟩, ⟨by rw [← hL]; exact Bx.new w1 [.int .i64 xi, .int .i64 xj, .int .i64 xk, .slice xa xn xc, .slice xd0 xm0 xe0, .slice xd1 xm1 xe1, .slice xd2 xm2 xe2, .slice xd3 xm3 xe3] 28, (Bes.of_below (B := B) (bl_alloc (Below.refl _ _) _)).atx (by omega) (ha.out.gx (by omega))⟩, hbx.out.below (bl_alloc (Below.refl _ _) _), hR1.alloc _, hB1.alloc _⟩
   case round =>
    clear hR1 hB1 ha hbx qG HR
    have HL : Hid (w1.heap.size = L) := hL
    have hlL : w.heap.size < L := by omega
    clear hL hlt1
    obtain ⟨k, n, us, x, vs, hK, hX, hbx, hR0, hB⟩ := hrel
    have hR : Hid (Rd wr B S us) := hR0
    clear hR0
    obtain ⟨hbl0, hx0⟩ := hX.out
    obtain ⟨xi, xj, xk, xa, xn, xc, xd0, xm0, xe0, xd1, xm1, xe1, xd2, xm2, xe2, xd3, xm3, xe3, rfl⟩ := hx0.exp_form
    have hbl : Hid (Bx wr L [.int .i64 xi, .int .i64 xj, .int .i64 xk, .slice xa xn xc, .slice xd0 xm0 xe0, .slice xd1 xm1 xe1, .slice xd2 xm2 xe2, .slice xd3 xm3 xe3]) := hbl0
    have hx : Hid (At wr (Gx (w.heap.size + 1) L) n 2 [.int .i64 xi, .int .i64 xj, .int .i64 xk, .slice xa xn xc, .slice xd0 xm0 xe0, .slice xd1 xm1 xe1, .slice xd2 xm2 xe2, .slice xd3 xm3 xe3] x) := hx0
    clear hX hbl0 hx0
    obtain ⟨hkf, hk0⟩ := hK.out
    have hLw : L < wr.heap.size := hbl.out.lt
    cases k with
    | zero => exact absurd hk0 HN.out
    | succ k =>
     rw [show Gr.g (k + 1) (.appGo x) us = (if Gr.begE us = true then (Gr.g k .atom us).bind fun b r => Gr.g k (.appGo (Gr.expN 8 0 0 [] [] [x, b] [] [])) r else .ok x us) from rfl] at hk0
     cases hP : Gr.begE us with
     | false =>
      have HK : Hid (Gr.g f (.appGo a) r = .ok x us) := by show _ = _; rw [hk0, hP]; rfl
      have qN : Hid (∀ W, Rd W B S us → Calls Tryz.prog 118 #[.pointer (some ⟨B, 0, none⟩)] W (Gr.No B S (.agg #[.int .i64 0, .int .i64 0, .int .i64 0, .slice none 0 0, .slice none 0 0, .slice none 0 0, .slice none 0 0, .slice none 0 0]) W us)) := fun W hW => ih0 W B S us hW hP
      clear hk0 hK HN ih2 ih0
      go_wp2_with (go_at_call 118; refine (qN.out _ hR.out).mono ?_; rintro e w2 ⟨rfl, hRR, hBB⟩; have hR2 : Hid (Rd w2 B S us) := hRR; have hb2 := hbx.out.bes hBB (by omega); have hl2 := hbl.out.bes hBB (by omega); have hlw := hb2.lt; have hll := hl2.lt; have hx2 : Hid (At w2 (Gx (w.heap.size + 1) L) n 2 [.int .i64 xi, .int .i64 xj, .int .i64 xk, .slice xa xn xc, .slice xd0 xm0 xe0, .slice xd1 xm1 xe1, .slice xd2 xm2 xe2, .slice xd3 xm3 xe3] x) := hBB.atx (by omega) hx.out; have hB2 : Bes B w w2 := hB.trans hBB; obtain ⟨⟨k0, k1, k2, k3, k4, k5, k6, k7⟩, z0, z1, z2, z3, z4, z5, z6, z7⟩ := hb2.e8; obtain ⟨⟨lk0, lk1, lk2, lk3, lk4, lk5, lk6, lk7⟩, lz0, lz1, lz2, lz3, lz4, lz5, lz6, lz7⟩ := hl2.e8; clear hRR hBB)
      refine bodyPost_ret (v := .agg #[.int .i64 xi, .int .i64 xj, .int .i64 xk, .slice xa xn xc, .slice xd0 xm0 xe0, .slice xd1 xm1 xe1, .slice xd2 xm2 xe2, .slice xd3 xm3 xe3]) (by rw [results_cell1 (fn := Tryz.f100) (p := 2) (ty := 28) (by kernel_rfl)]; simp [go_sem, k0, k1, k2, k3, k4, k5, k6, k7, hlw]) rfl ?_
      rw [HK.out]
      exact Gr.Ans.mk hlt (by simp only [sv]) (hR2.out.alloc (.cells #[.int .i64 0, .int .i64 0, .int .i64 0, .slice none 0 0, .slice none 0 0, .slice none 0 0, .slice none 0 0, .slice none 0 0] 28)) (hB2.alloc (.cells #[.int .i64 0, .int .i64 0, .int .i64 0, .slice none 0 0, .slice none 0 0, .slice none 0 0, .slice none 0 0, .slice none 0 0] 28)) ((Bes.of_below (B := B) (bl_alloc (Below.refl _ _) (.cells #[.int .i64 0, .int .i64 0, .int .i64 0, .slice none 0 0, .slice none 0 0, .slice none 0 0, .slice none 0 0, .slice none 0 0] 28))).atx (by omega) hx2.out).ge
     | true =>
      rw [hP] at hk0
      simp only [if_true] at hk0
      cases hG : Gr.g k .atom us with
      | out => rw [hG] at hk0; exact absurd hk0 HN.out
      | bad r2 c =>
       have HK : Hid (Gr.g f (.appGo a) r = .bad r2 c) := by show _ = _; rw [hk0, hG]; rfl
       have qG : Hid (∀ W, Rd W B S us → Calls Tryz.prog 118 #[.pointer (some ⟨B, 0, none⟩)] W (Gr.Ans2 B S 2 W (.bad r2 c))) := fun W hW => by rw [← hG]; exact ih2 k (by omega) W B S us hW hP (by rw [hG]; simp)
       clear hk0 hK HN ih2 ih0 hG
       go_wp2_with (go_at_call 118; refine (qG.out _ hR.out).mono ?_; rintro e w2 ⟨rfl, hRR, hBB⟩)
       refine ⟨rfl, ?_⟩
       rw [HK.out]
       exact ⟨rfl, hRR, hB.trans hBB⟩
      | ok b r2 =>
       have HK : Hid (Gr.g f (.appGo a) r = Gr.g k (.appGo (Gr.expN 8 0 0 [] [] [x, b] [] [])) r2) := by show _ = _; rw [hk0, hG]; rfl
       have qG : Hid (∀ W, Rd W B S us → Calls Tryz.prog 118 #[.pointer (some ⟨B, 0, none⟩)] W (Gr.Ans2 B S 2 W (.ok b r2))) := fun W hW => by rw [← hG]; exact ih2 k (by omega) W B S us hW hP (by rw [hG]; simp)
       have HLen : Hid (r2.length < us.length) := by show _ < _; have := Gr.ok_len hG; simp only [Gr.Nt.least] at this; omega
       clear hk0 hK ih2 ih0 hG
       go_wp2_with (go_at_call 118; refine (qG.out _ hR.out).mono ?_; rintro e w2 ⟨⟨us2, p, rfl, hb0⟩, hRR, hBB⟩; obtain ⟨yi, yj, yk, ya, yn, yc, yd0, ym0, ye0, yd1, ym1, ye1, yd2, ym2, ye2, yd3, ym3, ye3, rfl⟩ := hb0.exp_form; have hR2 : Hid (Rd w2 B S r2) := hRR; have hl2 := hbl.out.bes hBB (by omega); have hbx2 : Hid (Bx w2 w.heap.size [.int .i64 0, .int .i64 0, .int .i64 0, .slice none 0 0, .slice none 0 0, .slice none 0 0, .slice none 0 0, .slice none 0 0]) := hbx.out.bes hBB (by omega); have hx2 : Hid (At w2 (Gx (w.heap.size + 1) L) n 2 [.int .i64 xi, .int .i64 xj, .int .i64 xk, .slice xa xn xc, .slice xd0 xm0 xe0, .slice xd1 xm1 xe1, .slice xd2 xm2 xe2, .slice xd3 xm3 xe3] x) := hBB.atx (by omega) hx.out; have hy2 : Hid (At w2 (Gx (w.heap.size + 1) L) p 2 [.int .i64 yi, .int .i64 yj, .int .i64 yk, .slice ya yn yc, .slice yd0 ym0 ye0, .slice yd1 ym1 ye1, .slice yd2 ym2 ye2, .slice yd3 ym3 ye3] b) := At.gx2 hb0 (by omega) (by omega); have hB2 : Bes B w w2 := hB.trans hBB; have hll := hl2.lt; obtain ⟨⟨lk0, lk1, lk2, lk3, lk4, lk5, lk6, lk7⟩, lz0, lz1, lz2, lz3, lz4, lz5, lz6, lz7⟩ := hl2.e8; clear hRR hBB hb0)
       go_roundw
       case rel =>
        have hpf : Bes B w2 ((w2.alloc (.cells #[.int .i64 yi, .int .i64 yj, .int .i64 yk, .slice ya yn yc, .slice yd0 ym0 ye0, .slice yd1 ym1 ye1, .slice yd2 ym2 ye2, .slice yd3 ym3 ye3] 28)).alloc (.cells #[.int .i64 xi, .int .i64 xj, .int .i64 xk, .slice xa xn xc, .slice xd0 xm0 xe0, .slice xd1 xm1 xe1, .slice xd2 xm2 xe2, .slice xd3 xm3 xe3, .int .i64 yi, .int .i64 yj, .int .i64 yk, .slice ya yn yc, .slice yd0 ym0 ye0, .slice yd1 ym1 ye1, .slice yd2 ym2 ye2, .slice yd3 ym3 ye3] 28)) := ((Bes.refl B w2).alloc _).alloc _
        refine ⟨k, max n p + 1, r2, (Gr.expN 8 0 0 [] [] [x, b] [] []), [.int .i64 8, .int .i64 0, .int .i64 0, .slice none 0 0, .slice none 0 0, .slice (some ⟨w2.heap.size + 1, 0, none⟩) 2 2, .slice none 0 0, .slice none 0 0], ⟨by omega, HK.out⟩, ⟨?_, ?_⟩, ?_, ?_, ?_⟩
        ·
         refine Bx.of8 ?_ ?_ ?_ ?_ ?_ ?_ ?_ ?_ ?_ ?_ ?_ ?_ ?_ ?_ ?_ ?_ <;> simp [go_sem, hll, lk0, lk1, lk2, lk3, lk4, lk5, lk6, lk7, lz0, lz1, lz2, lz3, lz4, lz5, lz6, lz7]
        ·
         refine Save.atx (w := (w2.alloc (.cells #[.int .i64 yi, .int .i64 yj, .int .i64 yk, .slice ya yn yc, .slice yd0 ym0 ye0, .slice yd1 ym1 ye1, .slice yd2 ym2 ye2, .slice yd3 ym3 ye3] 28)).alloc (.cells #[.int .i64 xi, .int .i64 xj, .int .i64 xk, .slice xa xn xc, .slice xd0 xm0 xe0, .slice xd1 xm1 xe1, .slice xd2 xm2 xe2, .slice xd3 xm3 xe3, .int .i64 yi, .int .i64 yj, .int .i64 yk, .slice ya yn yc, .slice yd0 ym0 ye0, .slice yd1 ym1 ye1, .slice yd2 ym2 ye2, .slice yd3 ym3 ye3] 28)) ?_ (At.exp_mk (by decide) (by decide) (by decide) (Tx.none0 ..) (fun x hx => by cases hx) (Nat.zero_le _) (AtL.none0 ..) (AtL.cast (AtL.mk2x (At.le ((Bes.of_below (B := B) (bl_alloc (Below.refl _ _) (.cells #[.int .i64 yi, .int .i64 yj, .int .i64 yk, .slice ya yn yc, .slice yd0 ym0 ye0, .slice yd1 ym1 ye1, .slice yd2 ym2 ye2, .slice yd3 ym3 ye3] 28))).atx (by omega) hx2.out) (Nat.le_max_left n p)) (At.le ((Bes.of_below (B := B) (bl_alloc (Below.refl _ _) (.cells #[.int .i64 yi, .int .i64 yj, .int .i64 yk, .slice ya yn yc, .slice yd0 ym0 ye0, .slice yd1 ym1 ye1, .slice yd2 ym2 ye2, .slice yd3 ym3 ye3] 28))).atx (by omega) hy2.out) (Nat.le_max_right n p)) ⟨by simp; omega, by simp; omega⟩ 28 rfl rfl) (by simp)) (AtL.none0 ..) (AtL.none0 ..))
         simp only [sv]
        ·
         refine Bx.save (M := L) (hbx2.out.bes hpf (by omega)) ?_ (by omega)
         simp only [sv]
        ·
         refine Rd.save (b := L) ((hR2.out.alloc (.cells #[.int .i64 yi, .int .i64 yj, .int .i64 yk, .slice ya yn yc, .slice yd0 ym0 ye0, .slice yd1 ym1 ye1, .slice yd2 ym2 ye2, .slice yd3 ym3 ye3] 28)).alloc (.cells #[.int .i64 xi, .int .i64 xj, .int .i64 xk, .slice xa xn xc, .slice xd0 xm0 xe0, .slice xd1 xm1 xe1, .slice xd2 xm2 xe2, .slice xd3 xm3 xe3, .int .i64 yi, .int .i64 yj, .int .i64 yk, .slice ya yn yc, .slice yd0 ym0 ye0, .slice yd1 ym1 ye1, .slice yd2 ym2 ye2, .slice yd3 ym3 ye3] 28)) ?_ (by omega)
         simp only [sv]
        ·
         refine Bes.save (b := L) ((hB2.alloc (.cells #[.int .i64 yi, .int .i64 yj, .int .i64 yk, .slice ya yn yc, .slice yd0 ym0 ye0, .slice yd1 ym1 ye1, .slice yd2 ym2 ye2, .slice yd3 ym3 ye3] 28)).alloc (.cells #[.int .i64 xi, .int .i64 xj, .int .i64 xk, .slice xa xn xc, .slice xd0 xm0 xe0, .slice xd1 xm1 xe1, .slice xd2 xm2 xe2, .slice xd3 xm3 xe3, .int .i64 yi, .int .i64 yj, .int .i64 yk, .slice ya yn yc, .slice yd0 ym0 ye0, .slice yd1 ym1 ye1, .slice yd2 ym2 ye2, .slice yd3 ym3 ye3] 28)) ?_ (by omega)
         simp only [sv]
       case measure =>
        refine Gr.less (Rd.left (Rd.save (b := L) ((hR2.out.alloc (.cells #[.int .i64 yi, .int .i64 yj, .int .i64 yk, .slice ya yn yc, .slice yd0 ym0 ye0, .slice yd1 ym1 ye1, .slice yd2 ym2 ye2, .slice yd3 ym3 ye3] 28)).alloc (.cells #[.int .i64 xi, .int .i64 xj, .int .i64 xk, .slice xa xn xc, .slice xd0 xm0 xe0, .slice xd1 xm1 xe1, .slice xd2 xm2 xe2, .slice xd3 xm3 xe3, .int .i64 yi, .int .i64 yj, .int .i64 yk, .slice ya yn yc, .slice yd0 ym0 ye0, .slice yd1 ym1 ye1, .slice yd2 ym2 ye2, .slice yd3 ym3 ye3] 28)) ?_ (by omega))) ?_
        ·
         simp only [sv]
        ·
         rw [hR.out.left]; exact HLen.out
set_option linter.unusedSimpArgs false
theorem AtL.cast2 {w : World} {K : Nat → Prop} {n s : Nat} {v u : Value} {l : List Nd} (h : AtL w K n s v l) (hv : v = u) : AtL w K n s u l := hv ▸ h

set_option maxHeartbeats 1600000 in
set_option maxRecDepth 100000 in
theorem gr_binary (w : World) (K : Nat → Prop) (n p : Nat) (op : Int) (va vb : List Value) (a b : Nd) (ho : -9223372036854775808 ≤ op ∧ op ≤ 9223372036854775807) (ha : At w K n 2 va a) (hb : At w K p 2 vb b) (hK : ∀ b, w.heap.size ≤ b → K b) :
  Calls Tryz.prog 40 #[.int .i64 op, .agg va.toArray, .agg vb.toArray] w fun e w' => (∃ vs, e = .returned (.agg vs.toArray) ∧ At w' K (max n p + 1) 2 vs (Gr.binN op a b)) ∧ Below w.heap.size w w' := by
 obtain ⟨xi, xj, xk, xa, xn, xc, xd0, xm0, xe0, xd1, xm1, xe1, xd2, xm2, xe2, xd3, xm3, xe3, rfl⟩ := ha.exp_form
 obtain ⟨yi, yj, yk, ya, yn, yc, yd0, ym0, ye0, yd1, ym1, ye1, yd2, ym2, ye2, yd3, ym3, ye3, rfl⟩ := hb.exp_form
 have HA : Hid (At w K (max n p) 2 [.int .i64 xi, .int .i64 xj, .int .i64 xk, .slice xa xn xc, .slice xd0 xm0 xe0, .slice xd1 xm1 xe1, .slice xd2 xm2 xe2, .slice xd3 xm3 xe3] a) := At.le ha (Nat.le_max_left _ _)
 have HB : Hid (At w K (max n p) 2 [.int .i64 yi, .int .i64 yj, .int .i64 yk, .slice ya yn yc, .slice yd0 ym0 ye0, .slice yd1 ym1 ye1, .slice yd2 ym2 ye2, .slice yd3 ym3 ye3] b) := At.le hb (Nat.le_max_right _ _)
 have HO : Hid (-9223372036854775808 ≤ op ∧ op ≤ 9223372036854775807) := ho
 have HK : Hid (∀ b, w.heap.size ≤ b → K b) := hK
 clear ha hb ho hK
 go_enter Tryz.func40, Tryz.ntmps40
 go_wp2
 refine bodyPost_ret (v := .agg #[.int .i64 13, .int .i64 op, .int .i64 0, .slice none 0 0, .slice none 0 0, .slice (some ⟨w.heap.size + 1 + 1 + 1, 0, none⟩) 2 2, .slice none 0 0, .slice none 0 0]) (by rw [results_cell1 (fn := Tryz.f40) (p := 6) (ty := 28) (by kernel_rfl)]; simp [go_sem]) rfl ?_
 have hB0 : Below w.heap.size w (((w.alloc (.cells #[.int .i64 xi, .int .i64 xj, .int .i64 xk, .slice xa xn xc, .slice xd0 xm0 xe0, .slice xd1 xm1 xe1, .slice xd2 xm2 xe2, .slice xd3 xm3 xe3] 28)).alloc (.cells #[.int .i64 yi, .int .i64 yj, .int .i64 yk, .slice ya yn yc, .slice yd0 ym0 ye0, .slice yd1 ym1 ye1, .slice yd2 ym2 ye2, .slice yd3 ym3 ye3] 28)).alloc (.cells #[.int .i64 13, .int .i64 op, .int .i64 0, .slice none 0 0, .slice none 0 0, .slice (some ⟨w.heap.size + 1 + 1 + 1, 0, none⟩) 2 2, .slice none 0 0, .slice none 0 0] 28)) := bl_alloc (bl_alloc (bl_alloc (Below.refl _ _) _) _) _
 refine ⟨⟨[.int .i64 13, .int .i64 op, .int .i64 0, .slice none 0 0, .slice none 0 0, .slice (some ⟨w.heap.size + 1 + 1 + 1, 0, none⟩) 2 2, .slice none 0 0, .slice none 0 0], rfl, ?_⟩, bl_alloc hB0 _⟩
 exact At.exp_mk (by decide) HO.out (by decide) (Tx.none0 ..) (fun x hx => by cases hx) (Nat.zero_le _) (AtL.none0 ..) (AtL.cast2 (AtL.mk2x (At.move (Keeps.of_below hB0) (fun _ h => h) _ _ _ _ HA.out) (At.move (Keeps.of_below hB0) (fun _ h => h) _ _ _ _ HB.out) (HK.out _ hB0.size) 28 rfl rfl) (by simp)) (AtL.none0 ..) (AtL.none0 ..)
end Go.Proofs.YtjebepnphoeiaabGreatDoor
