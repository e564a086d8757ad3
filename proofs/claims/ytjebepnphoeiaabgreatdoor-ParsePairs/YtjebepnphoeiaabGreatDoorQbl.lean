/- Pieces: GrS. -/
import Derived.Test.YtjebepnphoeiaabGreatDoorQak
import Derived.Test.YtjebepnphoeiaabGreatDoorQbk
namespace Go.Proofs.YtjebepnphoeiaabGreatDoor
open Go.RowKit
set_option linter.unusedVariables false
set_option linter.unusedSimpArgs false

set_option maxHeartbeats 1600000 in
set_option maxRecDepth 100000 in
theorem gr_chain_sum (f : Nat) (ihP : ∀ k, k ≤ f → Gr.Rule 67 .prod 2 k) (w : World) (B S : Nat) (ts : Gr.Ts) (h : Rd w B S ts) (lb : Nat) (hlb : lb ≠ B) (c0 : w.cell? ⟨lb, 0, none⟩ = some (.string ⟨#[43]⟩)) (c1 : w.cell? ⟨lb, 1, none⟩ = some (.string ⟨#[45]⟩)) (hne : ((Gr.g f .prod ts).bind fun a r => Gr.g f (.sumGo a) r) ≠ .out) :
  Calls Tryz.prog 66 #[.pointer (some ⟨B, 0, none⟩), .func (.func 67) #[] #[], .slice (some ⟨lb, 0, none⟩) 2 2] w (Gr.Ans B S 2 w ((Gr.g f .prod ts).bind fun a r => Gr.g f (.sumGo a) r)) := by
 have hlt := h.lt
 have HR : Hid (Rd w B S ts) := h
 have hlw := World.block_lt_of_cell? w _ c0
 have HC : Hid (∀ W, Bes B w W → W.cell? ⟨lb, 0, none⟩ = some (.string ⟨#[43]⟩) ∧ W.cell? ⟨lb, 1, none⟩ = some (.string ⟨#[45]⟩)) := fun W hW => ⟨(hW.cell hlw hlb).trans c0, (hW.cell (p := ⟨lb, 1, none⟩) hlw hlb).trans c1⟩
 clear h c0 c1
 cases hG : Gr.g f .prod ts with
 | out => rw [hG] at hne; exact absurd rfl hne
 | bad r c =>
  have qG : Hid (∀ W, Rd W B S ts → Calls Tryz.prog 67 #[.pointer (some ⟨B, 0, none⟩)] W (Gr.Ans B S 2 W (.bad r c))) := fun W hW => by rw [← hG]; exact ihP f (Nat.le_refl _) W B S ts hW (by rw [hG]; simp)
  clear hne hG
  go_enter Tryz.func66, Tryz.ntmps66
  go_wp2_with (go_at_call 67; refine (qG.out _ (HR.out.alloc _)).mono ?_; rintro e w1 ⟨rfl, hRR, hBB⟩)
  exact ⟨rfl, rfl, hRR, ((Bes.refl _ _).alloc _).trans hBB⟩
 | ok a r =>
  have qG : Hid (∀ W, Rd W B S ts → Calls Tryz.prog 67 #[.pointer (some ⟨B, 0, none⟩)] W (Gr.Ans B S 2 W (.ok a r))) := fun W hW => by rw [← hG]; exact ihP f (Nat.le_refl _) W B S ts hW (by rw [hG]; simp)
  simp only [hG, Gr.Res.bind] at hne ⊢
  have HN : Hid (Gr.g f (.sumGo a) r ≠ .out) := hne
  clear hne hG
  go_enter Tryz.func66, Tryz.ntmps66
  go_wp2_with (go_at_call 67; refine (qG.out _ (HR.out.alloc _)).mono ?_; rintro e w1 ⟨⟨vs, n, rfl, ha0⟩, hR1, hB0⟩; obtain ⟨xi, xj, xk, xa, xn, xc, xd0, xm0, xe0, xd1, xm1, xe1, xd2, xm2, xe2, xd3, xm3, xe3, rfl⟩ := ha0.exp_form; have ha : Hid (At w1 (Ge (w.heap.size + 1)) n 2 [.int .i64 xi, .int .i64 xj, .int .i64 xk, .slice xa xn xc, .slice xd0 xm0 xe0, .slice xd1 xm1 xe1, .slice xd2 xm2 xe2, .slice xd3 xm3 xe3] a) := (by have := ha0; simp at this; exact this); have hbx : Hid (Bx w1 w.heap.size [.int .i64 0, .int .i64 0, .int .i64 0, .slice none 0 0, .slice none 0 0, .slice none 0 0, .slice none 0 0, .slice none 0 0]) := (Bx.new w [.int .i64 0, .int .i64 0, .int .i64 0, .slice none 0 0, .slice none 0 0, .slice none 0 0, .slice none 0 0, .slice none 0 0] 28).bes hB0 (by omega); have hB1 : Bes B w w1 := ((Bes.refl _ _).alloc _).trans hB0; have hlt1 : w.heap.size < w1.heap.size := (by have := hB0.size; simp at this; omega); clear ha0 hB0)
  obtain ⟨L, hL⟩ : ∃ L, w1.heap.size = L := ⟨_, rfl⟩
  rw [hL]
  go_loopw [12] (fun _ wr => ∃ (k n : Nat) (us : Gr.Ts) (x : Nd) (vs : List Value), Hid (k ≤ f ∧ Gr.g f (.sumGo a) r = Gr.g k (.sumGo x) us) ∧ Hid (Bx wr L vs ∧ At wr (Gx (w.heap.size + 1) L) n 2 vs x) ∧ Hid (Bx wr w.heap.size [.int .i64 0, .int .i64 0, .int .i64 0, .slice none 0 0, .slice none 0 0, .slice none 0 0, .slice none 0 0, .slice none 0 0]) ∧ Rd wr B S us ∧ Bes B w wr) (fun _ wr => Gr.left B wr)
  case atStart => exact ⟨f, n, r, a, _, ⟨Nat.le_refl _, rfl⟩, ⟨by rw [← hL]; exact Bx.new w1 [.int .i64 xi, .int .i64 xj, .int .i64 xk, .slice xa xn xc, .slice xd0 xm0 xe0, .slice xd1 xm1 xe1, .slice xd2 xm2 xe2, .slice xd3 xm3 xe3] 28, (Bes.of_below (B := B) (bl_alloc (Below.refl _ _) _)).atx (by omega) (ha.out.gx (by omega))⟩, hbx.out.below (bl_alloc (Below.refl _ _) _), hR1.alloc _, hB1.alloc _⟩
  case round =>
   clear hR1 hB1 ha hbx qG HR
   have HL : Hid (w1.heap.size = L) := hL
   have hlL : w.heap.size < L := by omega
   clear hL hlt1
   obtain ⟨k, n, us, x, vs, hK, hX, hbx, hR0, hB⟩ := hrel
   have hR : Hid (Rd wr B S us) := hR0
   clear hR0
   obtain ⟨hbl0, hx0⟩ := hX.out
   obtain ⟨xi, xj, xk, xa, xn, xc, xd0, xm0, xe0, xd1, xm1, xe1, xd2, xm2, xe2, xd3, xm3, xe3, rfl⟩ := hx0.exp_form
   have hbl : Hid (Bx wr L [.int .i64 xi, .int .i64 xj, .int .i64 xk, .slice xa xn xc, .slice xd0 xm0 xe0, .slice xd1 xm1 xe1, .slice xd2 xm2 xe2, .slice xd3 xm3 xe3]) := hbl0
   have hx : Hid (At wr (Gx (w.heap.size + 1) L) n 2 [.int .i64 xi, .int .i64 xj, .int .i64 xk, .slice xa xn xc, .slice xd0 xm0 xe0, .slice xd1 xm1 xe1, .slice xd2 xm2 xe2, .slice xd3 xm3 xe3] x) := hx0
   clear hX hbl0 hx0
   obtain ⟨hkf, hk0⟩ := hK.out
   have hLw : L < wr.heap.size := hbl.out.lt
   obtain ⟨hc0, hc1⟩ := HC.out wr hB
   have HC0 : Hid (wr.cell? ⟨lb, 0, none⟩ = some (.string ⟨#[43]⟩)) := hc0
   have HC1 : Hid (wr.cell? ⟨lb, 1, none⟩ = some (.string ⟨#[45]⟩)) := hc1
   clear hc0 hc1
   cases k with
   | zero => exact absurd hk0 HN.out
   | succ k =>
    rw [show Gr.g (k + 1) (.sumGo x) us = (if Gr.isT [43] us = true then (Gr.g k .prod us.tail).bind fun b r => Gr.g k (.sumGo (Gr.binN 1 x b)) r
     else if Gr.isT [45] us = true then (Gr.g k .prod us.tail).bind fun b r => Gr.g k (.sumGo (Gr.binN 2 x b)) r else .ok x us) from rfl] at hk0
    cases hT43 : Gr.isT [43] us with
    | true =>
     rw [hT43] at hk0
     simp only [if_true] at hk0
     cases hG : Gr.g k .prod us.tail with
     | out => rw [hG] at hk0; exact absurd hk0 HN.out
     | bad r2 c =>
      have HK : Hid (Gr.g f (.sumGo a) r = .bad r2 c) := by show _ = _; rw [hk0, hG]; rfl
      have qG : Hid (∀ W, Rd W B S us.tail → Calls Tryz.prog 67 #[.pointer (some ⟨B, 0, none⟩)] W (Gr.Ans B S 2 W (.bad r2 c))) := fun W hW => by rw [← hG]; exact ihP k (by omega) W B S us.tail hW (by rw [hG]; simp)
      have qO : Hid (Calls Tryz.prog 39 #[.pointer (some ⟨B, 0, none⟩), .slice (some ⟨lb, 0, none⟩) 2 2] wr fun e w' => e = .returned (.int .i64 1) ∧ Rd w' B S us.tail ∧ Bes B wr w') := gr_op_yes wr B S us hR.out lb _ _ HC0.out HC1.out (by rw [show Gr.isT _ us = true from hT43]; rfl) 43 (by decide) (Gr.isT_hd hT43)
      clear hk0 hK HN ihP hG HC HC0 HC1
      go_wp2_with (go_at_call 39; refine (qO.out).mono ?_; rintro e w2 ⟨rfl, hRR, hBB⟩; have hR2 : Hid (Rd w2 B S us.tail) := hRR; have hb2 := hbx.out.bes hBB (by omega); have hl2 := hbl.out.bes hBB (by omega); have hlw2 := hb2.lt; have hll := hl2.lt; have hx2 : Hid (At w2 (Gx (w.heap.size + 1) L) n 2 [.int .i64 xi, .int .i64 xj, .int .i64 xk, .slice xa xn xc, .slice xd0 xm0 xe0, .slice xd1 xm1 xe1, .slice xd2 xm2 xe2, .slice xd3 xm3 xe3] x) := hBB.atx (by omega) hx.out; have hB2 : Bes B w w2 := hB.trans hBB; obtain ⟨⟨k0, k1, k2, k3, k4, k5, k6, k7⟩, z0, z1, z2, z3, z4, z5, z6, z7⟩ := hb2.e8; obtain ⟨⟨lk0, lk1, lk2, lk3, lk4, lk5, lk6, lk7⟩, lz0, lz1, lz2, lz3, lz4, lz5, lz6, lz7⟩ := hl2.e8; clear hRR hBB)
      refine wp_region_held_drew (S := fun wz => Bx wz L [.int .i64 xi, .int .i64 xj, .int .i64 xk, .slice xa xn xc, .slice xd0 xm0 xe0, .slice xd1 xm1 xe1, .slice xd2 xm2 xe2, .slice xd3 xm3 xe3]) rfl (hl2.below (Below.refl _ _).drew) (fun hS => ?_)
      refine wpAnyH_take (i := 0) (v := ?_) rfl (by kernel_rfl) (by kernel_rfl) (by kernel_rfl) (fun _ _ _ h => h) (Or.inl ⟨by rfl, ?_⟩) hS ?_
      rotate_left
      ·
       intro wz hz; go_simp; try with_reducible rfl
      try simp only [sx]
      refine wpAnyH_take (i := 1) (v := ?_) rfl (by kernel_rfl) (by kernel_rfl) (by kernel_rfl) (fun _ _ _ h => h) (Or.inl ⟨by rfl, ?_⟩) hS ?_
      rotate_left
      ·
       intro wz hz; obtain ⟨⟨yk0, yk1, yk2, yk3, yk4, yk5, yk6, yk7⟩, -⟩ := hz.e8; go_simp; try with_reducible rfl
      try simp only [sx]
      refine wpAnyH_take (i := 2) (v := ?_) rfl (by kernel_rfl) (by kernel_rfl) (by kernel_rfl) (fun _ _ _ h => h) (Or.inl ⟨by rfl, ?_⟩) hS ?_
      rotate_left
      ·
       intro wz hz; go_simp; try with_reducible rfl
      try simp only [sx]
      refine wpAnyH_take (i := 3) (v := ?_) rfl (by kernel_rfl) (by kernel_rfl) (by kernel_rfl) (fun _ _ _ h => h) (Or.inl ⟨by rfl, ?_⟩) hS ?_
      rotate_left
      ·
       intro wz hz; go_simp; try with_reducible rfl
      try simp only [sx]
      refine wpAnyH_ready (rs := [4]) (by kernel_rfl) (by simp) (AllReadyH.cons rfl (fun K hK => ?_) AllReadyH.nil)
      go_simp
      refine (qG.out _ (hR2.out.below (Below.refl _ _).drew)).mono ?_
      rintro e w3 ⟨rfl, hR3, hB3⟩
      refine ⟨rfl, ?_⟩
      rw [HK.out]
      exact ⟨rfl, hR3, hB2.drew.trans hB3⟩
     | ok b r2 =>
      have HK : Hid (Gr.g f (.sumGo a) r = Gr.g k (.sumGo (Gr.binN 1 x b)) r2) := by show _ = _; rw [hk0, hG]; rfl
      have qG : Hid (∀ W, Rd W B S us.tail → Calls Tryz.prog 67 #[.pointer (some ⟨B, 0, none⟩)] W (Gr.Ans B S 2 W (.ok b r2))) := fun W hW => by rw [← hG]; exact ihP k (by omega) W B S us.tail hW (by rw [hG]; simp)
      have qO : Hid (Calls Tryz.prog 39 #[.pointer (some ⟨B, 0, none⟩), .slice (some ⟨lb, 0, none⟩) 2 2] wr fun e w' => e = .returned (.int .i64 1) ∧ Rd w' B S us.tail ∧ Bes B wr w') := gr_op_yes wr B S us hR.out lb _ _ HC0.out HC1.out (by rw [show Gr.isT _ us = true from hT43]; rfl) 43 (by decide) (Gr.isT_hd hT43)
      have HLen : Hid (r2.length < us.length) := by show _ < _; have := Gr.ok_len hG; have := Gr.isT_len hT43; omega
      clear hk0 hK ihP hG HC0 HC1
      go_wp2_with (go_at_call 39; refine (qO.out).mono ?_; rintro e w2 ⟨rfl, hRR, hBB⟩; have hR2 : Hid (Rd w2 B S us.tail) := hRR; have hb2 := hbx.out.bes hBB (by omega); have hl2 := hbl.out.bes hBB (by omega); have hlw2 := hb2.lt; have hll := hl2.lt; have hx2 : Hid (At w2 (Gx (w.heap.size + 1) L) n 2 [.int .i64 xi, .int .i64 xj, .int .i64 xk, .slice xa xn xc, .slice xd0 xm0 xe0, .slice xd1 xm1 xe1, .slice xd2 xm2 xe2, .slice xd3 xm3 xe3] x) := hBB.atx (by omega) hx.out; have hB2 : Bes B w w2 := hB.trans hBB; obtain ⟨⟨k0, k1, k2, k3, k4, k5, k6, k7⟩, z0, z1, z2, z3, z4, z5, z6, z7⟩ := hb2.e8; obtain ⟨⟨lk0, lk1, lk2, lk3, lk4, lk5, lk6, lk7⟩, lz0, lz1, lz2, lz3, lz4, lz5, lz6, lz7⟩ := hl2.e8; clear hRR hBB)
      refine wp_region_held_drew (S := fun wz => True) rfl (trivial) (fun hS => ?_)
      refine wpAnyH_take (i := 0) (v := ?_) rfl (by kernel_rfl) (by kernel_rfl) (by kernel_rfl) (fun _ _ _ h => h) (Or.inl ⟨by rfl, ?_⟩) hS ?_
      rotate_left
      ·
       intro wz hz; go_simp; try with_reducible rfl
      try simp only [sx]
      refine wpAnyH_take (i := 2) (v := ?_) rfl (by kernel_rfl) (by kernel_rfl) (by kernel_rfl) (fun _ _ _ h => h) (Or.inl ⟨by rfl, ?_⟩) hS ?_
      rotate_left
      ·
       intro wz hz; go_simp; try with_reducible rfl
      try simp only [sx]
      refine wpAnyH_take (i := 3) (v := ?_) rfl (by kernel_rfl) (by kernel_rfl) (by kernel_rfl) (fun _ _ _ h => h) (Or.inl ⟨by rfl, ?_⟩) hS ?_
      rotate_left
      ·
       intro wz hz; go_simp; try with_reducible rfl
      try simp only [sx]
      refine wpAnyH_ready (rs := [1, 4]) (by kernel_rfl) (by simp) (AllReadyH.cons rfl (fun K hK => ?_) (AllReadyH.cons rfl (fun K hK => ?_) AllReadyH.nil))
      ·
       go_simp
       refine hK.out _ _ trivial (fun _ => ?_)
       clear hK K
       try simp only [sx]
       refine wpAnyH_ready (rs := [4]) (by kernel_rfl) (by simp) (AllReadyH.cons rfl (fun K hK => ?_) AllReadyH.nil)
       go_simp
       refine (qG.out _ (hR2.out.below (Below.refl _ _).drew)).mono ?_
       rintro e w3 ⟨⟨us2, p, rfl, hb0⟩, hRR, hBB⟩
       obtain ⟨yi, yj, yk, ya, yn, yc, yd0, ym0, ye0, yd1, ym1, ye1, yd2, ym2, ye2, yd3, ym3, ye3, rfl⟩ := hb0.exp_form
       have hPF : Bes B w2 w3 := (Bes.of_below (B := B) (Below.refl _ _).drew).trans hBB
       have hy3 : Hid (At w3 (Gx (w.heap.size + 1) L) p 2 [.int .i64 yi, .int .i64 yj, .int .i64 yk, .slice ya yn yc, .slice yd0 ym0 ye0, .slice yd1 ym1 ye1, .slice yd2 ym2 ye2, .slice yd3 ym3 ye3] b) := At.gx2 hb0 (by simp; omega) (by simp; omega)
       have hx3 : Hid (At w3 (Gx (w.heap.size + 1) L) n 2 [.int .i64 xi, .int .i64 xj, .int .i64 xk, .slice xa xn xc, .slice xd0 xm0 xe0, .slice xd1 xm1 xe1, .slice xd2 xm2 xe2, .slice xd3 xm3 xe3] x) := hPF.atx (by omega) hx2.out
       have hl3 := hl2.bes hPF (by omega)
       have hb3 := hb2.bes hPF (by omega)
       have hR3 : Hid (Rd w3 B S r2) := hRR
       have hB3 : Bes B w w3 := hB2.trans hPF
       have hl3lt := hl3.lt
       obtain ⟨⟨nk0, nk1, nk2, nk3, nk4, nk5, nk6, nk7⟩, nz0, nz1, nz2, nz3, nz4, nz5, nz6, nz7⟩ := hl3.e8
       clear hBB hRR hb0 hPF
       refine hK.out _ _ trivial (fun _ => ?_)
       clear hK K
       try simp only [sx]
       refine wpAnyH_ready (rs := [5]) (by kernel_rfl) (by simp) (AllReadyH.cons rfl (fun K hK => ?_) AllReadyH.nil)
       go_simp
       refine (gr_binary w3 (Gx (w.heap.size + 1) L) n p 1 [.int .i64 xi, .int .i64 xj, .int .i64 xk, .slice xa xn xc, .slice xd0 xm0 xe0, .slice xd1 xm1 xe1, .slice xd2 xm2 xe2, .slice xd3 xm3 xe3] [.int .i64 yi, .int .i64 yj, .int .i64 yk, .slice ya yn yc, .slice yd0 ym0 ye0, .slice yd1 ym1 ye1, .slice yd2 ym2 ye2, .slice yd3 ym3 ye3] x b (by decide) hx3.out hy3.out (fun b hb => ⟨by omega, by omega⟩)).mono ?_
       rintro e w4 ⟨⟨vs4, rfl, hz0⟩, hb4⟩
       obtain ⟨zi, zj, zk, za, zn, zc, zd0, zm0, ze0, zd1, zm1, ze1, zd2, zm2, ze2, zd3, zm3, ze3, rfl⟩ := hz0.exp_form
       have hz4 : Hid (At w4 (Gx (w.heap.size + 1) L) (max n p + 1) 2 [.int .i64 zi, .int .i64 zj, .int .i64 zk, .slice za zn zc, .slice zd0 zm0 ze0, .slice zd1 zm1 ze1, .slice zd2 zm2 ze2, .slice zd3 zm3 ze3] (Gr.binN 1 x b)) := hz0
       have hl4 := hl3.below hb4
       have hbx4 : Hid (Bx w4 w.heap.size [.int .i64 0, .int .i64 0, .int .i64 0, .slice none 0 0, .slice none 0 0, .slice none 0 0, .slice none 0 0, .slice none 0 0]) := hb3.below hb4
       have hR4 : Hid (Rd w4 B S r2) := hR3.out.below hb4
       have hB4 : Bes B w w4 := hB3.below hb4
       clear hz0 hb4
       refine hK.out _ _ trivial (fun _ => ?_)
       clear hK K
       try simp only [sx]
       obtain ⟨⟨mk0, mk1, mk2, mk3, mk4, mk5, mk6, mk7⟩, mz0, mz1, mz2, mz3, mz4, mz5, mz6, mz7⟩ := hl4.e8
       refine wpAnyH_ready (rs := [6]) (by kernel_rfl) (by simp) (AllReadyH.cons rfl (fun K hK => ?_) AllReadyH.nil)
       go_simp
       refine hK.out _ _ trivial (fun _ => ?_)
       clear hK K
       try simp only [sx]
       refine wpAnyH_done (by kernel_rfl) ?_ _
       go_wp2
       go_roundw
       case rel =>
        refine ⟨k, max n p + 1, r2, Gr.binN 1 x b, [.int .i64 zi, .int .i64 zj, .int .i64 zk, .slice za zn zc, .slice zd0 zm0 ze0, .slice zd1 zm1 ze1, .slice zd2 zm2 ze2, .slice zd3 zm3 ze3], ⟨by omega, HK.out⟩, ⟨?_, ?_⟩, ?_, ?_, ?_⟩
        ·
         refine Bx.of8 ?_ ?_ ?_ ?_ ?_ ?_ ?_ ?_ ?_ ?_ ?_ ?_ ?_ ?_ ?_ ?_ <;> simp [go_sem, mk0, mk1, mk2, mk3, mk4, mk5, mk6, mk7, mz0, mz1, mz2, mz3, mz4, mz5, mz6, mz7]
        ·
         refine Save.atx (w := w4) ?_ hz4.out
         simp only [sv]
        ·
         refine Bx.save (M := L) hbx4.out ?_ (by omega)
         simp only [sv]
        ·
         refine Rd.save (b := L) hR4.out ?_ (by omega)
         simp only [sv]
        ·
         refine Bes.save (b := L) hB4 ?_ (by omega)
         simp only [sv]
       case measure =>
        refine Gr.less (Rd.left (Rd.save (b := L) hR4.out ?_ (by omega))) ?_
        ·
         simp only [sv]
        ·
         rw [hR.out.left]; exact HLen.out
      ·
       go_simp
       refine (qG.out _ (hR2.out.below (Below.refl _ _).drew)).mono ?_
       rintro e w3 ⟨⟨us2, p, rfl, hb0⟩, hRR, hBB⟩
       obtain ⟨yi, yj, yk, ya, yn, yc, yd0, ym0, ye0, yd1, ym1, ye1, yd2, ym2, ye2, yd3, ym3, ye3, rfl⟩ := hb0.exp_form
       have hPF : Bes B w2 w3 := (Bes.of_below (B := B) (Below.refl _ _).drew).trans hBB
       have hy3 : Hid (At w3 (Gx (w.heap.size + 1) L) p 2 [.int .i64 yi, .int .i64 yj, .int .i64 yk, .slice ya yn yc, .slice yd0 ym0 ye0, .slice yd1 ym1 ye1, .slice yd2 ym2 ye2, .slice yd3 ym3 ye3] b) := At.gx2 hb0 (by simp; omega) (by simp; omega)
       have hx3 : Hid (At w3 (Gx (w.heap.size + 1) L) n 2 [.int .i64 xi, .int .i64 xj, .int .i64 xk, .slice xa xn xc, .slice xd0 xm0 xe0, .slice xd1 xm1 xe1, .slice xd2 xm2 xe2, .slice xd3 xm3 xe3] x) := hPF.atx (by omega) hx2.out
       have hl3 := hl2.bes hPF (by omega)
       have hb3 := hb2.bes hPF (by omega)
       have hR3 : Hid (Rd w3 B S r2) := hRR
       have hB3 : Bes B w w3 := hB2.trans hPF
       have hl3lt := hl3.lt
       obtain ⟨⟨nk0, nk1, nk2, nk3, nk4, nk5, nk6, nk7⟩, nz0, nz1, nz2, nz3, nz4, nz5, nz6, nz7⟩ := hl3.e8
       clear hBB hRR hb0 hPF
       refine hK.out _ _ trivial (fun _ => ?_)
       clear hK K
       try simp only [sx]
       refine wpAnyH_ready (rs := [1]) (by kernel_rfl) (by simp) (AllReadyH.cons rfl (fun K hK => ?_) AllReadyH.nil)
       go_simp
       refine hK.out _ _ trivial (fun _ => ?_)
       clear hK K
       try simp only [sx]
       refine wpAnyH_ready (rs := [5]) (by kernel_rfl) (by simp) (AllReadyH.cons rfl (fun K hK => ?_) AllReadyH.nil)
       go_simp
       refine (gr_binary w3 (Gx (w.heap.size + 1) L) n p 1 [.int .i64 xi, .int .i64 xj, .int .i64 xk, .slice xa xn xc, .slice xd0 xm0 xe0, .slice xd1 xm1 xe1, .slice xd2 xm2 xe2, .slice xd3 xm3 xe3] [.int .i64 yi, .int .i64 yj, .int .i64 yk, .slice ya yn yc, .slice yd0 ym0 ye0, .slice yd1 ym1 ye1, .slice yd2 ym2 ye2, .slice yd3 ym3 ye3] x b (by decide) hx3.out hy3.out (fun b hb => ⟨by omega, by omega⟩)).mono ?_
       rintro e w4 ⟨⟨vs4, rfl, hz0⟩, hb4⟩
       obtain ⟨zi, zj, zk, za, zn, zc, zd0, zm0, ze0, zd1, zm1, ze1, zd2, zm2, ze2, zd3, zm3, ze3, rfl⟩ := hz0.exp_form
       have hz4 : Hid (At w4 (Gx (w.heap.size + 1) L) (max n p + 1) 2 [.int .i64 zi, .int .i64 zj, .int .i64 zk, .slice za zn zc, .slice zd0 zm0 ze0, .slice zd1 zm1 ze1, .slice zd2 zm2 ze2, .slice zd3 zm3 ze3] (Gr.binN 1 x b)) := hz0
       have hl4 := hl3.below hb4
       have hbx4 : Hid (Bx w4 w.heap.size [.int .i64 0, .int .i64 0, .int .i64 0, .slice none 0 0, .slice none 0 0, .slice none 0 0, .slice none 0 0, .slice none 0 0]) := hb3.below hb4
       have hR4 : Hid (Rd w4 B S r2) := hR3.out.below hb4
       have hB4 : Bes B w w4 := hB3.below hb4
       clear hz0 hb4
       refine hK.out _ _ trivial (fun _ => ?_)
       clear hK K
       try simp only [sx]
       obtain ⟨⟨mk0, mk1, mk2, mk3, mk4, mk5, mk6, mk7⟩, mz0, mz1, mz2, mz3, mz4, mz5, mz6, mz7⟩ := hl4.e8
       refine wpAnyH_ready (rs := [6]) (by kernel_rfl) (by simp) (AllReadyH.cons rfl (fun K hK => ?_) AllReadyH.nil)
       go_simp
       refine hK.out _ _ trivial (fun _ => ?_)
       clear hK K
       try simp only [sx]
       refine wpAnyH_done (by kernel_rfl) ?_ _
       go_wp2
       go_roundw
       case rel =>
        refine ⟨k, max n p + 1, r2, Gr.binN 1 x b, [.int .i64 zi, .int .i64 zj, .int .i64 zk, .slice za zn zc, .slice zd0 zm0 ze0, .slice zd1 zm1 ze1, .slice zd2 zm2 ze2, .slice zd3 zm3 ze3], ⟨by omega, HK.out⟩, ⟨?_, ?_⟩, ?_, ?_, ?_⟩
        ·
         refine Bx.of8 ?_ ?_ ?_ ?_ ?_ ?_ ?_ ?_ ?_ ?_ ?_ ?_ ?_ ?_ ?_ ?_ <;> simp [go_sem, mk0, mk1, mk2, mk3, mk4, mk5, mk6, mk7, mz0, mz1, mz2, mz3, mz4, mz5, mz6, mz7]
        ·
         refine Save.atx (w := w4) ?_ hz4.out
         simp only [sv]
        ·
         refine Bx.save (M := L) hbx4.out ?_ (by omega)
         simp only [sv]
        ·
         refine Rd.save (b := L) hR4.out ?_ (by omega)
         simp only [sv]
        ·
         refine Bes.save (b := L) hB4 ?_ (by omega)
         simp only [sv]
       case measure =>
        refine Gr.less (Rd.left (Rd.save (b := L) hR4.out ?_ (by omega))) ?_
        ·
         simp only [sv]
        ·
         rw [hR.out.left]; exact HLen.out
    | false =>
     rw [hT43] at hk0
     simp only [Bool.false_eq_true, if_false] at hk0
     cases hT45 : Gr.isT [45] us with
     | true =>
      rw [hT45] at hk0
      simp only [if_true] at hk0
      cases hG : Gr.g k .prod us.tail with
      | out => rw [hG] at hk0; exact absurd hk0 HN.out
      | bad r2 c =>
       have HK : Hid (Gr.g f (.sumGo a) r = .bad r2 c) := by show _ = _; rw [hk0, hG]; rfl
       have qG : Hid (∀ W, Rd W B S us.tail → Calls Tryz.prog 67 #[.pointer (some ⟨B, 0, none⟩)] W (Gr.Ans B S 2 W (.bad r2 c))) := fun W hW => by rw [← hG]; exact ihP k (by omega) W B S us.tail hW (by rw [hG]; simp)
       have qO : Hid (Calls Tryz.prog 39 #[.pointer (some ⟨B, 0, none⟩), .slice (some ⟨lb, 0, none⟩) 2 2] wr fun e w' => e = .returned (.int .i64 2) ∧ Rd w' B S us.tail ∧ Bes B wr w') := gr_op_yes wr B S us hR.out lb _ _ HC0.out HC1.out (by rw [show Gr.isT (⟨#[45]⟩ : ByteArray).data.toList us = true from hT45]; simp) 45 (by decide) (Gr.isT_hd hT45)
       clear hk0 hK HN ihP hG HC HC0 HC1
       go_wp2_with (go_at_call 39; refine (qO.out).mono ?_; rintro e w2 ⟨rfl, hRR, hBB⟩; have hR2 : Hid (Rd w2 B S us.tail) := hRR; have hb2 := hbx.out.bes hBB (by omega); have hl2 := hbl.out.bes hBB (by omega); have hlw2 := hb2.lt; have hll := hl2.lt; have hx2 : Hid (At w2 (Gx (w.heap.size + 1) L) n 2 [.int .i64 xi, .int .i64 xj, .int .i64 xk, .slice xa xn xc, .slice xd0 xm0 xe0, .slice xd1 xm1 xe1, .slice xd2 xm2 xe2, .slice xd3 xm3 xe3] x) := hBB.atx (by omega) hx.out; have hB2 : Bes B w w2 := hB.trans hBB; obtain ⟨⟨k0, k1, k2, k3, k4, k5, k6, k7⟩, z0, z1, z2, z3, z4, z5, z6, z7⟩ := hb2.e8; obtain ⟨⟨lk0, lk1, lk2, lk3, lk4, lk5, lk6, lk7⟩, lz0, lz1, lz2, lz3, lz4, lz5, lz6, lz7⟩ := hl2.e8; clear hRR hBB)
       refine wp_region_held_drew (S := fun wz => Bx wz L [.int .i64 xi, .int .i64 xj, .int .i64 xk, .slice xa xn xc, .slice xd0 xm0 xe0, .slice xd1 xm1 xe1, .slice xd2 xm2 xe2, .slice xd3 xm3 xe3]) rfl (hl2.below (Below.refl _ _).drew) (fun hS => ?_)
       refine wpAnyH_take (i := 0) (v := ?_) rfl (by kernel_rfl) (by kernel_rfl) (by kernel_rfl) (fun _ _ _ h => h) (Or.inl ⟨by rfl, ?_⟩) hS ?_
       rotate_left
       ·
        intro wz hz; go_simp; try with_reducible rfl
       try simp only [sx]
       refine wpAnyH_take (i := 1) (v := ?_) rfl (by kernel_rfl) (by kernel_rfl) (by kernel_rfl) (fun _ _ _ h => h) (Or.inl ⟨by rfl, ?_⟩) hS ?_
       rotate_left
       ·
        intro wz hz; obtain ⟨⟨yk0, yk1, yk2, yk3, yk4, yk5, yk6, yk7⟩, -⟩ := hz.e8; go_simp; try with_reducible rfl
       try simp only [sx]
       refine wpAnyH_take (i := 2) (v := ?_) rfl (by kernel_rfl) (by kernel_rfl) (by kernel_rfl) (fun _ _ _ h => h) (Or.inl ⟨by rfl, ?_⟩) hS ?_
       rotate_left
       ·
        intro wz hz; go_simp; try with_reducible rfl
       try simp only [sx]
       refine wpAnyH_take (i := 3) (v := ?_) rfl (by kernel_rfl) (by kernel_rfl) (by kernel_rfl) (fun _ _ _ h => h) (Or.inl ⟨by rfl, ?_⟩) hS ?_
       rotate_left
       ·
        intro wz hz; go_simp; try with_reducible rfl
       try simp only [sx]
       refine wpAnyH_ready (rs := [4]) (by kernel_rfl) (by simp) (AllReadyH.cons rfl (fun K hK => ?_) AllReadyH.nil)
       go_simp
       refine (qG.out _ (hR2.out.below (Below.refl _ _).drew)).mono ?_
       rintro e w3 ⟨rfl, hR3, hB3⟩
       refine ⟨rfl, ?_⟩
       rw [HK.out]
       exact ⟨rfl, hR3, hB2.drew.trans hB3⟩
      | ok b r2 =>
       have HK : Hid (Gr.g f (.sumGo a) r = Gr.g k (.sumGo (Gr.binN 2 x b)) r2) := by show _ = _; rw [hk0, hG]; rfl
       have qG : Hid (∀ W, Rd W B S us.tail → Calls Tryz.prog 67 #[.pointer (some ⟨B, 0, none⟩)] W (Gr.Ans B S 2 W (.ok b r2))) := fun W hW => by rw [← hG]; exact ihP k (by omega) W B S us.tail hW (by rw [hG]; simp)
       have qO : Hid (Calls Tryz.prog 39 #[.pointer (some ⟨B, 0, none⟩), .slice (some ⟨lb, 0, none⟩) 2 2] wr fun e w' => e = .returned (.int .i64 2) ∧ Rd w' B S us.tail ∧ Bes B wr w') := gr_op_yes wr B S us hR.out lb _ _ HC0.out HC1.out (by rw [show Gr.isT (⟨#[45]⟩ : ByteArray).data.toList us = true from hT45]; simp) 45 (by decide) (Gr.isT_hd hT45)
       have HLen : Hid (r2.length < us.length) := by show _ < _; have := Gr.ok_len hG; have := Gr.isT_len hT45; omega
       clear hk0 hK ihP hG HC0 HC1
       go_wp2_with (go_at_call 39; refine (qO.out).mono ?_; rintro e w2 ⟨rfl, hRR, hBB⟩; have hR2 : Hid (Rd w2 B S us.tail) := hRR; have hb2 := hbx.out.bes hBB (by omega); have hl2 := hbl.out.bes hBB (by omega); have hlw2 := hb2.lt; have hll := hl2.lt; have hx2 : Hid (At w2 (Gx (w.heap.size + 1) L) n 2 [.int .i64 xi, .int .i64 xj, .int .i64 xk, .slice xa xn xc, .slice xd0 xm0 xe0, .slice xd1 xm1 xe1, .slice xd2 xm2 xe2, .slice xd3 xm3 xe3] x) := hBB.atx (by omega) hx.out; have hB2 : Bes B w w2 := hB.trans hBB; obtain ⟨⟨k0, k1, k2, k3, k4, k5, k6, k7⟩, z0, z1, z2, z3, z4, z5, z6, z7⟩ := hb2.e8; obtain ⟨⟨lk0, lk1, lk2, lk3, lk4, lk5, lk6, lk7⟩, lz0, lz1, lz2, lz3, lz4, lz5, lz6, lz7⟩ := hl2.e8; clear hRR hBB)
       refine wp_region_held_drew (S := fun wz => True) rfl (trivial) (fun hS => ?_)
       refine wpAnyH_take (i := 0) (v := ?_) rfl (by kernel_rfl) (by kernel_rfl) (by kernel_rfl) (fun _ _ _ h => h) (Or.inl ⟨by rfl, ?_⟩) hS ?_
       rotate_left
       ·
        intro wz hz; go_simp; try with_reducible rfl
       try simp only [sx]
       refine wpAnyH_take (i := 2) (v := ?_) rfl (by kernel_rfl) (by kernel_rfl) (by kernel_rfl) (fun _ _ _ h => h) (Or.inl ⟨by rfl, ?_⟩) hS ?_
       rotate_left
       ·
        intro wz hz; go_simp; try with_reducible rfl
       try simp only [sx]
       refine wpAnyH_take (i := 3) (v := ?_) rfl (by kernel_rfl) (by kernel_rfl) (by kernel_rfl) (fun _ _ _ h => h) (Or.inl ⟨by rfl, ?_⟩) hS ?_
       rotate_left
       ·
        intro wz hz; go_simp; try with_reducible rfl
       try simp only [sx]
       refine wpAnyH_ready (rs := [1, 4]) (by kernel_rfl) (by simp) (AllReadyH.cons rfl (fun K hK => ?_) (AllReadyH.cons rfl (fun K hK => ?_) AllReadyH.nil))
       ·
        go_simp
        refine hK.out _ _ trivial (fun _ => ?_)
        clear hK K
        try simp only [sx]
        refine wpAnyH_ready (rs := [4]) (by kernel_rfl) (by simp) (AllReadyH.cons rfl (fun K hK => ?_) AllReadyH.nil)
        go_simp
        refine (qG.out _ (hR2.out.below (Below.refl _ _).drew)).mono ?_
        rintro e w3 ⟨⟨us2, p, rfl, hb0⟩, hRR, hBB⟩
        obtain ⟨yi, yj, yk, ya, yn, yc, yd0, ym0, ye0, yd1, ym1, ye1, yd2, ym2, ye2, yd3, ym3, ye3, rfl⟩ := hb0.exp_form
        have hPF : Bes B w2 w3 := (Bes.of_below (B := B) (Below.refl _ _).drew).trans hBB
        have hy3 : Hid (At w3 (Gx (w.heap.size + 1) L) p 2 [.int .i64 yi, .int .i64 yj, .int .i64 yk, .slice ya yn yc, .slice yd0 ym0 ye0, .slice yd1 ym1 ye1, .slice yd2 ym2 ye2, .slice yd3 ym3 ye3] b) := At.gx2 hb0 (by simp; omega) (by simp; omega)
        have hx3 : Hid (At w3 (Gx (w.heap.size + 1) L) n 2 [.int .i64 xi, .int .i64 xj, .int .i64 xk, .slice xa xn xc, .slice xd0 xm0 xe0, .slice xd1 xm1 xe1, .slice xd2 xm2 xe2, .slice xd3 xm3 xe3] x) := hPF.atx (by omega) hx2.out
        have hl3 := hl2.bes hPF (by omega)
        have hb3 := hb2.bes hPF (by omega)
        have hR3 : Hid (Rd w3 B S r2) := hRR
        have hB3 : Bes B w w3 := hB2.trans hPF
        have hl3lt := hl3.lt
        obtain ⟨⟨nk0, nk1, nk2, nk3, nk4, nk5, nk6, nk7⟩, nz0, nz1, nz2, nz3, nz4, nz5, nz6, nz7⟩ := hl3.e8
        clear hBB hRR hb0 hPF
        refine hK.out _ _ trivial (fun _ => ?_)
        clear hK K
        try simp only [sx]
        refine wpAnyH_ready (rs := [5]) (by kernel_rfl) (by simp) (AllReadyH.cons rfl (fun K hK => ?_) AllReadyH.nil)
        go_simp
        refine (gr_binary w3 (Gx (w.heap.size + 1) L) n p 2 [.int .i64 xi, .int .i64 xj, .int .i64 xk, .slice xa xn xc, .slice xd0 xm0 xe0, .slice xd1 xm1 xe1, .slice xd2 xm2 xe2, .slice xd3 xm3 xe3] [.int .i64 yi, .int .i64 yj, .int .i64 yk, .slice ya yn yc, .slice yd0 ym0 ye0, .slice yd1 ym1 ye1, .slice yd2 ym2 ye2, .slice yd3 ym3 ye3] x b (by decide) hx3.out hy3.out (fun b hb => ⟨by omega, by omega⟩)).mono ?_
        rintro e w4 ⟨⟨vs4, rfl, hz0⟩, hb4⟩
        obtain ⟨zi, zj, zk, za, zn, zc, zd0, zm0, ze0, zd1, zm1, ze1, zd2, zm2, ze2, zd3, zm3, ze3, rfl⟩ := hz0.exp_form
        have hz4 : Hid (At w4 (Gx (w.heap.size + 1) L) (max n p + 1) 2 [.int .i64 zi, .int .i64 zj, .int .i64 zk, .slice za zn zc, .slice zd0 zm0 ze0, .slice zd1 zm1 ze1, .slice zd2 zm2 ze2, .slice zd3 zm3 ze3] (Gr.binN 2 x b)) := hz0
        have hl4 := hl3.below hb4
        have hbx4 : Hid (Bx w4 w.heap.size [.int .i64 0, .int .i64 0, .int .i64 0, .slice none 0 0, .slice none 0 0, .slice none 0 0, .slice none 0 0, .slice none 0 0]) := hb3.below hb4
        have hR4 : Hid (Rd w4 B S r2) := hR3.out.below hb4
        have hB4 : Bes B w w4 := hB3.below hb4
        clear hz0 hb4
        refine hK.out _ _ trivial (fun _ => ?_)
        clear hK K
        try simp only [sx]
        obtain ⟨⟨mk0, mk1, mk2, mk3, mk4, mk5, mk6, mk7⟩, mz0, mz1, mz2, mz3, mz4, mz5, mz6, mz7⟩ := hl4.e8
        refine wpAnyH_ready (rs := [6]) (by kernel_rfl) (by simp) (AllReadyH.cons rfl (fun K hK => ?_) AllReadyH.nil)
        go_simp
        refine hK.out _ _ trivial (fun _ => ?_)
        clear hK K
        try simp only [sx]
        refine wpAnyH_done (by kernel_rfl) ?_ _
        go_wp2
        go_roundw
        case rel =>
         refine ⟨k, max n p + 1, r2, Gr.binN 2 x b, [.int .i64 zi, .int .i64 zj, .int .i64 zk, .slice za zn zc, .slice zd0 zm0 ze0, .slice zd1 zm1 ze1, .slice zd2 zm2 ze2, .slice zd3 zm3 ze3], ⟨by omega, HK.out⟩, ⟨?_, ?_⟩, ?_, ?_, ?_⟩
         ·
          refine Bx.of8 ?_ ?_ ?_ ?_ ?_ ?_ ?_ ?_ ?_ ?_ ?_ ?_ ?_ ?_ ?_ ?_ <;> simp [go_sem, mk0, mk1, mk2, mk3, mk4, mk5, mk6, mk7, mz0, mz1, mz2, mz3, mz4, mz5, mz6, mz7]
         ·
          refine Save.atx (w := w4) ?_ hz4.out
          simp only [sv]
         ·
          refine Bx.save (M := L) hbx4.out ?_ (by omega)
          simp only [sv]
         ·
          refine Rd.save (b := L) hR4.out ?_ (by omega)
          simp only [sv]
         ·
          refine Bes.save (b := L) hB4 ?_ (by omega)
          simp only [sv]
        case measure =>
         refine Gr.less (Rd.left (Rd.save (b := L) hR4.out ?_ (by omega))) ?_
         ·
          simp only [sv]
         ·
          rw [hR.out.left]; exact HLen.out
       ·
        go_simp
        refine (qG.out _ (hR2.out.below (Below.refl _ _).drew)).mono ?_
        rintro e w3 ⟨⟨us2, p, rfl, hb0⟩, hRR, hBB⟩
        obtain ⟨yi, yj, yk, ya, yn, yc, yd0, ym0, ye0, yd1, ym1, ye1, yd2, ym2, ye2, yd3, ym3, ye3, rfl⟩ := hb0.exp_form
        have hPF : Bes B w2 w3 := (Bes.of_below (B := B) (Below.refl _ _).drew).trans hBB
        have hy3 : Hid (At w3 (Gx (w.heap.size + 1) L) p 2 [.int .i64 yi, .int .i64 yj, .int .i64 yk, .slice ya yn yc, .slice yd0 ym0 ye0, .slice yd1 ym1 ye1, .slice yd2 ym2 ye2, .slice yd3 ym3 ye3] b) := At.gx2 hb0 (by simp; omega) (by simp; omega)
        have hx3 : Hid (At w3 (Gx (w.heap.size + 1) L) n 2 [.int .i64 xi, .int .i64 xj, .int .i64 xk, .slice xa xn xc, .slice xd0 xm0 xe0, .slice xd1 xm1 xe1, .slice xd2 xm2 xe2, .slice xd3 xm3 xe3] x) := hPF.atx (by omega) hx2.out
        have hl3 := hl2.bes hPF (by omega)
        have hb3 := hb2.bes hPF (by omega)
        have hR3 : Hid (Rd w3 B S r2) := hRR
        have hB3 : Bes B w w3 := hB2.trans hPF
        have hl3lt := hl3.lt
        obtain ⟨⟨nk0, nk1, nk2, nk3, nk4, nk5, nk6, nk7⟩, nz0, nz1, nz2, nz3, nz4, nz5, nz6, nz7⟩ := hl3.e8
        clear hBB hRR hb0 hPF
        refine hK.out _ _ trivial (fun _ => ?_)
        clear hK K
        try simp only [sx]
        refine wpAnyH_ready (rs := [1]) (by kernel_rfl) (by simp) (AllReadyH.cons rfl (fun K hK => ?_) AllReadyH.nil)
        go_simp
        refine hK.out _ _ trivial (fun _ => ?_)
        clear hK K
        try simp only [sx]
        refine wpAnyH_ready (rs := [5]) (by kernel_rfl) (by simp) (AllReadyH.cons rfl (fun K hK => ?_) AllReadyH.nil)
        go_simp
        refine (gr_binary w3 (Gx (w.heap.size + 1) L) n p 2 [.int .i64 xi, .int .i64 xj, .int .i64 xk, .slice xa xn xc, .slice xd0 xm0 xe0, .slice xd1 xm1 xe1, .slice xd2 xm2 xe2, .slice xd3 xm3 xe3] [.int .i64 yi, .int .i64 yj, .int .i64 yk, .slice ya yn yc, .slice yd0 ym0 ye0, .slice yd1 ym1 ye1, .slice yd2 ym2 ye2, .slice yd3 ym3 ye3] x b (by decide) hx3.out hy3.out (fun b hb => ⟨by omega, by omega⟩)).mono ?_
        rintro e w4 ⟨⟨vs4, rfl, hz0⟩, hb4⟩
        obtain ⟨zi, zj, zk, za, zn, zc, zd0, zm0, ze0, zd1, zm1, ze1, zd2, zm2, ze2, zd3, zm3, ze3, rfl⟩ := hz0.exp_form
        have hz4 : Hid (At w4 (Gx (w.heap.size + 1) L) (max n p + 1) 2 [.int .i64 zi, .int .i64 zj, .int .i64 zk, .slice za zn zc, .slice zd0 zm0 ze0, .slice zd1 zm1 ze1, .slice zd2 zm2 ze2, .slice zd3 zm3 ze3] (Gr.binN 2 x b)) := hz0
        have hl4 := hl3.below hb4
        have hbx4 : Hid (Bx w4 w.heap.size [.int .i64 0, .int .i64 0, .int .i64 0, .slice none 0 0, .slice none 0 0, .slice none 0 0, .slice none 0 0, .slice none 0 0]) := hb3.below hb4
        have hR4 : Hid (Rd w4 B S r2) := hR3.out.below hb4
        have hB4 : Bes B w w4 := hB3.below hb4
        clear hz0 hb4
        refine hK.out _ _ trivial (fun _ => ?_)
        clear hK K
        try simp only [sx]
        obtain ⟨⟨mk0, mk1, mk2, mk3, mk4, mk5, mk6, mk7⟩, mz0, mz1, mz2, mz3, mz4, mz5, mz6, mz7⟩ := hl4.e8
        refine wpAnyH_ready (rs := [6]) (by kernel_rfl) (by simp) (AllReadyH.cons rfl (fun K hK => ?_) AllReadyH.nil)
        go_simp
        refine hK.out _ _ trivial (fun _ => ?_)
        clear hK K
        try simp only [sx]
        refine wpAnyH_done (by kernel_rfl) ?_ _
        go_wp2
        go_roundw
        case rel =>
         refine ⟨k, max n p + 1, r2, Gr.binN 2 x b, [.int .i64 zi, .int .i64 zj, .int .i64 zk, .slice za zn zc, .slice zd0 zm0 ze0, .slice zd1 zm1 ze1, .slice zd2 zm2 ze2, .slice zd3 zm3 ze3], ⟨by omega, HK.out⟩, ⟨?_, ?_⟩, ?_, ?_, ?_⟩
         ·
          refine Bx.of8 ?_ ?_ ?_ ?_ ?_ ?_ ?_ ?_ ?_ ?_ ?_ ?_ ?_ ?_ ?_ ?_ <;> simp [go_sem, mk0, mk1, mk2, mk3, mk4, mk5, mk6, mk7, mz0, mz1, mz2, mz3, mz4, mz5, mz6, mz7]
         ·
          refine Save.atx (w := w4) ?_ hz4.out
          simp only [sv]
         ·
          refine Bx.save (M := L) hbx4.out ?_ (by omega)
          simp only [sv]
         ·
          refine Rd.save (b := L) hR4.out ?_ (by omega)
          simp only [sv]
         ·
          refine Bes.save (b := L) hB4 ?_ (by omega)
          simp only [sv]
        case measure =>
         refine Gr.less (Rd.left (Rd.save (b := L) hR4.out ?_ (by omega))) ?_
         ·
          simp only [sv]
         ·
          rw [hR.out.left]; exact HLen.out
     | false =>
      have HK : Hid (Gr.g f (.sumGo a) r = .ok x us) := by show _ = _; rw [hk0, hT45]; rfl
      have qO : Hid (Calls Tryz.prog 39 #[.pointer (some ⟨B, 0, none⟩), .slice (some ⟨lb, 0, none⟩) 2 2] wr fun e w' => e = .returned (.int .i64 0) ∧ Rd w' B S us ∧ Bes B wr w') := gr_op_no wr B S us hR.out lb _ _ HC0.out HC1.out hT43 hT45
      clear hk0 hK HN ihP HC HC0 HC1
      go_wp2_with (go_at_call 39; refine (qO.out).mono ?_; rintro e w2 ⟨rfl, hRR, hBB⟩; have hR2 : Hid (Rd w2 B S us) := hRR; have hb2 := hbx.out.bes hBB (by omega); have hl2 := hbl.out.bes hBB (by omega); have hlw2 := hb2.lt; have hll := hl2.lt; have hx2 : Hid (At w2 (Gx (w.heap.size + 1) L) n 2 [.int .i64 xi, .int .i64 xj, .int .i64 xk, .slice xa xn xc, .slice xd0 xm0 xe0, .slice xd1 xm1 xe1, .slice xd2 xm2 xe2, .slice xd3 xm3 xe3] x) := hBB.atx (by omega) hx.out; have hB2 : Bes B w w2 := hB.trans hBB; obtain ⟨⟨k0, k1, k2, k3, k4, k5, k6, k7⟩, z0, z1, z2, z3, z4, z5, z6, z7⟩ := hb2.e8; obtain ⟨⟨lk0, lk1, lk2, lk3, lk4, lk5, lk6, lk7⟩, lz0, lz1, lz2, lz3, lz4, lz5, lz6, lz7⟩ := hl2.e8; clear hRR hBB)
      refine bodyPost_ret (v := .agg #[.int .i64 xi, .int .i64 xj, .int .i64 xk, .slice xa xn xc, .slice xd0 xm0 xe0, .slice xd1 xm1 xe1, .slice xd2 xm2 xe2, .slice xd3 xm3 xe3]) (by rw [results_cell1 (fn := Tryz.f66) (p := 6) (ty := 28) (by kernel_rfl)]; simp [go_sem, k0, k1, k2, k3, k4, k5, k6, k7]) rfl ?_
      rw [HK.out]
      exact Gr.Ans.mk hlt (by simp only [sv]) hR2.out hB2 hx2.out.ge
end Go.Proofs.YtjebepnphoeiaabGreatDoor
