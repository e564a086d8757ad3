/- Nodes laid anew, sort by sort. -/
import Derived.Test.YtgiegjghldhppabGreatNdY2
namespace Go.Proofs.YtgiegjghldhppabGreat
open Go.RowKit
set_option linter.unusedVariables false

set_option maxHeartbeats 1000000 in
theorem fresh0 (n : Nat) (q0 : FreshLOf 26 27 n 0) : FreshOf 27 (n + 1) 0 := by
  intro w K b o vs nd hK hc ha hf hw
  obtain ⟨i0, s1, p2, x2, v0, l0, rfl, rfl, a0, a1, ⟨a2, b2, e2⟩, k0⟩ := At.ty ha
  clear ha
  simp only [Nd.wt, Nd.wtLL, Sc.wtL, Sc.wt] at hw
  have F0 := Fs.start hc (by simp) hf
  clear hc hf
  have r0 : Hid (∀ W, Keeps K w W → _) := fun W hk => cloneS W K p2 x2 (a2.move hk (fun _ h => h)) (by omega)
  have r1 : Hid (∀ W, Keeps K w W → _) := fun W hk => q0 W K v0 l0 (k0.move hk (fun _ h => h)) (by omega)
  clear k0 q0 a2 hw
  have d0 := F0.get 2 rfl
  go_enter Tryz.func27, Tryz.ntmps27
  go_wp2_with (first
    | (go_at_call 26; refine (r1.out _ (F1.keeps hK)).mono ?_; rintro e w2 ⟨u1, rfl, hL, hb, -⟩; obtain ⟨y1, z1, rfl, -⟩ := hL.form; have G1 := Fs.add (F1.call hb) (hL.move (Keeps.refl _ _) (Frm.le F1.bes.size)); have g1 := G1.get 3 rfl; have t1 := G1.thaw 3 (by simp); have F2 := G1.set 3 (by simp) (.slice y1 l0.length z1); clear F1 G1 hb hL r1)
    | (go_at_call 25; refine (r0.out _ (F0.keeps hK)).mono ?_; rintro e w1 ⟨u0, rfl, hL, hb⟩; obtain ⟨y0, z0, rfl⟩ := hL.form; have G0 := Fs.addTx (F0.call hb) (hL.move (Keeps.refl _ _) (Frm.le F0.bes.size)); have g0 := G0.get 2 rfl; have t0 := G0.thaw 2 (by simp); have F1 := G0.set 2 (by simp) (.slice y0 x2.length z0); clear F0 G0 hb hL r0; have d1 := F1.get 3 rfl))
  go_end0
  obtain ⟨L0, T2, -⟩ := F2.p
  exact ⟨rfl, _, by rfl, At.ty_mk a0 a1 T2 b2 e2 L0, (fun h => by first | rfl | (exfalso; revert h; decide)), F2.drop⟩

set_option maxHeartbeats 1000000 in
theorem fresh1 (n : Nat) (q1 : FreshLOf 64 65 n 1) : FreshOf 65 (n + 1) 1 := by
  intro w K b o vs nd hK hc ha hf hw
  obtain ⟨i0, s1, p2, x2, i3, v0, l0, rfl, rfl, a0, a1, ⟨a2, b2, e2⟩, a3, k0⟩ := At.pat ha
  clear ha
  simp only [Nd.wt, Nd.wtLL, Sc.wtL, Sc.wt] at hw
  have F0 := Fs.start hc (by simp) hf
  clear hc hf
  have r0 : Hid (∀ W, Keeps K w W → _) := fun W hk => cloneS W K p2 x2 (a2.move hk (fun _ h => h)) (by omega)
  have r1 : Hid (∀ W, Keeps K w W → _) := fun W hk => q1 W K v0 l0 (k0.move hk (fun _ h => h)) (by omega)
  clear k0 q1 a2 hw
  have d0 := F0.get 2 rfl
  go_enter Tryz.func65, Tryz.ntmps65
  go_wp2_with (first
    | (go_at_call 64; refine (r1.out _ (F1.keeps hK)).mono ?_; rintro e w2 ⟨u1, rfl, hL, hb, -⟩; obtain ⟨y1, z1, rfl, -⟩ := hL.form; have G1 := Fs.add (F1.call hb) (hL.move (Keeps.refl _ _) (Frm.le F1.bes.size)); have g1 := G1.get 4 rfl; have t1 := G1.thaw 4 (by simp); have F2 := G1.set 4 (by simp) (.slice y1 l0.length z1); clear F1 G1 hb hL r1)
    | (go_at_call 25; refine (r0.out _ (F0.keeps hK)).mono ?_; rintro e w1 ⟨u0, rfl, hL, hb⟩; obtain ⟨y0, z0, rfl⟩ := hL.form; have G0 := Fs.addTx (F0.call hb) (hL.move (Keeps.refl _ _) (Frm.le F0.bes.size)); have g0 := G0.get 2 rfl; have t0 := G0.thaw 2 (by simp); have F1 := G0.set 2 (by simp) (.slice y0 x2.length z0); clear F0 G0 hb hL r0; have d1 := F1.get 4 rfl))
  go_end0
  obtain ⟨L0, T2, -⟩ := F2.p
  exact ⟨rfl, _, by rfl, At.pat_mk a0 a1 T2 b2 e2 a3 L0, (fun h => by first | rfl | (exfalso; revert h; decide)), F2.drop⟩

set_option maxHeartbeats 1000000 in
theorem fresh2 (n : Nat) (q1 : FreshLOf 64 65 n 1) (q2 : FreshLOf 28 29 n 2) (q3 : FreshLOf 11 12 n 3) (q0 : FreshLOf 26 27 n 0) : FreshOf 29 (n + 1) 2 := by
  intro w K b o vs nd hK hc ha hf hw
  obtain ⟨i0, i1, i2, p3, x3, v0, l0, v1, l1, v2, l2, v3, l3, rfl, rfl, a0, a1, a2, ⟨a3, b3, e3⟩, k0, k1, k2, k3⟩ := At.exp ha
  clear ha
  simp only [Nd.wt, Nd.wtLL, Sc.wtL, Sc.wt] at hw
  have F0 := Fs.start hc (by simp) hf
  clear hc hf
  have r0 : Hid (∀ W, Keeps K w W → _) := fun W hk => cloneS W K p3 x3 (a3.move hk (fun _ h => h)) (by omega)
  have r1 : Hid (∀ W, Keeps K w W → _) := fun W hk => q1 W K v0 l0 (k0.move hk (fun _ h => h)) (by omega)
  have r2 : Hid (∀ W, Keeps K w W → _) := fun W hk => q2 W K v1 l1 (k1.move hk (fun _ h => h)) (by omega)
  have r3 : Hid (∀ W, Keeps K w W → _) := fun W hk => q3 W K v2 l2 (k2.move hk (fun _ h => h)) (by omega)
  have r4 : Hid (∀ W, Keeps K w W → _) := fun W hk => q0 W K v3 l3 (k3.move hk (fun _ h => h)) (by omega)
  clear k0 k1 k2 k3 q1 q2 q3 q0 a3 hw
  have d0 := F0.get 3 rfl
  go_enter Tryz.func29, Tryz.ntmps29
  go_wp2_with (first
    | (go_at_call 26; refine (r4.out _ (F4.keeps hK)).mono ?_; rintro e w5 ⟨u4, rfl, hL, hb, -⟩; obtain ⟨y4, z4, rfl, -⟩ := hL.form; have G4 := Fs.add (F4.call hb) (hL.move (Keeps.refl _ _) (Frm.le F4.bes.size)); have g4 := G4.get 7 rfl; have t4 := G4.thaw 7 (by simp); have F5 := G4.set 7 (by simp) (.slice y4 l3.length z4); clear F4 G4 hb hL r4)
    | (go_at_call 11; refine (r3.out _ (F3.keeps hK)).mono ?_; rintro e w4 ⟨u3, rfl, hL, hb, -⟩; obtain ⟨y3, z3, rfl, -⟩ := hL.form; have G3 := Fs.add (F3.call hb) (hL.move (Keeps.refl _ _) (Frm.le F3.bes.size)); have g3 := G3.get 6 rfl; have t3 := G3.thaw 6 (by simp); have F4 := G3.set 6 (by simp) (.slice y3 l2.length z3); clear F3 G3 hb hL r3; have d4 := F4.get 7 rfl)
    | (go_at_call 28; refine (r2.out _ (F2.keeps hK)).mono ?_; rintro e w3 ⟨u2, rfl, hL, hb, -⟩; obtain ⟨y2, z2, rfl, -⟩ := hL.form; have G2 := Fs.add (F2.call hb) (hL.move (Keeps.refl _ _) (Frm.le F2.bes.size)); have g2 := G2.get 5 rfl; have t2 := G2.thaw 5 (by simp); have F3 := G2.set 5 (by simp) (.slice y2 l1.length z2); clear F2 G2 hb hL r2; have d3 := F3.get 6 rfl)
    | (go_at_call 64; refine (r1.out _ (F1.keeps hK)).mono ?_; rintro e w2 ⟨u1, rfl, hL, hb, -⟩; obtain ⟨y1, z1, rfl, -⟩ := hL.form; have G1 := Fs.add (F1.call hb) (hL.move (Keeps.refl _ _) (Frm.le F1.bes.size)); have g1 := G1.get 4 rfl; have t1 := G1.thaw 4 (by simp); have F2 := G1.set 4 (by simp) (.slice y1 l0.length z1); clear F1 G1 hb hL r1; have d2 := F2.get 5 rfl)
    | (go_at_call 25; refine (r0.out _ (F0.keeps hK)).mono ?_; rintro e w1 ⟨u0, rfl, hL, hb⟩; obtain ⟨y0, z0, rfl⟩ := hL.form; have G0 := Fs.addTx (F0.call hb) (hL.move (Keeps.refl _ _) (Frm.le F0.bes.size)); have g0 := G0.get 3 rfl; have t0 := G0.thaw 3 (by simp); have F1 := G0.set 3 (by simp) (.slice y0 x3.length z0); clear F0 G0 hb hL r0; have d1 := F1.get 4 rfl))
  go_end0
  obtain ⟨L3, L2, L1, L0, T3, -⟩ := F5.p
  exact ⟨rfl, _, by rfl, At.exp_mk a0 a1 a2 T3 b3 e3 L0 L1 L2 L3, (fun h => by first | rfl | (exfalso; revert h; decide)), F5.drop⟩

set_option maxHeartbeats 1000000 in
theorem fresh3 (n : Nat) (q0 : FreshLOf 26 27 n 0) (q2 : FreshLOf 28 29 n 2) (q4 : FreshLOf 30 31 n 4) (q5 : FreshLOf 32 33 n 5) (q6 : FreshLOf 34 35 n 6) : FreshOf 12 (n + 1) 3 := by
  intro w K b o vs nd hK hc ha hf hw
  obtain ⟨i0, i1, s2, p3, x3, v0, l0, v1, l1, v2, l2, v3, l3, v4, l4, rfl, rfl, a0, a1, a2, ⟨a3, b3, e3⟩, k0, k1, k2, k3, k4⟩ := At.dec ha
  clear ha
  simp only [Nd.wt, Nd.wtLL, Sc.wtL, Sc.wt] at hw
  have F0 := Fs.start hc (by simp) hf
  clear hc hf
  have r0 : Hid (∀ W, Keeps K w W → _) := fun W hk => cloneS W K p3 x3 (a3.move hk (fun _ h => h)) (by omega)
  have r1 : Hid (∀ W, Keeps K w W → _) := fun W hk => q0 W K v0 l0 (k0.move hk (fun _ h => h)) (by omega)
  have r2 : Hid (∀ W, Keeps K w W → _) := fun W hk => q2 W K v1 l1 (k1.move hk (fun _ h => h)) (by omega)
  have r3 : Hid (∀ W, Keeps K w W → _) := fun W hk => q4 W K v2 l2 (k2.move hk (fun _ h => h)) (by omega)
  have r4 : Hid (∀ W, Keeps K w W → _) := fun W hk => q5 W K v3 l3 (k3.move hk (fun _ h => h)) (by omega)
  have r5 : Hid (∀ W, Keeps K w W → _) := fun W hk => q6 W K v4 l4 (k4.move hk (fun _ h => h)) (by omega)
  clear k0 k1 k2 k3 k4 q0 q2 q4 q5 q6 a3 hw
  have d0 := F0.get 3 rfl
  go_enter Tryz.func12, Tryz.ntmps12
  go_wp2_with (first
    | (go_at_call 34; refine (r5.out _ (F5.keeps hK)).mono ?_; rintro e w6 ⟨u5, rfl, hL, hb, -⟩; obtain ⟨y5, z5, rfl, -⟩ := hL.form; have G5 := Fs.add (F5.call hb) (hL.move (Keeps.refl _ _) (Frm.le F5.bes.size)); have g5 := G5.get 8 rfl; have t5 := G5.thaw 8 (by simp); have F6 := G5.set 8 (by simp) (.slice y5 l4.length z5); clear F5 G5 hb hL r5)
    | (go_at_call 32; refine (r4.out _ (F4.keeps hK)).mono ?_; rintro e w5 ⟨u4, rfl, hL, hb, -⟩; obtain ⟨y4, z4, rfl, -⟩ := hL.form; have G4 := Fs.add (F4.call hb) (hL.move (Keeps.refl _ _) (Frm.le F4.bes.size)); have g4 := G4.get 7 rfl; have t4 := G4.thaw 7 (by simp); have F5 := G4.set 7 (by simp) (.slice y4 l3.length z4); clear F4 G4 hb hL r4; have d5 := F5.get 8 rfl)
    | (go_at_call 30; refine (r3.out _ (F3.keeps hK)).mono ?_; rintro e w4 ⟨u3, rfl, hL, hb, -⟩; obtain ⟨y3, z3, rfl, -⟩ := hL.form; have G3 := Fs.add (F3.call hb) (hL.move (Keeps.refl _ _) (Frm.le F3.bes.size)); have g3 := G3.get 6 rfl; have t3 := G3.thaw 6 (by simp); have F4 := G3.set 6 (by simp) (.slice y3 l2.length z3); clear F3 G3 hb hL r3; have d4 := F4.get 7 rfl)
    | (go_at_call 28; refine (r2.out _ (F2.keeps hK)).mono ?_; rintro e w3 ⟨u2, rfl, hL, hb, -⟩; obtain ⟨y2, z2, rfl, -⟩ := hL.form; have G2 := Fs.add (F2.call hb) (hL.move (Keeps.refl _ _) (Frm.le F2.bes.size)); have g2 := G2.get 5 rfl; have t2 := G2.thaw 5 (by simp); have F3 := G2.set 5 (by simp) (.slice y2 l1.length z2); clear F2 G2 hb hL r2; have d3 := F3.get 6 rfl)
    | (go_at_call 26; refine (r1.out _ (F1.keeps hK)).mono ?_; rintro e w2 ⟨u1, rfl, hL, hb, -⟩; obtain ⟨y1, z1, rfl, -⟩ := hL.form; have G1 := Fs.add (F1.call hb) (hL.move (Keeps.refl _ _) (Frm.le F1.bes.size)); have g1 := G1.get 4 rfl; have t1 := G1.thaw 4 (by simp); have F2 := G1.set 4 (by simp) (.slice y1 l0.length z1); clear F1 G1 hb hL r1; have d2 := F2.get 5 rfl)
    | (go_at_call 25; refine (r0.out _ (F0.keeps hK)).mono ?_; rintro e w1 ⟨u0, rfl, hL, hb⟩; obtain ⟨y0, z0, rfl⟩ := hL.form; have G0 := Fs.addTx (F0.call hb) (hL.move (Keeps.refl _ _) (Frm.le F0.bes.size)); have g0 := G0.get 3 rfl; have t0 := G0.thaw 3 (by simp); have F1 := G0.set 3 (by simp) (.slice y0 x3.length z0); clear F0 G0 hb hL r0; have d1 := F1.get 4 rfl))
  go_end0
  obtain ⟨L4, L3, L2, L1, L0, T3, -⟩ := F6.p
  exact ⟨rfl, _, by rfl, At.dec_mk a0 a1 a2 T3 b3 e3 L0 L1 L2 L3 L4, (fun h => by first | rfl | (exfalso; revert h; decide)), F6.drop⟩

set_option maxHeartbeats 1000000 in
theorem fresh4 (n : Nat) (q0 : FreshLOf 26 27 n 0) : FreshOf 31 (n + 1) 4 := by
  intro w K b o vs nd hK hc ha hf hw
  obtain ⟨s0, v0, l0, rfl, rfl, a0, k0⟩ := At.con ha
  clear ha
  simp only [Nd.wt, Nd.wtLL, Sc.wtL, Sc.wt] at hw
  have F0 := Fs.start hc (by simp) hf
  clear hc hf
  have r0 : Hid (∀ W, Keeps K w W → _) := fun W hk => q0 W K v0 l0 (k0.move hk (fun _ h => h)) (by omega)
  clear k0 q0  hw
  have d0 := F0.get 1 rfl
  go_enter Tryz.func31, Tryz.ntmps31
  go_wp2_with (first
    | (go_at_call 26; refine (r0.out _ (F0.keeps hK)).mono ?_; rintro e w1 ⟨u0, rfl, hL, hb, -⟩; obtain ⟨y0, z0, rfl, -⟩ := hL.form; have G0 := Fs.add (F0.call hb) (hL.move (Keeps.refl _ _) (Frm.le F0.bes.size)); have g0 := G0.get 1 rfl; have t0 := G0.thaw 1 (by simp); have F1 := G0.set 1 (by simp) (.slice y0 l0.length z0); clear F0 G0 hb hL r0))
  go_end0
  obtain ⟨L0, -⟩ := F1.p
  exact ⟨rfl, _, by rfl, At.con_mk a0 L0, (fun h => by first | rfl | (exfalso; revert h; decide)), F1.drop⟩

set_option maxHeartbeats 1000000 in
theorem fresh5 (n : Nat) (q3 : FreshLOf 11 12 n 3) (q5 : FreshLOf 32 33 n 5) (q6 : FreshLOf 34 35 n 6) : FreshOf 33 (n + 1) 5 := by
  intro w K b o vs nd hK hc ha hf hw
  obtain ⟨i0, p1, x1, v0, l0, v1, l1, v2, l2, rfl, rfl, a0, ⟨a1, b1, e1⟩, k0, k1, k2⟩ := At.mod ha
  clear ha
  simp only [Nd.wt, Nd.wtLL, Sc.wtL, Sc.wt] at hw
  have F0 := Fs.start hc (by simp) hf
  clear hc hf
  have r0 : Hid (∀ W, Keeps K w W → _) := fun W hk => cloneS W K p1 x1 (a1.move hk (fun _ h => h)) (by omega)
  have r1 : Hid (∀ W, Keeps K w W → _) := fun W hk => q3 W K v0 l0 (k0.move hk (fun _ h => h)) (by omega)
  have r2 : Hid (∀ W, Keeps K w W → _) := fun W hk => q5 W K v1 l1 (k1.move hk (fun _ h => h)) (by omega)
  have r3 : Hid (∀ W, Keeps K w W → _) := fun W hk => q6 W K v2 l2 (k2.move hk (fun _ h => h)) (by omega)
  clear k0 k1 k2 q3 q5 q6 a1 hw
  have d0 := F0.get 1 rfl
  go_enter Tryz.func33, Tryz.ntmps33
  go_wp2_with (first
    | (go_at_call 34; refine (r3.out _ (F3.keeps hK)).mono ?_; rintro e w4 ⟨u3, rfl, hL, hb, -⟩; obtain ⟨y3, z3, rfl, -⟩ := hL.form; have G3 := Fs.add (F3.call hb) (hL.move (Keeps.refl _ _) (Frm.le F3.bes.size)); have g3 := G3.get 4 rfl; have t3 := G3.thaw 4 (by simp); have F4 := G3.set 4 (by simp) (.slice y3 l2.length z3); clear F3 G3 hb hL r3)
    | (go_at_call 32; refine (r2.out _ (F2.keeps hK)).mono ?_; rintro e w3 ⟨u2, rfl, hL, hb, -⟩; obtain ⟨y2, z2, rfl, -⟩ := hL.form; have G2 := Fs.add (F2.call hb) (hL.move (Keeps.refl _ _) (Frm.le F2.bes.size)); have g2 := G2.get 3 rfl; have t2 := G2.thaw 3 (by simp); have F3 := G2.set 3 (by simp) (.slice y2 l1.length z2); clear F2 G2 hb hL r2; have d3 := F3.get 4 rfl)
    | (go_at_call 11; refine (r1.out _ (F1.keeps hK)).mono ?_; rintro e w2 ⟨u1, rfl, hL, hb, -⟩; obtain ⟨y1, z1, rfl, -⟩ := hL.form; have G1 := Fs.add (F1.call hb) (hL.move (Keeps.refl _ _) (Frm.le F1.bes.size)); have g1 := G1.get 2 rfl; have t1 := G1.thaw 2 (by simp); have F2 := G1.set 2 (by simp) (.slice y1 l0.length z1); clear F1 G1 hb hL r1; have d2 := F2.get 3 rfl)
    | (go_at_call 25; refine (r0.out _ (F0.keeps hK)).mono ?_; rintro e w1 ⟨u0, rfl, hL, hb⟩; obtain ⟨y0, z0, rfl⟩ := hL.form; have G0 := Fs.addTx (F0.call hb) (hL.move (Keeps.refl _ _) (Frm.le F0.bes.size)); have g0 := G0.get 1 rfl; have t0 := G0.thaw 1 (by simp); have F1 := G0.set 1 (by simp) (.slice y0 x1.length z0); clear F0 G0 hb hL r0; have d1 := F1.get 2 rfl))
  go_end0
  obtain ⟨L2, L1, L0, T1, -⟩ := F4.p
  exact ⟨rfl, _, by rfl, At.mod_mk a0 T1 b1 e1 L0 L1 L2, (fun h => by first | rfl | (exfalso; revert h; decide)), F4.drop⟩

set_option maxHeartbeats 1000000 in
theorem fresh6 (n : Nat) (q7 : FreshLOf 69 70 n 7) (q6 : FreshLOf 34 35 n 6) (q0 : FreshLOf 26 27 n 0) : FreshOf 35 (n + 1) 6 := by
  intro w K b o vs nd hK hc ha hf hw
  obtain ⟨i0, p1, x1, v0, l0, v1, l1, v2, l2, rfl, rfl, a0, ⟨a1, b1, e1⟩, k0, k1, k2⟩ := At.sig ha
  clear ha
  simp only [Nd.wt, Nd.wtLL, Sc.wtL, Sc.wt] at hw
  have F0 := Fs.start hc (by simp) hf
  clear hc hf
  have r0 : Hid (∀ W, Keeps K w W → _) := fun W hk => cloneS W K p1 x1 (a1.move hk (fun _ h => h)) (by omega)
  have r1 : Hid (∀ W, Keeps K w W → _) := fun W hk => q7 W K v0 l0 (k0.move hk (fun _ h => h)) (by omega)
  have r2 : Hid (∀ W, Keeps K w W → _) := fun W hk => q6 W K v1 l1 (k1.move hk (fun _ h => h)) (by omega)
  have r3 : Hid (∀ W, Keeps K w W → _) := fun W hk => q0 W K v2 l2 (k2.move hk (fun _ h => h)) (by omega)
  clear k0 k1 k2 q7 q6 q0 a1 hw
  have d0 := F0.get 1 rfl
  go_enter Tryz.func35, Tryz.ntmps35
  go_wp2_with (first
    | (go_at_call 26; refine (r3.out _ (F3.keeps hK)).mono ?_; rintro e w4 ⟨u3, rfl, hL, hb, -⟩; obtain ⟨y3, z3, rfl, -⟩ := hL.form; have G3 := Fs.add (F3.call hb) (hL.move (Keeps.refl _ _) (Frm.le F3.bes.size)); have g3 := G3.get 4 rfl; have t3 := G3.thaw 4 (by simp); have F4 := G3.set 4 (by simp) (.slice y3 l2.length z3); clear F3 G3 hb hL r3)
    | (go_at_call 34; refine (r2.out _ (F2.keeps hK)).mono ?_; rintro e w3 ⟨u2, rfl, hL, hb, -⟩; obtain ⟨y2, z2, rfl, -⟩ := hL.form; have G2 := Fs.add (F2.call hb) (hL.move (Keeps.refl _ _) (Frm.le F2.bes.size)); have g2 := G2.get 3 rfl; have t2 := G2.thaw 3 (by simp); have F3 := G2.set 3 (by simp) (.slice y2 l1.length z2); clear F2 G2 hb hL r2; have d3 := F3.get 4 rfl)
    | (go_at_call 69; refine (r1.out _ (F1.keeps hK)).mono ?_; rintro e w2 ⟨u1, rfl, hL, hb, -⟩; obtain ⟨y1, z1, rfl, -⟩ := hL.form; have G1 := Fs.add (F1.call hb) (hL.move (Keeps.refl _ _) (Frm.le F1.bes.size)); have g1 := G1.get 2 rfl; have t1 := G1.thaw 2 (by simp); have F2 := G1.set 2 (by simp) (.slice y1 l0.length z1); clear F1 G1 hb hL r1; have d2 := F2.get 3 rfl)
    | (go_at_call 25; refine (r0.out _ (F0.keeps hK)).mono ?_; rintro e w1 ⟨u0, rfl, hL, hb⟩; obtain ⟨y0, z0, rfl⟩ := hL.form; have G0 := Fs.addTx (F0.call hb) (hL.move (Keeps.refl _ _) (Frm.le F0.bes.size)); have g0 := G0.get 1 rfl; have t0 := G0.thaw 1 (by simp); have F1 := G0.set 1 (by simp) (.slice y0 x1.length z0); clear F0 G0 hb hL r0; have d1 := F1.get 2 rfl))
  go_end0
  obtain ⟨L2, L1, L0, T1, -⟩ := F4.p
  exact ⟨rfl, _, by rfl, At.sig_mk a0 T1 b1 e1 L0 L1 L2, (fun h => by first | rfl | (exfalso; revert h; decide)), F4.drop⟩

set_option maxHeartbeats 1000000 in
theorem fresh7 (n : Nat) (q0 : FreshLOf 26 27 n 0) (q4 : FreshLOf 30 31 n 4) (q6 : FreshLOf 34 35 n 6) : FreshOf 70 (n + 1) 7 := by
  intro w K b o vs nd hK hc ha hf hw
  obtain ⟨i0, i1, s2, v0, l0, v1, l1, v2, l2, rfl, rfl, a0, a1, a2, k0, k1, k2⟩ := At.spec ha
  clear ha
  simp only [Nd.wt, Nd.wtLL, Sc.wtL, Sc.wt] at hw
  have F0 := Fs.start hc (by simp) hf
  clear hc hf
  have r0 : Hid (∀ W, Keeps K w W → _) := fun W hk => q0 W K v0 l0 (k0.move hk (fun _ h => h)) (by omega)
  have r1 : Hid (∀ W, Keeps K w W → _) := fun W hk => q4 W K v1 l1 (k1.move hk (fun _ h => h)) (by omega)
  have r2 : Hid (∀ W, Keeps K w W → _) := fun W hk => q6 W K v2 l2 (k2.move hk (fun _ h => h)) (by omega)
  clear k0 k1 k2 q0 q4 q6  hw
  have d0 := F0.get 3 rfl
  go_enter Tryz.func70, Tryz.ntmps70
  go_wp2_with (first
    | (go_at_call 34; refine (r2.out _ (F2.keeps hK)).mono ?_; rintro e w3 ⟨u2, rfl, hL, hb, -⟩; obtain ⟨y2, z2, rfl, -⟩ := hL.form; have G2 := Fs.add (F2.call hb) (hL.move (Keeps.refl _ _) (Frm.le F2.bes.size)); have g2 := G2.get 5 rfl; have t2 := G2.thaw 5 (by simp); have F3 := G2.set 5 (by simp) (.slice y2 l2.length z2); clear F2 G2 hb hL r2)
    | (go_at_call 30; refine (r1.out _ (F1.keeps hK)).mono ?_; rintro e w2 ⟨u1, rfl, hL, hb, -⟩; obtain ⟨y1, z1, rfl, -⟩ := hL.form; have G1 := Fs.add (F1.call hb) (hL.move (Keeps.refl _ _) (Frm.le F1.bes.size)); have g1 := G1.get 4 rfl; have t1 := G1.thaw 4 (by simp); have F2 := G1.set 4 (by simp) (.slice y1 l1.length z1); clear F1 G1 hb hL r1; have d2 := F2.get 5 rfl)
    | (go_at_call 26; refine (r0.out _ (F0.keeps hK)).mono ?_; rintro e w1 ⟨u0, rfl, hL, hb, -⟩; obtain ⟨y0, z0, rfl, -⟩ := hL.form; have G0 := Fs.add (F0.call hb) (hL.move (Keeps.refl _ _) (Frm.le F0.bes.size)); have g0 := G0.get 3 rfl; have t0 := G0.thaw 3 (by simp); have F1 := G0.set 3 (by simp) (.slice y0 l0.length z0); clear F0 G0 hb hL r0; have d1 := F1.get 4 rfl))
  go_end0
  obtain ⟨L2, L1, L0, -⟩ := F3.p
  exact ⟨rfl, _, by rfl, At.spec_mk a0 a1 a2 L0 L1 L2, (fun h => by first | rfl | (exfalso; revert h; decide)), F3.drop⟩

structure FreshAll (n : Nat) : Prop where
  s0 : FreshOf 27 n 0
  s1 : FreshOf 65 n 1
  s2 : FreshOf 29 n 2
  s3 : FreshOf 12 n 3
  s4 : FreshOf 31 n 4
  s5 : FreshOf 33 n 5
  s6 : FreshOf 35 n 6
  s7 : FreshOf 70 n 7
theorem fresh_all : ∀ n, FreshAll n
  | 0 => ⟨fun _ _ _ _ _ _ _ _ h => h.elim, fun _ _ _ _ _ _ _ _ h => h.elim, fun _ _ _ _ _ _ _ _ h => h.elim, fun _ _ _ _ _ _ _ _ h => h.elim, fun _ _ _ _ _ _ _ _ h => h.elim, fun _ _ _ _ _ _ _ _ h => h.elim, fun _ _ _ _ _ _ _ _ h => h.elim, fun _ _ _ _ _ _ _ _ h => h.elim⟩
  | n + 1 =>
    have h := fresh_all n
    have q0 := freshL0 n h.s0
    have q1 := freshL1 n h.s1
    have q2 := freshL2 n h.s2
    have q3 := freshL3 n h.s3
    have q4 := freshL4 n h.s4
    have q5 := freshL5 n h.s5
    have q6 := freshL6 n h.s6
    have q7 := freshL7 n h.s7
    ⟨fresh0 n q0, fresh1 n q1, fresh2 n q1 q2 q3 q0, fresh3 n q0 q2 q4 q5 q6, fresh4 n q0, fresh5 n q3 q5 q6, fresh6 n q7 q6 q0, fresh7 n q0 q4 q6⟩
theorem copy_any (n : Nat) (w : World) (K : Nat → Prop) (v : Value) (l : List Nd) (hv : AtL w K n 3 v l) (hw : Nd.wtL l ≤ 1048576) :
    Calls Tryz.prog 5 #[v] w fun e w' => ∃ v', e = .returned v' ∧ AtL w' (Frm w.heap.size w') n 3 v' l ∧ Below w.heap.size w w' ∧ PlOf 3 n w v w' v' l := by
  have q := freshL3 n (fresh_all n).s3 w K v l hv hw
  go_enter Tryz.func5, Tryz.ntmps5
  go_wp2_with (go_at_call 11; refine q.mono ?_; rintro e w1 ⟨v', rfl, h1, h2, h3⟩)
  go_ret
  exact ⟨v', rfl, h1, h2, h3⟩
end Go.Proofs.YtgiegjghldhppabGreat
