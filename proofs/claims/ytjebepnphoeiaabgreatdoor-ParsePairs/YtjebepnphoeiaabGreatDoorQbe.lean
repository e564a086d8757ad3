/- Pieces: GrE GrG GrAa GrW. -/
import Derived.Test.YtjebepnphoeiaabGreatDoorQaj
import Derived.Deep.RegionWith
import Derived.Deep.RegionHeld
import Derived.BigRegion
import Derived.Test.YtjebepnphoeiaabGreatDoorQak
namespace Go.Proofs.YtjebepnphoeiaabGreatDoor
open Go.RowKit
set_option linter.unusedVariables false
set_option linter.unusedSimpArgs false

set_option maxHeartbeats 800000 in
set_option maxRecDepth 100000 in
theorem gr_ty (f : Nat) (ihP : Gr.Rule 56 .pairTy 0 f) (ihT : Gr.Rule 23 .ty 0 f) : Gr.Rule 23 .ty 0 (f + 1) := by
 intro w B S ts h hne
 rw [show Gr.g (f + 1) .ty ts = (Gr.g f .pairTy ts).bind fun a r => if Gr.isT [45, 62] r = true then (Gr.g f .ty r.tail).bind fun b r2 => .ok (Gr.tyN 3 Gr.none8 [] [a, b]) r2 else .ok a r from rfl] at hne ⊢
 have hlt := h.lt
 have qP := fun ob => ihP (w.alloc ob) B S ts (h.alloc _)
 clear h ihP
 cases hP : Gr.g f .pairTy ts with
 | out => rw [hP] at hne; exact absurd rfl hne
 | bad r c =>
  have q : Hid (∀ ob, Calls Tryz.prog 56 #[.pointer (some ⟨B, 0, none⟩)] (w.alloc ob) (Gr.Ans B S 0 (w.alloc ob) (.bad r c))) := fun ob => by rw [← hP]; exact qP ob (by rw [hP]; simp)
  clear qP hP hne
  go_enter Tryz.func23, Tryz.ntmps23
  go_wp2_with (go_at_call 56; refine (q.out _).mono ?_; rintro e w1 ⟨rfl, hR, hB⟩)
  exact ⟨rfl, rfl, hR, ((Bes.refl _ _).alloc _).trans hB⟩
 | ok a r =>
  have q : Hid (∀ ob, Calls Tryz.prog 56 #[.pointer (some ⟨B, 0, none⟩)] (w.alloc ob) (Gr.Ans B S 0 (w.alloc ob) (.ok a r))) := fun ob => by rw [← hP]; exact qP ob (by rw [hP]; simp)
  simp only [hP, Gr.Res.bind] at hne ⊢
  clear qP hP
  cases hT : Gr.isT [45, 62] r with
  | false =>
   clear hne
   go_enter Tryz.func23, Tryz.ntmps23
   go_wp2_with (first | (go_at_call 56; refine (q.out _).mono ?_; rintro e w1 ⟨⟨vs, n, rfl, ha0⟩, hR1, hB0⟩; obtain ⟨i0, s1, a2, n2, c2, d0, m0, e0, rfl⟩ := ha0.ty_form; have ha : Hid (At w1 (Ge (w.heap.size + 1)) n 0 _ a) := (by have := ha0; simp at this; exact this); have hbx := (Bx.new w [.int .i64 0, .string ⟨#[]⟩, .slice none 0 0, .slice none 0 0] 41).bes hB0 (by omega); have hB1 : Bes B w w1 := ((Bes.refl _ _).alloc _).trans hB0; have hlt1 : w.heap.size < w1.heap.size := (by have := hB0.size; simp at this; omega); clear ha0 hB0) | (go_at_call 15; refine (gr_take _ B S r (hR1.alloc _) ⟨#[45, 62]⟩ false hT).mono ?_; rintro e w2 ⟨rfl, hR2, hB2⟩; have hbx2 := (hbx.below (bl_alloc (Below.refl _ _) _)).bes hB2 (by omega); have hbl2 := (Bx.new w1 [.int .i64 i0, .string s1, .slice a2 n2 c2, .slice d0 m0 e0] 41).bes hB2 (by omega); obtain ⟨⟨k0, k1, k2, k3⟩, z0, z1, z2, z3⟩ := hbx2.e4; obtain ⟨⟨l0, l1, l2, l3⟩, -⟩ := hbl2.e4; have hB2' : Bes B w w2 := (hB1.alloc _).trans hB2; have ha2 : Hid (At w2 (Ge (w.heap.size + 1)) n 0 _ a) := ((Bes.of_below (bl_alloc (Below.refl _ _) _)).trans hB2).at (by omega) ha.out; have hlt2 : w1.heap.size < w2.heap.size := (by have := hB2.size; simp at this; omega)))
   refine bodyPost_ret (v := .agg #[.int .i64 i0, .string s1, .slice a2 n2 c2, .slice d0 m0 e0]) (by rw [results_cell1 (fn := Tryz.f23) (p := 2) (ty := 41) (by kernel_rfl)]; simp [go_sem, k0, k1, k2, k3]) rfl ?_
   exact Gr.Ans.mk hlt (by repeat' (first | refine Save.set ?_ _ _ | exact Save.refl _ _)) hR2 hB2' ha2.out
  | true =>
   rw [hT] at hne
   simp only [if_pos] at hne ⊢
   have qT := ihT
   cases hG : Gr.g f .ty r.tail with
   | out => rw [hG] at hne; exact absurd rfl hne
   | bad r2 c =>
    go_enter Tryz.func23, Tryz.ntmps23
    go_wp2_with (first | (go_at_call 56; refine (q.out _).mono ?_; rintro e w1 ⟨⟨vs, n, rfl, ha0⟩, hR1, hB0⟩; obtain ⟨i0, s1, a2, n2, c2, d0, m0, e0, rfl⟩ := ha0.ty_form; have ha : Hid (At w1 (Ge (w.heap.size + 1)) n 0 _ a) := (by have := ha0; simp at this; exact this); have hbx := (Bx.new w [.int .i64 0, .string ⟨#[]⟩, .slice none 0 0, .slice none 0 0] 41).bes hB0 (by omega); have hB1 : Bes B w w1 := ((Bes.refl _ _).alloc _).trans hB0; have hlt1 : w.heap.size < w1.heap.size := (by have := hB0.size; simp at this; omega); clear ha0 hB0) | (go_at_call 15; refine (gr_take _ B S r (hR1.alloc _) ⟨#[45, 62]⟩ true hT).mono ?_; rintro e w2 ⟨rfl, hR2, hB2⟩; have hbx2 := (hbx.below (bl_alloc (Below.refl _ _) _)).bes hB2 (by omega); have hbl2 := (Bx.new w1 [.int .i64 i0, .string s1, .slice a2 n2 c2, .slice d0 m0 e0] 41).bes hB2 (by omega); obtain ⟨⟨k0, k1, k2, k3⟩, z0, z1, z2, z3⟩ := hbx2.e4; obtain ⟨⟨l0, l1, l2, l3⟩, -⟩ := hbl2.e4; have hB2' : Bes B w w2 := (hB1.alloc _).trans hB2; have ha2 : Hid (At w2 (Ge (w.heap.size + 1)) n 0 _ a) := ((Bes.of_below (bl_alloc (Below.refl _ _) _)).trans hB2).at (by omega) ha.out; have hlt2 : w1.heap.size < w2.heap.size := (by have := hB2.size; simp at this; omega)))
    have qG : Hid (∀ W, Rd W B S r.tail → Calls Tryz.prog 23 #[.pointer (some ⟨B, 0, none⟩)] W (Gr.Ans B S 0 W (.bad r2 c))) := fun W hW => by rw [← hG]; exact ihT W B S r.tail hW (by rw [hG]; simp)
    refine wp_region_held_drew (S := fun wz => Bx wz w1.heap.size [.int .i64 i0, .string s1, .slice a2 n2 c2, .slice d0 m0 e0]) rfl (hbl2.below (Below.refl _ _).drew) (fun hS => ?_)
    refine wpAnyH_take (i := 0) (v := ?_) rfl (by kernel_rfl) (by kernel_rfl) (by kernel_rfl) (fun _ _ _ h => h) (Or.inl ⟨by rfl, ?_⟩) hS ?_
    rotate_left
    ·
     intro wz hz; obtain ⟨⟨y0, y1, y2, y3⟩, -⟩ := hz.e4; go_simp; try with_reducible rfl
    try simp only [Act.put, List.setIfInBounds_toArray, List.set_cons_zero, List.set_cons_succ, List.getElem_toArray, List.getElem_cons_succ, List.getElem_cons_zero]
    refine wpAnyH_take (i := 1) (v := ?_) rfl (by kernel_rfl) (by kernel_rfl) (by kernel_rfl) (fun _ _ _ h => h) (Or.inl ⟨by rfl, ?_⟩) hS ?_
    rotate_left
    ·
     intro wz hz; go_simp; try with_reducible rfl
    try simp only [Act.put, List.setIfInBounds_toArray, List.set_cons_zero, List.set_cons_succ, List.getElem_toArray, List.getElem_cons_succ, List.getElem_cons_zero]
    refine wpAnyH_ready (rs := [2]) (by kernel_rfl) (by simp) (AllReadyH.cons rfl (fun K hK => ?_) AllReadyH.nil)
    go_simp
    refine (qG.out _ (hR2.below (Below.refl _ _).drew)).mono ?_
    rintro e w3 ⟨rfl, hR3, hB3⟩
    exact ⟨rfl, rfl, hR3, hB2'.drew.trans hB3⟩
   | ok b r2 =>
    have qG : Hid (∀ W, Rd W B S r.tail → Calls Tryz.prog 23 #[.pointer (some ⟨B, 0, none⟩)] W (Gr.Ans B S 0 W (.ok b r2))) := fun W hW => by rw [← hG]; exact ihT W B S r.tail hW (by rw [hG]; simp)
    clear hG hne ihT qT
    go_enter Tryz.func23, Tryz.ntmps23
    go_wp2_with (first | (go_at_call 56; refine (q.out _).mono ?_; rintro e w1 ⟨⟨vs, n, rfl, ha0⟩, hR1, hB0⟩; obtain ⟨i0, s1, a2, n2, c2, d0, m0, e0, rfl⟩ := ha0.ty_form; have ha : Hid (At w1 (Ge (w.heap.size + 1)) n 0 _ a) := (by have := ha0; simp at this; exact this); have hbx := (Bx.new w [.int .i64 0, .string ⟨#[]⟩, .slice none 0 0, .slice none 0 0] 41).bes hB0 (by omega); have hB1 : Bes B w w1 := ((Bes.refl _ _).alloc _).trans hB0; have hlt1 : w.heap.size < w1.heap.size := (by have := hB0.size; simp at this; omega); clear ha0 hB0) | (go_at_call 15; refine (gr_take _ B S r (hR1.alloc _) ⟨#[45, 62]⟩ true hT).mono ?_; rintro e w2 ⟨rfl, hR2, hB2⟩; have hbx2 := (hbx.below (bl_alloc (Below.refl _ _) _)).bes hB2 (by omega); have hbl2 := (Bx.new w1 [.int .i64 i0, .string s1, .slice a2 n2 c2, .slice d0 m0 e0] 41).bes hB2 (by omega); obtain ⟨⟨k0, k1, k2, k3⟩, z0, z1, z2, z3⟩ := hbx2.e4; obtain ⟨⟨l0, l1, l2, l3⟩, -⟩ := hbl2.e4; have hB2' : Bes B w w2 := (hB1.alloc _).trans hB2; have ha2 : Hid (At w2 (Ge (w.heap.size + 1)) n 0 _ a) := ((Bes.of_below (bl_alloc (Below.refl _ _) _)).trans hB2).at (by omega) ha.out; have hlt2 : w1.heap.size < w2.heap.size := (by have := hB2.size; simp at this; omega)))
    go_region_with (go_at_call 23; refine (qG.out _ (hR2.below (Below.refl _ _).drew)).mono ?_; rintro e w3 ⟨⟨us, p, rfl, hb0⟩, hR3, hB3⟩; obtain ⟨j0, t1, b2, p2, f2, g0, q0, h0, rfl⟩ := hb0.ty_form; have hbx3 := (hbx2.below (Below.refl _ _).drew).bes hB3 (by omega); have hbl3 := (hbl2.below (Below.refl _ _).drew).bes hB3 (by omega); obtain ⟨⟨k0', k1', k2', k3'⟩, z0', z1', z2', z3'⟩ := hbx3.e4; obtain ⟨⟨l0', l1', l2', l3'⟩, -⟩ := hbl3.e4; have ha3 : Hid (At w3 (Ge (w.heap.size + 1)) n 0 _ a) := ((Bes.of_below (Below.refl _ _).drew).trans hB3).at (by omega) ha2.out; have hb3 : Hid (At w3 (Ge (w.heap.size + 1)) p 0 _ b) := At.move (Keeps.refl _ _) (Ge.le (by simp; omega)) _ _ _ _ hb0; have hB3' : Bes B w w3 := hB2'.drew.trans hB3; have hltw : w.heap.size < w3.heap.size := (by have := hB3.size; simp at this; omega); have hltl : w1.heap.size < w3.heap.size := (by have := hB3.size; simp at this; omega); clear hb0)
    all_goals
     go_wp2
     refine bodyPost_ret (v := .agg #[.int .i64 3, .string ⟨#[]⟩, .slice none 0 0, .slice (some ⟨w3.heap.size, 0, none⟩) 2 2]) (by rw [results_cell1 (fn := Tryz.f23) (p := 2) (ty := 41) (by kernel_rfl)]; simp [go_sem, k0', k1', k2', k3', hltw]) rfl ?_
     exact Gr.Ans.mk hlt (by repeat' (first | refine Save.set ?_ _ _ | refine Save.alloc2 ?_ _ | exact Save.refl _ _)) (hR3.alloc _) (hB3'.alloc _) (At.ty_mk (n := max n p) (by decide) (by decide) (Tx.none0 ..) (fun x hx => by cases hx) (Nat.zero_le _) (AtL.mk2 (At.le ha3.out (Nat.le_max_left n p)) (At.le hb3.out (Nat.le_max_right n p)) (by omega) 41 rfl rfl))
set_option linter.unusedSimpArgs false
set_option maxHeartbeats 1600000 in
set_option maxRecDepth 100000 in
theorem gr_pairTy (f : Nat) (ihA : ∀ k, k ≤ f → Gr.Rule 89 .atomTy 0 k) : Gr.Rule 56 .pairTy 0 (f + 1) := by
 intro w B S ts h hne
 rw [show Gr.g (f + 1) .pairTy ts = (Gr.g f .atomTy ts).bind fun a r => Gr.g f (.pairGo a) r from rfl] at hne ⊢
 have hlt := h.lt
 have qP := fun ob => ihA f (Nat.le_refl _) (w.alloc ob) B S ts (h.alloc _)
 clear h
 cases hP : Gr.g f .atomTy ts with
 | out => rw [hP] at hne; exact absurd rfl hne
 | bad r c =>
  have q : Hid (∀ ob, Calls Tryz.prog 89 #[.pointer (some ⟨B, 0, none⟩)] (w.alloc ob) (Gr.Ans B S 0 (w.alloc ob) (.bad r c))) := fun ob => by rw [← hP]; exact qP ob (by rw [hP]; simp)
  clear qP hP hne
  go_enter Tryz.func56, Tryz.ntmps56
  go_wp2_with (go_at_call 89; refine (q.out _).mono ?_; rintro e w1 ⟨rfl, hR, hB⟩)
  exact ⟨rfl, rfl, hR, ((Bes.refl _ _).alloc _).trans hB⟩
 | ok a r =>
  have q : Hid (∀ ob, Calls Tryz.prog 89 #[.pointer (some ⟨B, 0, none⟩)] (w.alloc ob) (Gr.Ans B S 0 (w.alloc ob) (.ok a r))) := fun ob => by rw [← hP]; exact qP ob (by rw [hP]; simp)
  simp only [hP, Gr.Res.bind] at hne ⊢
  clear qP hP
  have HN : Hid (Gr.g f (.pairGo a) r ≠ .out) := hne
  clear hne
  go_enter Tryz.func56, Tryz.ntmps56
  go_wp2_with (go_at_call 89; refine (q.out _).mono ?_; rintro e w1 ⟨⟨vs, n, rfl, ha0⟩, hR1, hB0⟩; obtain ⟨xi, xs, xa, xn, xc, xd, xm, xe, rfl⟩ := ha0.ty_form; have ha : Hid (At w1 (Ge (w.heap.size + 1)) n 0 [.int .i64 xi, .string xs, .slice xa xn xc, .slice xd xm xe] a) := (by have := ha0; simp at this; exact this); have hbx : Hid (Bx w1 w.heap.size [.int .i64 0, .string ⟨#[]⟩, .slice none 0 0, .slice none 0 0]) := (Bx.new w [.int .i64 0, .string ⟨#[]⟩, .slice none 0 0, .slice none 0 0] 41).bes hB0 (by omega); have hB1 : Bes B w w1 := ((Bes.refl _ _).alloc _).trans hB0; have hlt1 : w.heap.size < w1.heap.size := (by have := hB0.size; simp at this; omega); clear ha0 hB0)
  obtain ⟨L, hL⟩ : ∃ L, w1.heap.size = L := ⟨_, rfl⟩
  rw [hL]
  go_loopw [6] (fun _ wr => ∃ (k n : Nat) (us : Gr.Ts) (x : Nd) (vs : List Value), Hid (k ≤ f ∧ Gr.g f (.pairGo a) r = Gr.g k (.pairGo x) us) ∧ Hid (Bx wr L vs ∧ At wr (Gx (w.heap.size + 1) L) n 0 vs x) ∧ Hid (Bx wr w.heap.size [.int .i64 0, .string ⟨#[]⟩, .slice none 0 0, .slice none 0 0]) ∧ Rd wr B S us ∧ Bes B w wr) (fun _ wr => Gr.left B wr)
  case atStart => exact ⟨f, n, r, a, _, ⟨Nat.le_refl _, rfl⟩, ⟨by rw [← hL]; exact Bx.new w1 [.int .i64 xi, .string xs, .slice xa xn xc, .slice xd xm xe] 41, (Bes.of_below (B := B) (bl_alloc (Below.refl _ _) _)).atx (by omega) (ha.out.gx (by omega))⟩, hbx.out.below (bl_alloc (Below.refl _ _) _), hR1.alloc _, hB1.alloc _⟩
  case round =>
   clear hR1 hB1 ha hbx q
   have HL : Hid (w1.heap.size = L) := hL
   have hlL : w.heap.size < L := by omega
   clear hL hlt1
   obtain ⟨k, n, us, x, vs, hK, hX, hbx, hR, hB⟩ := hrel
   obtain ⟨hbl0, hx0⟩ := hX.out
   obtain ⟨xi, xs, xa, xn, xc, xd, xm, xe, rfl⟩ := hx0.ty_form
   have hbl : Hid (Bx wr L [.int .i64 xi, .string xs, .slice xa xn xc, .slice xd xm xe]) := hbl0
   have hx : Hid (At wr (Gx (w.heap.size + 1) L) n 0 [.int .i64 xi, .string xs, .slice xa xn xc, .slice xd xm xe] x) := hx0
   clear hX hbl0 hx0
   obtain ⟨hkf, hk0⟩ := hK.out
   have hLw : L < wr.heap.size := hbl.out.lt
   cases k with
   | zero => exact absurd hk0 HN.out
   | succ k =>
    rw [show Gr.g (k + 1) (.pairGo x) us = if Gr.isT [42] us = true then (Gr.g k .atomTy us.tail).bind fun b r => Gr.g k (.pairGo (Gr.tyN 4 Gr.none8 [] [x, b])) r else .ok x us from rfl] at hk0
    cases hT : Gr.isT [42] us with
    | false =>
     have HK : Hid (Gr.g f (.pairGo a) r = .ok x us) := by show _ = _; rw [hk0, hT]; rfl
     clear hk0 hK HN ihA
     go_wp2_with (go_at_call 15; refine (gr_take _ B S us hR ⟨#[42]⟩ false hT).mono ?_; rintro e w2 ⟨rfl, hR2, hB2⟩; have hbx2 := hbx.out.bes hB2 (by omega); have hbl2 := hbl.out.bes hB2 (by omega); obtain ⟨⟨k0, k1, k2, k3⟩, z0, z1, z2, z3⟩ := hbx2.e4; obtain ⟨⟨l0, l1, l2, l3⟩, y0, y1, y2, y3⟩ := hbl2.e4; have hB2' : Bes B w w2 := hB.trans hB2; have hx2 : Hid (At w2 (Gx (w.heap.size + 1) L) n 0 [.int .i64 xi, .string xs, .slice xa xn xc, .slice xd xm xe] x) := hB2.atx (by omega) hx.out)
     refine bodyPost_ret (v := .agg #[.int .i64 xi, .string xs, .slice xa xn xc, .slice xd xm xe]) (by rw [results_cell1 (fn := Tryz.f56) (p := 2) (ty := 41) (by kernel_rfl)]; simp [go_sem, k0, k1, k2, k3]) rfl ?_
     rw [HK.out]
     exact Gr.Ans.mk hlt (by repeat' (first | with_reducible refine Save.set ?_ _ _ | with_reducible exact Save.refl _ _)) hR2 hB2' hx2.out.ge
    | true =>
     rw [hT] at hk0
     simp only [if_pos] at hk0
     cases hG : Gr.g k .atomTy us.tail with
     | out => rw [hG] at hk0; exact absurd hk0 HN.out
     | bad r2 c =>
      have HK : Hid (Gr.g f (.pairGo a) r = .bad r2 c) := by show _ = _; rw [hk0, hG]; rfl
      have qG : Hid (∀ W, Rd W B S us.tail → Calls Tryz.prog 89 #[.pointer (some ⟨B, 0, none⟩)] W (Gr.Ans B S 0 W (.bad r2 c))) := fun W hW => by rw [← hG]; exact ihA k (by omega) W B S us.tail hW (by rw [hG]; simp)
      clear hk0 hK HN ihA hG
      go_wp2_with (go_at_call 15; refine (gr_take _ B S us hR ⟨#[42]⟩ true hT).mono ?_; rintro e w2 ⟨rfl, hR2, hB2⟩; have hbx2 := hbx.out.bes hB2 (by omega); have hbl2 := hbl.out.bes hB2 (by omega); obtain ⟨⟨k0, k1, k2, k3⟩, z0, z1, z2, z3⟩ := hbx2.e4; obtain ⟨⟨l0, l1, l2, l3⟩, y0, y1, y2, y3⟩ := hbl2.e4; have hB2' : Bes B w w2 := hB.trans hB2; have hx2 : Hid (At w2 (Gx (w.heap.size + 1) L) n 0 [.int .i64 xi, .string xs, .slice xa xn xc, .slice xd xm xe] x) := hB2.atx (by omega) hx.out)
      refine wp_region_held_drew (S := fun wz => Bx wz L [.int .i64 xi, .string xs, .slice xa xn xc, .slice xd xm xe]) rfl (hbl2.below (Below.refl _ _).drew) (fun hS => ?_)
      refine wpAnyH_take (i := 0) (v := ?_) rfl (by kernel_rfl) (by kernel_rfl) (by kernel_rfl) (fun _ _ _ h => h) (Or.inl ⟨by rfl, ?_⟩) hS ?_
      rotate_left
      ·
       intro wz hz; obtain ⟨⟨y0, y1, y2, y3⟩, -⟩ := hz.e4; go_simp; try with_reducible rfl
      try simp only [sx]
      refine wpAnyH_take (i := 1) (v := ?_) rfl (by kernel_rfl) (by kernel_rfl) (by kernel_rfl) (fun _ _ _ h => h) (Or.inl ⟨by rfl, ?_⟩) hS ?_
      rotate_left
      ·
       intro wz hz; go_simp; try with_reducible rfl
      try simp only [sx]
      refine wpAnyH_ready (rs := [2]) (by kernel_rfl) (by simp) (AllReadyH.cons rfl (fun K hK => ?_) AllReadyH.nil)
      go_simp
      refine (qG.out _ (hR2.below (Below.refl _ _).drew)).mono ?_
      rintro e w3 ⟨rfl, hR3, hB3⟩
      refine ⟨rfl, ?_⟩
      rw [HK.out]
      exact ⟨rfl, hR3, hB2'.drew.trans hB3⟩
     | ok b r2 =>
      have HK : Hid (Gr.g f (.pairGo a) r = Gr.g k (.pairGo (Gr.tyN 4 Gr.none8 [] [x, b])) r2) := by show _ = _; rw [hk0, hG]; rfl
      have qG : Hid (∀ W, Rd W B S us.tail → Calls Tryz.prog 89 #[.pointer (some ⟨B, 0, none⟩)] W (Gr.Ans B S 0 W (.ok b r2))) := fun W hW => by rw [← hG]; exact ihA k (by omega) W B S us.tail hW (by rw [hG]; simp)
      have HLen : Hid (r2.length < us.length) := by show _ < _; have := Gr.ok_len hG; have := Gr.isT_len hT; omega
      clear hk0 hK ihA hG
      go_wp2_with (go_at_call 15; refine (gr_take _ B S us hR ⟨#[42]⟩ true hT).mono ?_; rintro e w2 ⟨rfl, hR2, hB2⟩; have hbx2 := hbx.out.bes hB2 (by omega); have hbl2 := hbl.out.bes hB2 (by omega); obtain ⟨⟨k0, k1, k2, k3⟩, z0, z1, z2, z3⟩ := hbx2.e4; obtain ⟨⟨l0, l1, l2, l3⟩, y0, y1, y2, y3⟩ := hbl2.e4; have hB2' : Bes B w w2 := hB.trans hB2; have hx2 : Hid (At w2 (Gx (w.heap.size + 1) L) n 0 [.int .i64 xi, .string xs, .slice xa xn xc, .slice xd xm xe] x) := hB2.atx (by omega) hx.out)
      go_region_with (go_at_call 89; refine (qG.out _ (hR2.below (Below.refl _ _).drew)).mono ?_; rintro e w3 ⟨⟨us2, p, rfl, hb0⟩, hR3, hB3⟩; obtain ⟨yi, ys, ya, yn, yc, yd, ym, ye, rfl⟩ := hb0.ty_form; have hbl3 := (hbl2.below (Below.refl _ _).drew).bes hB3 (by omega); obtain ⟨⟨mk0, mk1, mk2, mk3⟩, mz0, mz1, mz2, mz3⟩ := hbl3.e4; have hbx3 : Hid (Bx w3 w.heap.size [.int .i64 0, .string ⟨#[]⟩, .slice none 0 0, .slice none 0 0]) := (hbx2.below (Below.refl _ _).drew).bes hB3 (by omega); have hx3 : Hid (At w3 (Gx (w.heap.size + 1) L) n 0 [.int .i64 xi, .string xs, .slice xa xn xc, .slice xd xm xe] x) := ((Bes.of_below (B := B) (Below.refl _ _).drew).trans hB3).atx (by omega) hx2.out; have hL2 : L < w2.heap.size := hbl2.lt; have hb3 : Hid (At w3 (Gx (w.heap.size + 1) L) p 0 [.int .i64 yi, .string ys, .slice ya yn yc, .slice yd ym ye] b) := At.gx2 hb0 (by simp; omega) (by simp; omega); have hB3' : Bes B w w3 := hB2'.drew.trans hB3; have hltl : L < w3.heap.size := hbl3.lt; clear hb0)
      all_goals
       go_wp2
       go_roundw
       case rel =>
        refine ⟨k, max n p + 1, r2, Gr.tyN 4 Gr.none8 [] [x, b], [.int .i64 4, .string ⟨#[]⟩, .slice none 0 0, .slice (some ⟨w3.heap.size, 0, none⟩) 2 2], ⟨by omega, HK.out⟩, ⟨?_, ?_⟩, ?_, ?_, ?_⟩
        ·
         refine Bx.of4 ?_ ?_ ?_ ?_ ?_ ?_ ?_ ?_ <;> simp [go_sem, hltl, mk0, mk1, mk2, mk3, mz0, mz1, mz2, mz3]
        ·
         refine Save.atx (w := w3.alloc (.cells #[.int .i64 xi, .string xs, .slice xa xn xc, .slice xd xm xe, .int .i64 yi, .string ys, .slice ya yn yc, .slice yd ym ye] 41)) ?_ (At.ty_mk (by decide) (by decide) (Tx.none0 ..) (fun x hx => by cases hx) (Nat.zero_le _) (AtL.mk2x (At.le hx3.out (Nat.le_max_left n p)) (At.le hb3.out (Nat.le_max_right n p)) ⟨by omega, by omega⟩ 41 rfl rfl))
         simp only [sv]
        ·
         refine Bx.save (M := L) (hbx3.out.below (bl_alloc (Below.refl _ _) (.cells #[.int .i64 xi, .string xs, .slice xa xn xc, .slice xd xm xe, .int .i64 yi, .string ys, .slice ya yn yc, .slice yd ym ye] 41))) ?_ (by omega)
         simp only [sv]
        ·
         refine Rd.save (b := L) (hR3.alloc (.cells #[.int .i64 xi, .string xs, .slice xa xn xc, .slice xd xm xe, .int .i64 yi, .string ys, .slice ya yn yc, .slice yd ym ye] 41)) ?_ (by omega)
         simp only [sv]
        ·
         refine Bes.save (b := L) (hB3'.alloc (.cells #[.int .i64 xi, .string xs, .slice xa xn xc, .slice xd xm xe, .int .i64 yi, .string ys, .slice ya yn yc, .slice yd ym ye] 41)) ?_ (by omega)
         simp only [sv]
       case measure =>
        refine Gr.less (Rd.left (Rd.save (b := L) (hR3.alloc (.cells #[.int .i64 xi, .string xs, .slice xa xn xc, .slice xd xm xe, .int .i64 yi, .string ys, .slice ya yn yc, .slice yd ym ye] 41)) ?_ (by omega))) ?_
        ·
         simp only [sv]
        ·
         rw [hR.left]; exact HLen.out
def Fresh (w : World) (v v' : Value) : Prop := v'.ownBlock = v.ownBlock ∨ ∀ k, v'.ownBlock = some k → w.heap.size ≤ k
theorem append_own2 {P : Program} (w : World) (base : Nat) (t ty e : TypeId) (i : TypeInfo) (z : Value) (size bytes : Nat) (ht : P.underlying t = some (.slice e)) (hi : P.info? e = some i) (hz : i.zero = some z)
  (hsize : i.size = size) (hby : i.bytes = bytes) (hzs : z.cells.size = size) (hsz : 0 < size) (v : Value) (n : Nat) (xs : List Value) (hown : w.ownsRow base e size v n xs)
  (a : Addr) (m c : Nat) (news : List Value) (hl : news.length = m * size) (hnews : ∀ j u, news[j]? = some u → w.cell? (a.add j) = some u) (h1 : ∀ u ∈ news, u.oneCell' = true)
  (h63 : n + m ≤ maxLen) (hbytes : (n + m) * bytes ≤ 140737488355328) (hbase : base ≤ w.heap.size) :
  ∃ v' w', (Builtin.append_ #[t, t] ty #[v, .slice (some a) m c]).run P w = .ok v' w' ∧ w'.ownsRow base e size v' (n + m) (xs ++ news) ∧ w.grownBy w' v.ownBlock ∧ Fresh w v v' := by
 obtain ⟨v', w', hr, h2, h3, -⟩ := run_append_own (P := P) w base t ty e i z size bytes ht hi hz hsize hby hzs hsz v n xs hown a m c news hl hnews h1 h63 hbytes hbase
 refine ⟨v', w', hr, h2, h3, ?_⟩
 rcases hown.2 with ⟨hv, hn⟩ | ⟨g, cap, cur, hv, hbg, hg, hnc, hcm, hcs, htake⟩
 ·
  have ho : w.ownsRow w.heap.size e size v n xs := ⟨hown.1, .inl ⟨hv, hn⟩⟩
  obtain ⟨v2, w2, hr2, h22, -, -⟩ := run_append_own (P := P) w w.heap.size t ty e i z size bytes ht hi hz hsize hby hzs hsz v n xs ho a m c news hl hnews h1 h63 hbytes (Nat.le_refl _)
  rw [hr] at hr2
  injection hr2 with e1 e2
  subst e1
  exact .inr fun k hk => (h22.lt k hk).1
 ·
  subst hsize
  subst hby
  subst hv
  by_cases hroom : n + m ≤ cap
  ·
   have hfit : n * i.size + news.length ≤ cur.size := by rw [hl, hcs, ← Nat.add_mul]; exact Nat.mul_le_mul_right _ hroom
   rw [run_append_room (P := P) w t ty e i ht hi g n cap cur hg a m c news hl hnews h1 hroom hfit] at hr
   injection hr with e1 e2
   subst e1
   exact .inl rfl
  ·
   have h63' : ((n + m : Nat) : Int) ≤ 9223372036854775807 := by simp only [maxLen] at h63; omega
   rw [run_append_grow (P := P) w t ty e i z ht hi hz ⟨g, 0, none⟩ n cap xs hown.1 (hown.cells (g := g) rfl) a m c news hl hnews (by omega) h63' (growslice_fits (by omega) hbytes)] at hr
   injection hr with e1 e2
   subst e1
   refine .inr fun k hk => ?_
   simp [Value.ownBlock] at hk
   omega
theorem step_append2 {P : Program} {ops : Array Oper} {o : Oper} {a : Act} {w : World} {K : Act → World → Prop} {Q : Exit → Act → World → Prop} {E : Prop}
  (hgd : o.guard = none) (s x : Operand) (t : TypeId) (hop : o.op = .call { callee := .builtin .append, args := #[s, x], argTypes := #[t, t] })
  (base : Nat) (e : TypeId) (i : TypeInfo) (z : Value) (size bytes : Nat) (ht : P.underlying t = some (.slice e)) (hi : P.info? e = some i) (hz : i.zero = some z)
  (hsize : i.size = size) (hby : i.bytes = bytes) (hzs : z.cells.size = size) (hsz : 0 < size) (v : Value) (n : Nat) (xs : List Value) (hs : a.eval s = v) (hown : w.ownsRow base e size v n xs)
  (ad : Addr) (m c : Nat) (news : List Value) (hx : a.eval x = .slice (some ad) m c) (hl : news.length = m * size) (hnews : ∀ j u, news[j]? = some u → w.cell? (ad.add j) = some u) (h1 : ∀ u ∈ news, u.oneCell' = true)
  (h63 : n + m ≤ maxLen) (hbytes : (n + m) * bytes ≤ 140737488355328) (hbase : base ≤ w.heap.size)
  (hK : ∀ v' w', w'.ownsRow base e size v' (n + m) (xs ++ news) → w.grownBy w' v.ownBlock → Fresh w v v' → K (a.put o.dst v') w') :
  if Region.wanted o (yielded ops a.tmps) = true then Oper.wp P o a w K Q else E := by
 have hw : Region.wanted o (yielded ops a.tmps) = true := by simp [Region.wanted, hgd]
 rw [if_pos hw]
 obtain ⟨v', w', hr, h2, h3, h4⟩ := append_own2 (P := P) w base t o.type e i z size bytes ht hi hz hsize hby hzs hsz v n xs hown ad m c news hl hnews h1 h63 hbytes hbase
 unfold Oper.wp execOp
 simp only [hop, resolve, invoke, builtin, Sem.run_bind, Sem.run_pure, Result.andThen_ok, List.map_toArray, List.map_cons, List.map_nil, hs, hx, hr]
 exact hK v' w' h2 h3 h4
def Gz (m L : Nat) (u v : Value) : Nat → Prop := fun b => m ≤ b ∧ b ≠ L ∧ u.ownBlock ≠ some b ∧ v.ownBlock ≠ some b
def NrE (w : World) (K : Nat → Prop) (n s : Nat) (xs : List Value) (l : List Nd) : Prop := ∀ i x, l[i]? = some x → ∃ vs, vs.length = Nd.size s ∧ (∀ j u, vs[j]? = some u → xs[i * Nd.size s + j]? = some u) ∧ At w K n s vs x
theorem NrE.move {w w' : World} {K K' : Nat → Prop} {n n' s : Nat} {xs : List Value} {l : List Nd} (h : NrE w K n s xs l) (hk : Keeps K w w') (hK : ∀ b, K b → K' b) (hn : n ≤ n') : NrE w' K' n' s xs l := fun i x hx => by
 obtain ⟨vs, h1, h2, h3⟩ := h i x hx
 exact ⟨vs, h1, h2, At.le (At.move hk hK _ _ _ _ h3) hn⟩
theorem NrE.lt {w : World} {K : Nat → Prop} {n s : Nat} {xs : List Value} {l : List Nd} (h : NrE w K n s xs l) : NrE w (fun b => K b ∧ b < w.heap.size) n s xs l := fun i x hx => by
 obtain ⟨vs, h1, h2, h3⟩ := h i x hx
 exact ⟨vs, h1, h2, At.lt _ _ _ _ h3⟩
theorem NrE.snoc {w : World} {K : Nat → Prop} {n s : Nat} {xs vs : List Value} {l : List Nd} {x : Nd} (h : NrE w K n s xs l) (hl : xs.length = l.length * Nd.size s) (hv : vs.length = Nd.size s) (hx : At w K n s vs x) : NrE w K n s (xs ++ vs) (l ++ [x]) := fun i y hy => by
 rcases Nat.lt_or_ge i l.length with hi | hi
 ·
  rw [List.getElem?_append_left hi] at hy
  obtain ⟨us, h1, h2, h3⟩ := h i y hy
  refine ⟨us, h1, fun j u hu => ?_, h3⟩
  have := h2 j u hu
  rw [List.getElem?_append_left (List.getElem?_eq_some_iff.1 this).1]
  exact this
 ·
  have hi2 := (List.getElem?_eq_some_iff.1 hy).1
  simp only [List.length_append, List.length_singleton] at hi2
  obtain rfl : i = l.length := by omega
  rw [List.getElem?_append_right (Nat.le_refl _)] at hy
  simp at hy
  subst hy
  refine ⟨vs, hv, fun j u hu => ?_, hx⟩
  rw [List.getElem?_append_right (by omega), show l.length * Nd.size s + j - xs.length = j by omega]
  exact hu
theorem Bes.gz {B m n s L : Nat} {w w' : World} {u v : Value} {vs : List Value} {nd : Nd} (h : Bes B w w') (hm : B < m) (ha : At w (Gz m L u v) n s vs nd) : At w' (Gz m L u v) n s vs nd := At.move (fun b o v hb hv => h.keeps hm b o v hb.1 hv) (fun _ h => h) _ _ _ _ ha
structure Nr (w : World) (m L : Nat) (eU : TypeId) (sU : Nat) (u : Value) (lU : List Nd) (eV : TypeId) (sV : Nat) (v : Value) (lV : List Nd) (n : Nat) : Prop where
 xu : ∃ xs, w.ownsRow m eU (Nd.size sU) u lU.length xs ∧ NrE w (Gz m L u v) n sU xs lU
 xv : ∃ xs, w.ownsRow m eV (Nd.size sV) v lV.length xs ∧ NrE w (Gz m L u v) n sV xs lV
 ne : ∀ k, u.ownBlock = some k → v.ownBlock ≠ some k
 lu : u.ownBlock ≠ some L
 lv : v.ownBlock ≠ some L
theorem Gz.swap {m L : Nat} {u v : Value} : ∀ b, Gz m L u v b → Gz m L v u b := fun b h => ⟨h.1, h.2.1, h.2.2.2, h.2.2.1⟩
theorem Nr.swap {w : World} {m L : Nat} {eU eV : TypeId} {sU sV n : Nat} {u v : Value} {lU lV : List Nd} (h : Nr w m L eU sU u lU eV sV v lV n) : Nr w m L eV sV v lV eU sU u lU n := by
 obtain ⟨xs, h1, h2⟩ := h.xu
 obtain ⟨ys, h3, h4⟩ := h.xv
 exact ⟨⟨ys, h3, h4.move (Keeps.refl _ _) Gz.swap (Nat.le_refl _)⟩, ⟨xs, h1, h2.move (Keeps.refl _ _) Gz.swap (Nat.le_refl _)⟩, fun k hk e => h.ne k e hk, h.lv, h.lu⟩
theorem Nr.nil (w : World) (m L : Nat) (eU eV : TypeId) (sU sV : Nat) : Nr w m L eU sU (.slice none 0 0) [] eV sV (.slice none 0 0) [] 0 :=
 ⟨⟨[], World.ownsRow_nil .., fun i x hx => by simp at hx⟩, ⟨[], World.ownsRow_nil .., fun i x hx => by simp at hx⟩, fun k hk => by simp [Value.ownBlock] at hk, by simp [Value.ownBlock], by simp [Value.ownBlock]⟩
theorem own_lt {w : World} {base : Nat} {e : TypeId} {size : Nat} {v : Value} {n : Nat} {xs : List Value} (h : w.ownsRow base e size v n xs) {k : Nat} (hk : v.ownBlock = some k) : k < w.heap.size := (h.lt k hk).2
theorem Nr.bes {B : Nat} {w w' : World} {m L : Nat} {eU eV : TypeId} {sU sV n : Nat} {u v : Value} {lU lV : List Nd} (h : Nr w m L eU sU u lU eV sV v lV n) (hb : Bes B w w') (hB : B < m) : Nr w' m L eU sU u lU eV sV v lV n := by
 obtain ⟨xs, h1, h2⟩ := h.xu
 obtain ⟨ys, h3, h4⟩ := h.xv
 have hk : Keeps (Gz m L u v) w w' := fun b o x hx hv => hb.keeps hB b o x hx.1 hv
 exact ⟨⟨xs, own_bes h1 hb hB, h2.move hk (fun _ h => h) (Nat.le_refl _)⟩, ⟨ys, own_bes h3 hb hB, h4.move hk (fun _ h => h) (Nat.le_refl _)⟩, h.ne, h.lu, h.lv⟩
theorem own_save {M base : Nat} {w w' : World} {e : TypeId} {size n : Nat} {v : Value} {xs : List Value} (h : w.ownsRow base e size v n xs) (hb : Save M w w') (hM : v.ownBlock ≠ some M) : w'.ownsRow base e size v n xs := by
 refine ⟨h.1, h.2.imp id ?_⟩
 rintro ⟨g, cap, cur, hv, hg, hh, r⟩
 refine ⟨g, cap, cur, hv, hg, (hb.block g (fun e => hM ?_)).trans hh, r⟩
 rw [hv, ← e]; rfl
theorem Nr.save {w w' : World} {m L : Nat} {eU eV : TypeId} {sU sV n : Nat} {u v : Value} {lU lV : List Nd} (h : Nr w m L eU sU u lU eV sV v lV n) (hs : Save L w w') : Nr w' m L eU sU u lU eV sV v lV n := by
 obtain ⟨xs, h1, h2⟩ := h.xu
 obtain ⟨ys, h3, h4⟩ := h.xv
 have hk : Keeps (Gz m L u v) w w' := Keeps.of_save hs (fun h => h.2.1 rfl)
 exact ⟨⟨xs, own_save h1 hs h.lu, h2.move hk (fun _ h => h) (Nat.le_refl _)⟩, ⟨ys, own_save h3 hs h.lv, h4.move hk (fun _ h => h) (Nat.le_refl _)⟩, h.ne, h.lu, h.lv⟩
theorem Nr.new {w w' : World} {m L k : Nat} {eU eV : TypeId} {sU sV n n' s : Nat} {u v : Value} {lU lV : List Nd} {vs : List Value} {nd : Nd} (h : Nr w m L eU sU u lU eV sV v lV n) (ha : At w' (Ge k) n' s vs nd) (hk : w.heap.size ≤ k) (hm : m ≤ k) (hL : L < k) : At w' (Gz m L u v) n' s vs nd := by
 obtain ⟨xs, h1, -⟩ := h.xu
 obtain ⟨ys, h3, -⟩ := h.xv
 refine At.move (Keeps.refl _ _) (fun b hb => ⟨Nat.le_trans hm hb, ?_, fun e => ?_, fun e => ?_⟩) _ _ _ _ ha
 ·
  have : k ≤ b := hb; omega
 ·
  have : k ≤ b := hb; have := own_lt h1 e; omega
 ·
  have : k ≤ b := hb; have := own_lt h3 e; omega
theorem Nr.app {w w' : World} {m L : Nat} {eU eV : TypeId} {sU sV n n' : Nat} {u v u' : Value} {lU lV : List Nd} {xs vs : List Value} {nd : Nd} (h : Nr w m L eU sU u lU eV sV v lV n) (h1 : w.ownsRow m eU (Nd.size sU) u lU.length xs) (h2 : NrE w (Gz m L u v) n sU xs lU)
  (hown : w'.ownsRow m eU (Nd.size sU) u' (lU.length + 1) (xs ++ vs)) (hg : w.grownBy w' u.ownBlock) (hf : Fresh w u u') (ha : At w (Gz m L u v) n' sU vs nd) (hlen : vs.length = Nd.size sU) (hL : L < w.heap.size) : Nr w' m L eU sU u' (lU ++ [nd]) eV sV v lV (max n n') := by
 obtain ⟨ys, h3, h4⟩ := h.xv
 have hk : Keeps (fun b => Gz m L u v b ∧ b < w.heap.size) w w' := fun b o x hx hv => hg.cell hv (fun e => hx.1.2.2.1 e.symm)
 have hK : ∀ b, Gz m L u v b ∧ b < w.heap.size → Gz m L u' v b := fun b hb => ⟨hb.1.1, hb.1.2.1, fun e => by
  rcases hf with hf | hf
  ·
   exact hb.1.2.2.1 (hf ▸ e)
  ·
   have := hf b e; omega, hb.1.2.2.2⟩
 refine ⟨⟨xs ++ vs, by rw [List.length_append]; exact hown, NrE.snoc (h2.lt.move hk hK (Nat.le_max_left _ _)) h1.1 hlen (At.le (At.move hk hK _ _ _ _ (At.lt _ _ _ _ ha)) (Nat.le_max_right _ _))⟩, ⟨ys, h3.kept hg ?_, h4.lt.move hk hK (Nat.le_max_left _ _)⟩, fun k hk e => ?_, fun e => ?_, h.lv⟩
 ·
  cases hv : v.ownBlock with
  | none => exact .inl rfl
  | some k => exact .inr (fun e => h.ne k e.symm hv)
 ·
  rcases hf with hf | hf
  ·
   exact h.ne k (hf ▸ hk) e
  ·
   have := hf k hk; have := own_lt h3 e; omega
 ·
  rcases hf with hf | hf
  ·
   exact h.lu (hf ▸ e)
  ·
   have := hf L e; omega
theorem Nr.row {w : World} {m L : Nat} {eU eV : TypeId} {sU sV n : Nat} {u v : Value} {lU lV : List Nd} (h : Nr w m L eU sU u lU eV sV v lV n) : AtL w (Gx m L) n sU u lU := by
 obtain ⟨xs, h1, h2⟩ := h.xu
 have hlu := h.lu
 rcases h1.2 with ⟨hv, hn⟩ | ⟨g, cap, cur, hv, hg, hh, hc, hm, hz, ht⟩
 ·
  exact .inr ⟨List.eq_nil_of_length_eq_zero hn, _, _, hv⟩
 ·
  refine .inl ⟨g, 0, cap, hv, ⟨hg, fun e => hlu (by rw [hv, e]; rfl)⟩, hc, by omega, fun i x hx => ?_⟩
  obtain ⟨vs, k1, k2, k3⟩ := h2 i x hx
  refine ⟨vs, k1, fun j y hy => ?_, At.move (Keeps.refl _ _) (fun b hb => ⟨hb.1, hb.2.1⟩) _ _ _ _ k3⟩
  have hq := k2 j y hy
  rw [← ht, List.getElem?_take] at hq
  split at hq
  ·
   have h3 : cur[i * Nd.size sU + j]? = some y := by rw [← Array.getElem?_toList]; exact hq
   rw [Nat.zero_add, World.cell?]
   simp [hh, h3]
  ·
   cases hq
theorem Nr.one {w : World} {m L : Nat} {sV n : Nat} {vs : List Value} {nd : Nd} (eU eV : TypeId) (sU : Nat) (ha : At w (Ge m) n sV vs nd) (hlen : vs.length = Nd.size sV) (hm : m ≤ w.heap.size) (hL : w.heap.size < L) :
  Nr (w.alloc (.cells vs.toArray eV)) m L eU sU (.slice none 0 0) [] eV sV (.slice (some ⟨w.heap.size, 0, none⟩) 1 1) [nd] n := by
 refine ⟨⟨[], World.ownsRow_nil .., fun i x hx => by simp at hx⟩, ⟨vs, ⟨by simp [hlen], .inr ⟨w.heap.size, 1, vs.toArray, rfl, hm, by show (w.heap.push _)[w.heap.size]? = _; simp, Nat.le_refl _, by unfold maxLen; simp, by simp [hlen], by simp [← hlen]⟩⟩, ?_⟩, fun k hk => by simp [Value.ownBlock] at hk, by simp [Value.ownBlock], by simp [Value.ownBlock]; omega⟩
 intro i x hx
 match i, hx with
 | 0, hx =>
  cases hx
  refine ⟨vs, hlen, fun j u hu => by simpa using hu, At.move (Keeps.of_below (bl_alloc (Below.refl _ _) _)) (fun b hb => ⟨hb.1, ?_, by simp [Value.ownBlock], ?_⟩) _ _ _ _ (At.lt _ _ _ _ ha)⟩
  ·
   have := hb.2; omega
  ·
   have := hb.2; simp [Value.ownBlock]; omega
theorem Bx.grown {w w' : World} {b : Nat} {v : Value} {vs : List Value} {row : Option Nat} (h : Bx w b (v :: vs)) (hg : w.grownBy w' row) (hr : some b ≠ row) : Bx w' b (v :: vs) :=
 ⟨fun j u hu => (World.cell?_of_block (w := w) (hg.block b h.lt hr)).trans (h.c j u hu), fun j hj => (World.frozen?_of_block (w := w) (hg.block b h.lt hr)).trans (h.z j hj)⟩
def NewC (w : World) (b : Nat) (vs : List Value) : Prop := ∀ j u, vs[j]? = some u → w.cell? ((⟨b, 0, none⟩ : Addr).add j) = some u
theorem NewC.mk (w : World) (vs : List Value) (t : TypeId) {b : Nat} (hb : w.heap.size = b) : NewC (w.alloc (.cells vs.toArray t)) b vs := fun j u hu => by
 have hadd : (⟨b, 0, none⟩ : Addr).add j = ⟨b, j, none⟩ := by unfold Addr.add; split <;> simp_all
 rw [hadd, World.cell?_alloc_at _ _ _ _ hb.symm]
 simpa using hu
theorem NewC.bes {B b : Nat} {w w' : World} {vs : List Value} (h : NewC w b vs) (hb : Bes B w w') (hB : b ≠ B) : NewC w' b vs := fun j u hu => by
 have hadd : (⟨b, 0, none⟩ : Addr).add j = ⟨b, j, none⟩ := by unfold Addr.add; split <;> simp_all
 have := h j u hu
 rw [hadd] at this ⊢
 exact (hb.cell (World.block_lt_of_cell? w _ this) hB).trans this
theorem Bx.newAt (w : World) (vs : List Value) (t : TypeId) {b : Nat} (hb : w.heap.size = b) : Bx (w.alloc (.cells vs.toArray t)) b vs := hb ▸ Bx.new w vs t
theorem Bx.ej {w : World} {b : Nat} {vs : List Value} (h : Bx w b vs) (j : Nat) (v : Value) (hv : vs[j]? = some v) : w.cell? ⟨b, j, none⟩ = some v ∧ w.frozen? ⟨b, j, none⟩ = false := by
 have h1 := h.c j v hv
 rw [Nat.zero_add] at h1
 exact ⟨h1, h.z j (List.getElem?_eq_some_iff.1 hv).1⟩
theorem Bx.set {w : World} {b : Nat} {vs : List Value} (h : Bx w b vs) (j : Nat) (u : Value) (hj : j < vs.length) : Bx (w.setCell ⟨b, j, none⟩ u) b (vs.set j u) := by
 refine ⟨fun i v hv => ?_, fun i hi => ?_⟩
 ·
  rw [Nat.zero_add]
  by_cases e : j = i
  ·
   subst e
   rw [List.getElem?_set_self hj] at hv
   cases hv
   exact World.cell?_setCell_same _ _ _ (h.ej j _ (List.getElem?_eq_getElem hj)).1
  ·
   rw [List.getElem?_set_ne e] at hv
   rw [World.cell?_setCell_other _ _ _ _ (by intro q; rw [Addr.mk.injEq] at q; exact e q.2.1)]
   exact (h.ej i v hv).1
 ·
  have := h.z i (by simpa using hi)
  simpa [go_sem] using this
theorem Bx.e9 {w : World} {b : Nat} {v0 v1 v2 v3 v4 v5 v6 v7 v8 : Value} (h : Bx w b [v0, v1, v2, v3, v4, v5, v6, v7, v8]) : (w.cell? ⟨b, 0, none⟩ = some v0 ∧ w.cell? ⟨b, 1, none⟩ = some v1 ∧ w.cell? ⟨b, 2, none⟩ = some v2 ∧ w.cell? ⟨b, 3, none⟩ = some v3 ∧ w.cell? ⟨b, 4, none⟩ = some v4 ∧ w.cell? ⟨b, 5, none⟩ = some v5 ∧ w.cell? ⟨b, 6, none⟩ = some v6 ∧ w.cell? ⟨b, 7, none⟩ = some v7 ∧ w.cell? ⟨b, 8, none⟩ = some v8) ∧ w.frozen? ⟨b, 0, none⟩ = false ∧ w.frozen? ⟨b, 1, none⟩ = false ∧ w.frozen? ⟨b, 2, none⟩ = false ∧ w.frozen? ⟨b, 3, none⟩ = false ∧ w.frozen? ⟨b, 4, none⟩ = false ∧ w.frozen? ⟨b, 5, none⟩ = false ∧ w.frozen? ⟨b, 6, none⟩ = false ∧ w.frozen? ⟨b, 7, none⟩ = false ∧ w.frozen? ⟨b, 8, none⟩ = false :=
 ⟨⟨(h.ej 0 _ rfl).1, (h.ej 1 _ rfl).1, (h.ej 2 _ rfl).1, (h.ej 3 _ rfl).1, (h.ej 4 _ rfl).1, (h.ej 5 _ rfl).1, (h.ej 6 _ rfl).1, (h.ej 7 _ rfl).1, (h.ej 8 _ rfl).1⟩, (h.ej 0 _ rfl).2, (h.ej 1 _ rfl).2, (h.ej 2 _ rfl).2, (h.ej 3 _ rfl).2, (h.ej 4 _ rfl).2, (h.ej 5 _ rfl).2, (h.ej 6 _ rfl).2, (h.ej 7 _ rfl).2, (h.ej 8 _ rfl).2⟩
set_option linter.unusedSimpArgs false
def Gr.params (ts : Gr.Ts) : Gr.PRes := if Gr.kd ts = 1 then .ok (Gr.hd ts :: (Gr.lows ts.tail).1) true (Gr.lows ts.tail).2 else .bad ts 11

set_option maxHeartbeats 800000 in
set_option maxRecDepth 100000 in
theorem gr_low_yes (w : World) (B S : Nat) (ts : Gr.Ts) (h : Rd w B S ts) (hk : Gr.kd ts = 1) :
  Calls Tryz.prog 137 #[.pointer (some ⟨B, 0, none⟩)] w fun e w' => e = .returned (.string (Gr.hd ts)) ∧ Rd w' B S ts.tail ∧ Bes B w w' := by
 have q : Hid (Calls Tryz.prog 140 #[.pointer (some ⟨B, 0, none⟩), .int .i64 1] w fun e w' => e = .returned (.string (Gr.hd ts)) ∧ Rd w' B S ts.tail ∧ Bes B w w') := gr_name_yes w B S ts h 0 hk
 clear h hk
 go_enter Tryz.func137, Tryz.ntmps137
 go_wp2_with (go_at_call 140; refine q.out.mono ?_; rintro e w1 ⟨rfl, hR, hB⟩)
 go_ret
 exact ⟨rfl, hR, hB⟩

set_option maxHeartbeats 800000 in
set_option maxRecDepth 100000 in
theorem gr_low_no (w : World) (B S : Nat) (ts : Gr.Ts) (h : Rd w B S ts) (hk : Gr.kd ts ≠ 1) :
  Calls Tryz.prog 137 #[.pointer (some ⟨B, 0, none⟩)] w fun e w' => e = .panicked [Gr.pe (Gr.place S ts) 11] ∧ Rd w' B S ts ∧ Bes B w w' := by
 have q : Hid (Calls Tryz.prog 140 #[.pointer (some ⟨B, 0, none⟩), .int .i64 1] w fun e w' => e = .panicked [Gr.pe (Gr.place S ts) 11] ∧ Rd w' B S ts ∧ Bes B w w') := gr_name_no w B S ts h 1 hk
 clear h hk
 go_enter Tryz.func137, Tryz.ntmps137
 go_wp2_with (go_at_call 140; refine q.out.mono ?_; rintro e w1 ⟨rfl, hR, hB⟩)
 exact ⟨rfl, rfl, hR, hB⟩

set_option maxHeartbeats 1600000 in
set_option maxRecDepth 100000 in
theorem gr_params (w : World) (B S : Nat) (ts : Gr.Ts) (h : Rd w B S ts) :
  Calls Tryz.prog 138 #[.pointer (some ⟨B, 0, none⟩)] w (Gr.LAns B S w (Gr.params ts)) := by
 obtain ⟨i0, hi, hz0, hz1, hz2⟩ := info_parts gr_info_string
 have hBlt := h.lt
 by_cases hk : Gr.kd ts = 1
 ·
  have q : Hid (Calls Tryz.prog 137 #[.pointer (some ⟨B, 0, none⟩)] w fun e w' => e = .returned (.string (Gr.hd ts)) ∧ Rd w' B S ts.tail ∧ Bes B w w') := gr_low_yes w B S ts h hk
  have H0 : Hid (Gr.params ts = .ok ([Gr.hd ts] ++ (Gr.lows ts.tail).1) true (Gr.lows ts.tail).2) := by show _ = _; unfold Gr.params; rw [if_pos hk]; rfl
  have hT0 : (Gr.hd ts).size ≤ maxLen ∧ ts.tail.length + 1 ≤ 1024 := by
   cases ts with
   | nil => cases hk
   | cons t r =>
    have h1 := (h.ok t (List.mem_cons_self ..)).len
    have h2 := h.len
    refine ⟨?_, by simpa using h2⟩
    show t.text.toArray.size ≤ maxLen
    rw [List.size_toArray]; unfold maxLen; omega
  have HT0 : Hid ((Gr.hd ts).size ≤ maxLen ∧ ts.tail.length + 1 ≤ 1024) := hT0
  clear hT0 h hk
  generalize Gr.hd ts = X at *
  go_enter Tryz.func138, Tryz.ntmps138
  go_wp2_with (go_at_call 137; refine q.out.mono ?_; rintro e w1 ⟨rfl, hRR, hBB⟩; have hR1 : Hid (Rd w1 B S ts.tail) := hRR; have hB1 : Bes B w w1 := hBB; clear hRR hBB)
  go_loopw [3] (fun v wr => ∃ (us : Gr.Ts) (acc : List ByteArray), Hid (Gr.params ts = .ok (acc ++ (Gr.lows us).1) true (Gr.lows us).2) ∧ acc.length + us.length ≤ 1024 ∧ Hid (∀ x, x ∈ acc → x.size ≤ maxLen) ∧ wr.ownsRow w.heap.size 9 1 v acc.length (acc.map Value.string) ∧ Rd wr B S us ∧ Bes B w wr) (fun _ wr => Gr.left B wr)
  case atStart => exact ⟨ts.tail, [X], H0, (by have := HT0.out.2; simp only [List.length_singleton]; omega), (fun x hx => by rw [List.mem_singleton] at hx; rw [hx]; exact HT0.out.1), ⟨rfl, .inr ⟨w1.heap.size, 1, #[.string X], rfl, hB1.size, by show (w1.heap.push _)[w1.heap.size]? = _; simp, Nat.le_refl _, by unfold maxLen; simp, rfl, rfl⟩⟩, hR1.out.alloc _, hB1.alloc _⟩
  case round =>
   clear H0 hR1 hB1 q HT0
   obtain ⟨us, acc, hH, hlen, hacc, hrow0, hRd0, hBes⟩ := hrel
   have hRd : Hid (Rd wr B S us) := hRd0
   have hrow : Hid (wr.ownsRow w.heap.size 9 1 _ acc.length (acc.map Value.string)) := hrow0
   obtain ⟨sa, sc, hsf⟩ := own_shape hrow0
   subst hsf
   have qn0 := gr_next wr B S us hRd0
   obtain ⟨K, hK⟩ : ∃ K : Int, (Gr.kd us : Int) = K := ⟨_, rfl⟩
   obtain ⟨T, hT⟩ : ∃ T : ByteArray, Gr.hd us = T := ⟨_, rfl⟩
   obtain ⟨n1, hn1⟩ : ∃ K : Int, (Gr.hn us : Int) = K := ⟨_, rfl⟩
   obtain ⟨n2, hn2⟩ : ∃ K : Int, Gr.at0 S us = K := ⟨_, rfl⟩
   obtain ⟨nz, hnz⟩ : ∃ b : Bool, decide (us ≠ []) = b := ⟨_, rfl⟩
   have qn : Hid (Calls Tryz.prog 32 #[.pointer (some ⟨B, 0, none⟩)] wr fun e w' => e = .returned (.tuple #[.agg #[.int .i64 K, .string T, .int .i64 n1, .int .i64 n2], .bool nz]) ∧ Below wr.heap.size wr w') := by rw [← hK, ← hT, ← hn1, ← hn2, ← hnz]; exact qn0
   clear hRd0 hrow0 qn0 hn1 hn2 hnz
   by_cases hk1 : Gr.kd us = 1
   ·
    obtain rfl : K = 1 := by omega
    cases us with
    | nil => cases hk1
    | cons t r =>
     have htl : T.size ≤ maxLen := by
      rw [← hT]
      have := (hRd.out.ok t (List.mem_cons_self ..)).len
      show t.text.toArray.size ≤ maxLen
      rw [List.size_toArray]; unfold maxLen; omega
     have hacc2 : Hid (∀ x, x ∈ acc ++ [T] → x.size ≤ maxLen) := fun x hx => by
      rcases List.mem_append.1 hx with h1 | h1
      ·
       exact hacc.out x h1
      ·
       rw [List.mem_singleton] at h1; rw [h1]; exact htl
     have hmap : Hid (∀ (v : Value) (W : World), W.ownsRow w.heap.size 9 1 v (acc.length + 1) (acc.map Value.string ++ [.string T]) → W.ownsRow w.heap.size 9 1 v (acc ++ [T]).length ((acc ++ [T]).map Value.string)) := fun v W h => by
      rw [List.map_append, List.length_append]; exact h
     have HX : Hid (Gr.params ts = .ok ((acc ++ [T]) ++ (Gr.lows r).1) true (Gr.lows r).2) := by
      show _ = _
      have hk2 : t.kind = 1 := hk1
      rw [hH.out, Gr.lows, if_pos hk2, ← hT, List.append_assoc]
      rfl
     have HLen : Hid (acc.length + (r.length + 1) ≤ 1024) := by have := hlen; simp only [List.length_cons] at this; exact this
     have hl2 : acc.length ≤ 1024 := by omega
     clear htl hacc hH hlen hK hT hk1
     go_wp2_with (first | (go_at_call 32; refine qn.out.mono ?_; rintro e w1 ⟨rfl, hb1⟩) | (go_at_call 34; refine (gr_step _ B S t r (hRd.out.below (bl_alloc hb1 _))).mono ?_; rintro e w2 ⟨rfl, hR2, hB2⟩; have hlt1 : B < w1.heap.size := (by have := hb1.size; have := hBes.size; omega); have x1 : w2.cell? ⟨w1.heap.size, 1, none⟩ = some (.string T) := (hB2.cell (by simp) (by simp; omega)).trans (by simp [go_sem]); have hBes2 : Bes B w w2 := (hBes.below (bl_alloc hb1 _)).trans hB2; have hrow2 := own_bes (hrow.out) ((Bes.of_below (bl_alloc hb1 _)).trans hB2) hBlt) | (at_builtin; refine wpList_append_own _ rfl _ _ 22 rfl w.heap.size 9 i0 (.string ⟨#[]⟩) 1 16 Tryz.underlying22 hi hz0 hz1 hz2 rfl (by decide) _ _ _ rfl (hrow2.alloc _) ⟨w2.heap.size, 0, none⟩ 1 1 [.string T] rfl rfl (cell_one_new _ _ _) (by simp [Value.oneCell']) (by unfold maxLen; omega) (by omega) (by have := hBes2.size; simp; omega) ?_; intro v' w3 hown' hgrow _; obtain ⟨va, vc, hvf⟩ := own_shape hown'; subst hvf; have hR3 : Hid (Rd w3 B S r) := (hR2.alloc _).grown hgrow (fun j ej => by have := own_row hrow2 j ej; omega); have hBes3 : Bes B w w3 := (hBes2.alloc _).grown hgrow (own_row hrow2); have hOwn : Hid (w3.ownsRow w.heap.size 9 1 (.slice va (acc.length + 1) vc) (acc.length + 1) (acc.map Value.string ++ [.string T])) := hown'; clear hown' hgrow))
     go_roundw
     case rel => exact ⟨r, acc ++ [T], HX, (by have := HLen.out; rw [List.length_append]; simp only [List.length_singleton]; omega), hacc2, hmap.out _ _ hOwn.out, hR3.out, hBes3⟩
     case measure => rw [hR3.out.left, hRd.out.left]; simp
   ·
    have hK1 : ¬ K = 1 := by omega
    have HX : Hid (Gr.params ts = .ok acc true us) := by
     show _ = _
     rw [hH.out]
     cases us with
     | nil => simp [Gr.lows]
     | cons t r =>
      have hk2 : ¬ t.kind = 1 := hk1
      rw [Gr.lows, if_neg hk2]; simp
    clear hH hK hT hk1
    go_wp2_with (go_at_call 32; refine qn.out.mono ?_; rintro e w1 ⟨rfl, hb1⟩)
    go_ret
    rw [HX.out]
    exact ⟨⟨_, rfl, Tx.own (own_bes hrow.out (Bes.of_below (B := B) (bl_alloc hb1 _)) hBlt), hacc.out, by unfold maxLen; omega⟩, hRd.out.below (bl_alloc hb1 _), hBes.below (bl_alloc hb1 _)⟩
 ·
  have q : Hid (Calls Tryz.prog 137 #[.pointer (some ⟨B, 0, none⟩)] w fun e w' => e = .panicked [Gr.pe (Gr.place S ts) 11] ∧ Rd w' B S ts ∧ Bes B w w') := gr_low_no w B S ts h hk
  have H0 : Hid (Gr.params ts = .bad ts 11) := by show _ = _; unfold Gr.params; rw [if_neg hk]
  clear h hk
  go_enter Tryz.func138, Tryz.ntmps138
  go_wp2_with (go_at_call 137; refine q.out.mono ?_; rintro e w1 ⟨rfl, hRR, hBB⟩)
  refine ⟨rfl, ?_⟩
  rw [H0.out]
  exact ⟨rfl, ⟨_, hRR⟩, hBB⟩
end Go.Proofs.YtjebepnphoeiaabGreatDoor
