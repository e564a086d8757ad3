/- Pieces: GrU. -/
import Derived.Test.YtjebepnphoeiaabGreatDoorQak
import Derived.Test.YtjebepnphoeiaabGreatDoorQbl
import Derived.Test.YtjebepnphoeiaabGreatDoorQbm
namespace Go.Proofs.YtjebepnphoeiaabGreatDoor
open Go.RowKit
set_option linter.unusedVariables false
set_option linter.unusedSimpArgs false

set_option maxHeartbeats 1600000 in
set_option maxRecDepth 100000 in
theorem gr_sum (f : Nat) (ihP : ∀ k, k ≤ f → Gr.Rule 67 .prod 2 k) : Gr.Rule 38 .sum 2 (f + 1) := by
 intro w B S ts h hne
 rw [show Gr.g (f + 1) .sum ts = ((Gr.g f .prod ts).bind fun a r => Gr.g f (.sumGo a) r) from rfl] at hne ⊢
 have hlt := h.lt
 obtain ⟨R, hRe⟩ : ∃ R, ((Gr.g f .prod ts).bind fun a r => Gr.g f (.sumGo a) r) = R := ⟨_, rfl⟩
 have q : Hid (∀ ob, Calls Tryz.prog 66 #[.pointer (some ⟨B, 0, none⟩), .func (.func 67) #[] #[], .slice (some ⟨w.heap.size + 1, 0, none⟩) 2 2] ((w.alloc ob).alloc (.cells #[.string ⟨#[43]⟩, .string ⟨#[45]⟩] 9)) (Gr.Ans B S 2 ((w.alloc ob).alloc (.cells #[.string ⟨#[43]⟩, .string ⟨#[45]⟩] 9)) R)) := fun ob => by
  rw [← hRe]
  exact gr_chain_sum f ihP _ B S ts ((h.alloc _).alloc _) (w.heap.size + 1) (by omega) (by rw [World.cell?_alloc_at _ _ _ _ (by simp)]; rfl) (by rw [World.cell?_alloc_at _ _ _ _ (by simp)]; rfl) hne
 rw [hRe] at hne ⊢
 clear h hRe ihP
 cases R with
 | out => exact absurd rfl hne
 | bad r c =>
  go_enter Tryz.func38, Tryz.ntmps38
  go_wp2_with (go_at_call 66; refine (q.out _).mono ?_; rintro e w1 ⟨rfl, hRR, hBB⟩)
  exact ⟨rfl, rfl, hRR, (((Bes.refl _ _).alloc _).alloc _).trans hBB⟩
 | ok a r =>
  go_enter Tryz.func38, Tryz.ntmps38
  go_wp2_with (go_at_call 66; refine (q.out _).mono ?_; rintro e w1 ⟨⟨vs, n, rfl, ha0⟩, hRR, hBB⟩; obtain ⟨xi, xj, xk, xa, xn, xc, xd0, xm0, xe0, xd1, xm1, xe1, xd2, xm2, xe2, xd3, xm3, xe3, rfl⟩ := ha0.exp_form; have ha : Hid (At w1 (Ge (w.heap.size + 1)) n 2 [.int .i64 xi, .int .i64 xj, .int .i64 xk, .slice xa xn xc, .slice xd0 xm0 xe0, .slice xd1 xm1 xe1, .slice xd2 xm2 xe2, .slice xd3 xm3 xe3] a) := At.move (Keeps.refl _ _) (Ge.le (by simp)) _ _ _ _ ha0; have hR1 : Hid (Rd w1 B S r) := hRR; have hB1 : Bes B w w1 := (((Bes.refl _ _).alloc _).alloc _).trans hBB; obtain ⟨⟨k0, k1, k2, k3, k4, k5, k6, k7⟩, z0, z1, z2, z3, z4, z5, z6, z7⟩ := (((Bx.new w [.int .i64 0, .int .i64 0, .int .i64 0, .slice none 0 0, .slice none 0 0, .slice none 0 0, .slice none 0 0, .slice none 0 0] 28).below (bl_alloc (Below.refl _ _) (.cells #[.string ⟨#[43]⟩, .string ⟨#[45]⟩] 9))).bes hBB (by omega)).e8; clear hRR hBB ha0)
  refine bodyPost_ret (v := .agg #[.int .i64 xi, .int .i64 xj, .int .i64 xk, .slice xa xn xc, .slice xd0 xm0 xe0, .slice xd1 xm1 xe1, .slice xd2 xm2 xe2, .slice xd3 xm3 xe3]) (by rw [results_cell1 (fn := Tryz.f38) (p := 2) (ty := 28) (by kernel_rfl)]; simp [go_sem, k0, k1, k2, k3, k4, k5, k6, k7]) rfl ?_
  exact Gr.Ans.mk hlt (by simp only [sv]) hR1.out hB1 ha.out

set_option maxHeartbeats 1600000 in
set_option maxRecDepth 100000 in
theorem gr_product (f : Nat) (ihP : ∀ k, k ≤ f → Gr.Rule 100 .app 2 k) : Gr.Rule 67 .prod 2 (f + 1) := by
 intro w B S ts h hne
 rw [show Gr.g (f + 1) .prod ts = ((Gr.g f .app ts).bind fun a r => Gr.g f (.prodGo a) r) from rfl] at hne ⊢
 have hlt := h.lt
 obtain ⟨R, hRe⟩ : ∃ R, ((Gr.g f .app ts).bind fun a r => Gr.g f (.prodGo a) r) = R := ⟨_, rfl⟩
 have q : Hid (∀ ob, Calls Tryz.prog 66 #[.pointer (some ⟨B, 0, none⟩), .func (.func 100) #[] #[], .slice (some ⟨w.heap.size + 1, 0, none⟩) 2 2] ((w.alloc ob).alloc (.cells #[.string ⟨#[42]⟩, .string ⟨#[47]⟩] 9)) (Gr.Ans B S 2 ((w.alloc ob).alloc (.cells #[.string ⟨#[42]⟩, .string ⟨#[47]⟩] 9)) R)) := fun ob => by
  rw [← hRe]
  exact gr_chain_prod f ihP _ B S ts ((h.alloc _).alloc _) (w.heap.size + 1) (by omega) (by rw [World.cell?_alloc_at _ _ _ _ (by simp)]; rfl) (by rw [World.cell?_alloc_at _ _ _ _ (by simp)]; rfl) hne
 rw [hRe] at hne ⊢
 clear h hRe ihP
 cases R with
 | out => exact absurd rfl hne
 | bad r c =>
  go_enter Tryz.func67, Tryz.ntmps67
  go_wp2_with (go_at_call 66; refine (q.out _).mono ?_; rintro e w1 ⟨rfl, hRR, hBB⟩)
  exact ⟨rfl, rfl, hRR, (((Bes.refl _ _).alloc _).alloc _).trans hBB⟩
 | ok a r =>
  go_enter Tryz.func67, Tryz.ntmps67
  go_wp2_with (go_at_call 66; refine (q.out _).mono ?_; rintro e w1 ⟨⟨vs, n, rfl, ha0⟩, hRR, hBB⟩; obtain ⟨xi, xj, xk, xa, xn, xc, xd0, xm0, xe0, xd1, xm1, xe1, xd2, xm2, xe2, xd3, xm3, xe3, rfl⟩ := ha0.exp_form; have ha : Hid (At w1 (Ge (w.heap.size + 1)) n 2 [.int .i64 xi, .int .i64 xj, .int .i64 xk, .slice xa xn xc, .slice xd0 xm0 xe0, .slice xd1 xm1 xe1, .slice xd2 xm2 xe2, .slice xd3 xm3 xe3] a) := At.move (Keeps.refl _ _) (Ge.le (by simp)) _ _ _ _ ha0; have hR1 : Hid (Rd w1 B S r) := hRR; have hB1 : Bes B w w1 := (((Bes.refl _ _).alloc _).alloc _).trans hBB; obtain ⟨⟨k0, k1, k2, k3, k4, k5, k6, k7⟩, z0, z1, z2, z3, z4, z5, z6, z7⟩ := (((Bx.new w [.int .i64 0, .int .i64 0, .int .i64 0, .slice none 0 0, .slice none 0 0, .slice none 0 0, .slice none 0 0, .slice none 0 0] 28).below (bl_alloc (Below.refl _ _) (.cells #[.string ⟨#[42]⟩, .string ⟨#[47]⟩] 9))).bes hBB (by omega)).e8; clear hRR hBB ha0)
  refine bodyPost_ret (v := .agg #[.int .i64 xi, .int .i64 xj, .int .i64 xk, .slice xa xn xc, .slice xd0 xm0 xe0, .slice xd1 xm1 xe1, .slice xd2 xm2 xe2, .slice xd3 xm3 xe3]) (by rw [results_cell1 (fn := Tryz.f67) (p := 2) (ty := 28) (by kernel_rfl)]; simp [go_sem, k0, k1, k2, k3, k4, k5, k6, k7]) rfl ?_
  exact Gr.Ans.mk hlt (by simp only [sv]) hR1.out hB1 ha.out
end Go.Proofs.YtjebepnphoeiaabGreatDoor
