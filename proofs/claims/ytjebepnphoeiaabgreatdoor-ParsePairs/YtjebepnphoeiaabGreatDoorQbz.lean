/- Pieces: GrEw. -/
import Derived.Test.YtjebepnphoeiaabGreatDoorQby
import Derived.Deep.RegionHeld
namespace Go.Proofs.YtjebepnphoeiaabGreatDoor
open Go.RowKit
set_option linter.unusedVariables false
set_option linter.unusedSimpArgs false

theorem Gr.stop44 (n : Nat) (z : Gr.Ts) : Gr.Stop (⟨6, [44], 0, n⟩ :: z) := ⟨rfl, fun x h => by
 unfold Gr.isT at h
 rw [Bool.and_eq_true, decide_eq_true_iff] at h
 exact .inr h.2.symm⟩
def Gr.pairN (a b : Nd) : Nd := Gr.expN 9 0 0 [] [] [a, b] [] []
theorem Gr.pair_paren {f n m k : Nat} {us vs : Gr.Ts} {a b : Nd} (h1 : Gr.g f .exp us = .ok a (⟨6, [44], 0, m⟩ :: vs)) (h2 : Gr.g f .exp vs = .ok b [⟨6, [41], 0, k⟩]) : Gr.g (f + 7) .exp (⟨6, [40], 0, n⟩ :: us) = .ok (Gr.pairN a b) [] := by
  refine Gr.exp_atom (Gr.atom_paren ?_)
  have h41 := Gr.begX_41 (Gr.exp_beg h1)
  rw [show Gr.g (f + 1) .restExp us = (if Gr.isT [41] us = true then .ok (Gr.expN 4 0 0 [] [] [] [] []) us.tail
      else (Gr.g f .exp us).bind fun a r =>
        if Gr.isT [44] r = true then (Gr.g f .exp r.tail).bind fun b r2 => Gr.need [41] r2 fun r3 => .ok (Gr.expN 9 0 0 [] [] [a, b] [] []) r3
        else if Gr.isT [58] r = true then (Gr.g f .ty r.tail).bind fun t r2 => Gr.need [41] r2 fun r3 => .ok (Gr.expN 14 0 0 [] [] [a] [] [t]) r3
        else Gr.need [41] r fun r2 => .ok a r2) from rfl, h41, if_neg (by simp), h1]
  show (Gr.g f .exp vs).bind _ = _
  rw [h2]
  rfl
theorem Nd.right_err {a : Nd} (h : Nd.rightX a = 0) : Nd.err 2 a = 0 := by
 unfold Nd.rightX at h
 split at h
 ·
  cases h
 ·
  exact h
theorem Nd.right_pair {a b : Nd} (ha : Nd.rightX a = 0) (hb : Nd.rightX b = 0) : Nd.rightX (Gr.pairN a b) = 0 ∨ Nd.rightX (Gr.pairN a b) = 4 := by
 have he : Nd.err 2 (Gr.pairN a b) = 0 := by
  unfold Gr.pairN Gr.expN
  rw [Nd.err]
  rw [Nd.firstE_zero (by rfl)]
  show Nd.errLL [1, 2, 3, 0] [[], [a, b], [], []] = 0
  rw [Nd.errLL, Nd.errL, Nd.firstE_zero rfl, Nd.errLL, Nd.errL, Nd.errL, Nd.errL, Nd.right_err ha, Nd.right_err hb, Nd.firstE_zero rfl, Nd.errLL, Nd.errL, Nd.firstE_zero rfl, Nd.errLL, Nd.errL, Nd.firstE_zero rfl, Nd.errLL]
  rfl
 unfold Nd.rightX
 split
 ·
  exact .inr rfl
 ·
  exact .inl he
theorem Gr.pairs {l m : List UInt8} {a b : Nd} (h1 : Gr.whole .exp Nd.rightX l = .node a) (h2 : Gr.whole .exp Nd.rightX m = .node b) :
  Gr.whole .exp Nd.rightX (40 :: (l ++ 10 :: 44 :: 10 :: (m ++ [10, 41]))) = .node (Gr.pairN a b) ∨ ∃ p c, Gr.whole .exp Nd.rightX (40 :: (l ++ 10 :: 44 :: 10 :: (m ++ [10, 41]))) = .err p c ∧ (c = 3 ∨ c = 4) := by
 obtain ⟨ts, hl, hg, h0⟩ := Gr.whole_node h1
 obtain ⟨vs, hl2, hg2, h02⟩ := Gr.whole_node h2
 obtain ⟨us2, hc2, hu2⟩ := Gr.lex_behind hl2
 obtain ⟨-, -, hN⟩ := Lx.lex_good hl
 have h3 := Lx.lexN_cons (l := 44 :: 10 :: (m ++ [10, 41])) (Lx.mk44 (10 :: (m ++ [10, 41]))) rfl (vs.length + 1)
 rw [Lx.lexN_skip (l := 10 :: (m ++ [10, 41])) (Lx.skip_blank (by decide)) (vs.length + 1), hu2] at h3
 obtain ⟨us, hc, hu⟩ := Lx.append_lex ts 1024 l hN 10 (44 :: 10 :: (m ++ [10, 41])) (vs.length + 2) _ (by decide) h3
 have h4 := Lx.lexN_cons (l := 40 :: (l ++ 10 :: 44 :: 10 :: (m ++ [10, 41]))) (Lx.mk40 (Gr.no_star hl hg (44 :: 10 :: (m ++ [10, 41])) 10 (by decide))) rfl (ts.length + (vs.length + 2))
 rw [hu] at h4
 rcases Lx.lex_cases h4 with ⟨h5, hlen⟩ | ⟨n, h5⟩
 ·
  have h6 := Gr.enough_of hlen (Gr.pair_paren (n := ([40] ++ (l ++ 10 :: 44 :: 10 :: (m ++ [10, 41]))).length) (Gr.ahead (Gr.stop44 _ _) hc hg) (Gr.ahead (Gr.stop41 1) hc2 hg2))
  unfold Gr.whole
  rw [h5]
  simp only
  rw [h6]
  simp only
  rcases Nd.right_pair h0 h02 with h7 | h7
  ·
   left; rw [if_pos h7]
  ·
   right
   refine ⟨0, 4, ?_, .inr rfl⟩
   rw [if_neg (by rw [h7]; decide), h7]
 ·
  right
  unfold Gr.whole
  rw [h5]
  exact ⟨_, 3, rfl, .inl rfl⟩
theorem Gr.pair_form {w : World} {n : Nat} {vs : List Value} {a b : Nd} (h : At w Any n 2 vs (Gr.pairN a b)) : ∃ (j k : Int) (sa : Option Addr) (sn sc : Nat) (pa : Option Addr) (pn pc : Nat) (g o c : Nat) (da : Option Addr) (dn dc : Nat) (ta : Option Addr) (tn tc : Nat) (us ws : List Value) (m : Nat), vs = [.int .i64 9, .int .i64 j, .int .i64 k, .slice sa sn sc, .slice pa pn pc, .slice (some ⟨g, o, none⟩) 2 c, .slice da dn dc, .slice ta tn tc] ∧ g < w.heap.size ∧ Cells w g o us ∧ Cells w g (o + 8) ws ∧ At w Any m 2 us a ∧ At w Any m 2 ws b := by
 cases n with
 | zero => exact h.elim
 | succ n =>
  obtain ⟨xi, xj, xk, xa, xn, xc, xd0, xm0, xe0, xd1, xm1, xe1, xd2, xm2, xe2, xd3, xm3, xe3, hf⟩ := h.exp_form
  obtain ⟨i0, i1, i2, p3, x3, v0, l0, v1, l1, v2, l2, v3, l3, hv, hn, -, -, -, -, -, k1, -, -⟩ := h.exp
  unfold Gr.pairN Gr.expN at hn
  injection hn with e1 e2
  injection e1 with e10 e11
  injection e10 with e10
  injection e2 with e20 e21
  injection e21 with e22 e23
  subst e10; subst e22
  rw [hf] at hv
  injection hv with q0 hv
  injection hv with q1 hv
  injection hv with q2 hv
  injection hv with q3 hv
  injection hv with q4 hv
  injection hv with q5 hv
  injection q0 with _ q0
  rcases k1 with ⟨g, o, c, hb, -, -, -, hc⟩ | ⟨h0, -⟩
  ·
   obtain ⟨us, u1, u2, u3⟩ := hc 0 _ rfl
   obtain ⟨ws, w1, w2, w3⟩ := hc 1 _ rfl
   have hu2 : Cells w g o us := by have := u2; simpa using this
   have hw2 : Cells w g (o + 8) ws := by have := w2; simpa [Nd.size] using this
   have hlt : g < w.heap.size := by
    cases us with
    | nil => cases u1
    | cons u us => exact World.block_lt_of_cell? w _ (hu2 0 u rfl)
   rw [hb] at q5
   refine ⟨xj, xk, xa, xn, xc, xd0, xm0, xe0, g, o, c, xd2, xm2, xe2, xd3, xm3, xe3, us, ws, n, ?_, hlt, hu2, hw2, u3, w3⟩
   rw [hf, q0, q5]
   rfl
  ·
   cases h0
theorem Cells.e8 {w : World} {b o : Nat} {v0 v1 v2 v3 v4 v5 v6 v7 : Value} (h : Cells w b o [v0, v1, v2, v3, v4, v5, v6, v7]) : w.cell? ⟨b, o, none⟩ = some v0 ∧ w.cell? ⟨b, o + 1, none⟩ = some v1 ∧ w.cell? ⟨b, o + 2, none⟩ = some v2 ∧ w.cell? ⟨b, o + 3, none⟩ = some v3 ∧ w.cell? ⟨b, o + 4, none⟩ = some v4 ∧ w.cell? ⟨b, o + 5, none⟩ = some v5 ∧ w.cell? ⟨b, o + 6, none⟩ = some v6 ∧ w.cell? ⟨b, o + 7, none⟩ = some v7 :=
 ⟨h 0 _ rfl, h 1 _ rfl, h 2 _ rfl, h 3 _ rfl, h 4 _ rfl, h 5 _ rfl, h 6 _ rfl, h 7 _ rfl⟩
theorem Cells.bl {w w' : World} {b o : Nat} {vs : List Value} (h : Cells w b o vs) (hb : Below w.heap.size w w') (hl : b < w.heap.size) : Cells w' b o vs := fun j v hv => (hb.cell hl).trans (h j v hv)

set_option maxHeartbeats 8000000 in
set_option maxRecDepth 100000 in
theorem pairs_walk (s t : ByteArray) (hs : s.size ≤ 140737488351232) (ht : t.size ≤ 140737488351232) (w : World) (hE : Er w) :
  Calls Tryz.prog 3 #[.string s, .string t] w fun e w' => e = .returned (.bool true) ∧ Below w.heap.size w w' := by
 have HE : Hid (∀ W, Below w.heap.size w W → Er W) := fun W h => hE.below h (Nat.le_refl _)
 have hsm : s.size ≤ maxLen := by unfold maxLen; omega
 have htm : t.size ≤ maxLen := by unfold maxLen; omega
 have hsz : s.data.toList.length = s.size := Array.length_toList
 have htz : t.data.toList.length = t.size := Array.length_toList
 obtain ⟨RS, hRS⟩ : ∃ R, Gr.whole .exp Nd.rightX s.data.toList = R := ⟨_, rfl⟩
 obtain ⟨RT, hRT⟩ : ∃ R, Gr.whole .exp Nd.rightX t.data.toList = R := ⟨_, rfl⟩
 by_cases hgo : RS.code = 0 ∧ RT.code = 0 ∧ s.size + t.size + 6 ≤ 4096
 ·
  obtain ⟨hc1, hc2, hfit⟩ := hgo
  obtain ⟨a, rfl⟩ : ∃ a, RS = .node a := by
   cases RS with
   | node a => exact ⟨a, rfl⟩
   | err p c => exact absurd hc1 (Gr.whole_codes (by decide) hRS)
  obtain ⟨b, rfl⟩ : ∃ b, RT = .node b := by
   cases RT with
   | node b => exact ⟨b, rfl⟩
   | err p c => exact absurd hc2 (Gr.whole_codes (by decide) hRT)
  have ce : Hid (∀ W, Er W → Calls Tryz.prog 4 #[.string s] W fun e w' => (∃ vs n, e = .returned (.tuple #[.agg vs.toArray, .int .i64 0, .int .i64 0]) ∧ At w' Any n 2 vs a) ∧ Below W.heap.size W w') := fun W h => gr_Exp_any s hsm W h _ hRS
  have cf : Hid (∀ W, Er W → Calls Tryz.prog 4 #[.string t] W fun e w' => (∃ vs n, e = .returned (.tuple #[.agg vs.toArray, .int .i64 0, .int .i64 0]) ∧ At w' Any n 2 vs b) ∧ Below W.heap.size W w') := fun W h => gr_Exp_any t htm W h _ hRT
  obtain ⟨T, hT⟩ : ∃ T : ByteArray, (⟨#[40]⟩ : ByteArray) ++ s ++ (⟨#[10, 44, 10]⟩ : ByteArray) ++ t ++ (⟨#[10, 41]⟩ : ByteArray) = T := ⟨_, rfl⟩
  have hl : T.data.toList = 40 :: (s.data.toList ++ 10 :: 44 :: 10 :: (t.data.toList ++ [10, 41])) := by rw [← hT, lxApp, lxApp, lxApp, lxApp]; simp
  have hTm : T.size ≤ maxLen := by rw [Lx.size_of hl, List.length_cons, List.length_append, hsz]; simp only [List.length_cons, List.length_append, htz]; unfold maxLen; simp; omega
  have hp := Gr.pairs hRS hRT
  rw [← hl] at hp
  have HT : Hid ((⟨#[40]⟩ : ByteArray) ++ s ++ (⟨#[10, 44, 10]⟩ : ByteArray) ++ t ++ (⟨#[10, 41]⟩ : ByteArray) = T) := hT
  have hsa := Nd.eq_self a
  have hsb := Nd.eq_self b
  clear hRS hRT hc1 hc2 hl hT hE hsm htm hsz htz
  rcases hp with hq | ⟨p, c, hq, hc⟩
  ·
   have cg : Hid (∀ W, Er W → Calls Tryz.prog 4 #[.string T] W fun e w' => (∃ vs n, e = .returned (.tuple #[.agg vs.toArray, .int .i64 0, .int .i64 0]) ∧ At w' Any n 2 vs (Gr.pairN a b)) ∧ Below W.heap.size W w') := fun W h => gr_Exp_any T hTm W h _ hq
   clear hq hTm
   go_enter Tryz.func3, Tryz.ntmps3
   go_wp2_with (first
    | (go_at_call 4; have _ := m2; rw [HT.out]; refine (cg.out _ (HE.out _ hC2)).mono ?_; rintro e w3 ⟨⟨vc, nc, rfl, hz⟩, hb3⟩; obtain ⟨j, k, sa, sn, sc, pa, pn, pc, g, o, c, da, dn, dc, ta, tn, tc, us, ws, mm, rfl, hgl, hcu, hcw, hau, haw⟩ := Gr.pair_form hz; obtain ⟨ui, uj, uk, ua, un, uc, ud0, um0, ue0, ud1, um1, ue1, ud2, um2, ue2, ud3, um3, ue3, rfl⟩ := hau.exp_form; obtain ⟨vi, vj, vk, va, vn, vc, vd0, vm0, ve0, vd1, vm1, ve1, vd2, vm2, ve2, vd3, vm3, ve3, rfl⟩ := haw.exp_form; have hz3 := hid (Bx.new w3 [.int .i64 9, .int .i64 j, .int .i64 k, .slice sa sn sc, .slice pa pn pc, .slice (some ⟨g, o, none⟩) 2 c, .slice da dn dc, .slice ta tn tc] 28); have hx3 := hid ((hx2.out.anyB hb3).anyB (bl_new w3 (.cells #[.int .i64 9, .int .i64 j, .int .i64 k, .slice sa sn sc, .slice pa pn pc, .slice (some ⟨g, o, none⟩) 2 c, .slice da dn dc, .slice ta tn tc] 28))); have hy3 := hid ((hy2.out.anyB hb3).anyB (bl_new w3 (.cells #[.int .i64 9, .int .i64 j, .int .i64 k, .slice sa sn sc, .slice pa pn pc, .slice (some ⟨g, o, none⟩) 2 c, .slice da dn dc, .slice ta tn tc] 28))); have hn3 := hid ((hn2.out.below hb3).below (bl_new w3 (.cells #[.int .i64 9, .int .i64 j, .int .i64 k, .slice sa sn sc, .slice pa pn pc, .slice (some ⟨g, o, none⟩) 2 c, .slice da dn dc, .slice ta tn tc] 28))); have ho3 := hid ((ho2.out.below hb3).below (bl_new w3 (.cells #[.int .i64 9, .int .i64 j, .int .i64 k, .slice sa sn sc, .slice pa pn pc, .slice (some ⟨g, o, none⟩) 2 c, .slice da dn dc, .slice ta tn tc] 28))); have hu3 := hid (hau.anyB (bl_new w3 (.cells #[.int .i64 9, .int .i64 j, .int .i64 k, .slice sa sn sc, .slice pa pn pc, .slice (some ⟨g, o, none⟩) 2 c, .slice da dn dc, .slice ta tn tc] 28))); have hv3 := hid (haw.anyB (bl_new w3 (.cells #[.int .i64 9, .int .i64 j, .int .i64 k, .slice sa sn sc, .slice pa pn pc, .slice (some ⟨g, o, none⟩) 2 c, .slice da dn dc, .slice ta tn tc] 28))); have hcu3 := hid (hcu.bl (bl_new w3 (.cells #[.int .i64 9, .int .i64 j, .int .i64 k, .slice sa sn sc, .slice pa pn pc, .slice (some ⟨g, o, none⟩) 2 c, .slice da dn dc, .slice ta tn tc] 28)) hgl); have hcw3 := hid (hcw.bl (bl_new w3 (.cells #[.int .i64 9, .int .i64 j, .int .i64 k, .slice sa sn sc, .slice pa pn pc, .slice (some ⟨g, o, none⟩) 2 c, .slice da dn dc, .slice ta tn tc] 28)) hgl); have hg3 : g < (w3.alloc (.cells #[.int .i64 9, .int .i64 j, .int .i64 k, .slice sa sn sc, .slice pa pn pc, .slice (some ⟨g, o, none⟩) 2 c, .slice da dn dc, .slice ta tn tc] 28)).heap.size := Nat.lt_of_lt_of_le hgl (bl_new w3 (.cells #[.int .i64 9, .int .i64 j, .int .i64 k, .slice sa sn sc, .slice pa pn pc, .slice (some ⟨g, o, none⟩) 2 c, .slice da dn dc, .slice ta tn tc] 28)).size; have hC3 := bl_alloc (bl_tr hC2 hb3) (.cells #[.int .i64 9, .int .i64 j, .int .i64 k, .slice sa sn sc, .slice pa pn pc, .slice (some ⟨g, o, none⟩) 2 c, .slice da dn dc, .slice ta tn tc] 28); clear hz hb3 m2 hau haw hcu hcw hgl)
    | (go_at_call 4; have _ := m1; refine (cf.out _ (HE.out _ hC1)).mono ?_; rintro e w2 ⟨⟨vb, nb, rfl, hy⟩, hb2⟩; obtain ⟨yi, yj, yk, ya, yn, yc, yd0, ym0, ye0, yd1, ym1, ye1, yd2, ym2, ye2, yd3, ym3, ye3, rfl⟩ := hy.exp_form; have hx2 := hid ((hx1.out.anyB hb2).anyB (bl_new w2 (.cells #[.int .i64 yi, .int .i64 yj, .int .i64 yk, .slice ya yn yc, .slice yd0 ym0 ye0, .slice yd1 ym1 ye1, .slice yd2 ym2 ye2, .slice yd3 ym3 ye3] 28))); have hy2 := hid (hy.anyB (bl_new w2 (.cells #[.int .i64 yi, .int .i64 yj, .int .i64 yk, .slice ya yn yc, .slice yd0 ym0 ye0, .slice yd1 ym1 ye1, .slice yd2 ym2 ye2, .slice yd3 ym3 ye3] 28))); have hn2 := hid ((hn1.out.below hb2).below (bl_new w2 (.cells #[.int .i64 yi, .int .i64 yj, .int .i64 yk, .slice ya yn yc, .slice yd0 ym0 ye0, .slice yd1 ym1 ye1, .slice yd2 ym2 ye2, .slice yd3 ym3 ye3] 28))); have ho2 := hid (Bx.new w2 [.int .i64 yi, .int .i64 yj, .int .i64 yk, .slice ya yn yc, .slice yd0 ym0 ye0, .slice yd1 ym1 ye1, .slice yd2 ym2 ye2, .slice yd3 ym3 ye3] 28); have hC2 := bl_alloc (bl_tr hC1 hb2) (.cells #[.int .i64 yi, .int .i64 yj, .int .i64 yk, .slice ya yn yc, .slice yd0 ym0 ye0, .slice yd1 ym1 ye1, .slice yd2 ym2 ye2, .slice yd3 ym3 ye3] 28); have m2 := True.intro; clear hy hb2 m1)
    | (go_at_call 4; refine (ce.out _ (HE.out _ (Below.refl _ _))).mono ?_; rintro e w1 ⟨⟨va, na, rfl, hx⟩, hB1⟩; obtain ⟨xi, xj, xk, xa, xn, xc, xd0, xm0, xe0, xd1, xm1, xe1, xd2, xm2, xe2, xd3, xm3, xe3, rfl⟩ := hx.exp_form; have hx1 := hid (hx.anyB (bl_new w1 (.cells #[.int .i64 xi, .int .i64 xj, .int .i64 xk, .slice xa xn xc, .slice xd0 xm0 xe0, .slice xd1 xm1 xe1, .slice xd2 xm2 xe2, .slice xd3 xm3 xe3] 28))); have hn1 := hid (Bx.new w1 [.int .i64 xi, .int .i64 xj, .int .i64 xk, .slice xa xn xc, .slice xd0 xm0 xe0, .slice xd1 xm1 xe1, .slice xd2 xm2 xe2, .slice xd3 xm3 xe3] 28); have hC1 := bl_alloc hB1 (.cells #[.int .i64 xi, .int .i64 xj, .int .i64 xk, .slice xa xn xc, .slice xd0 xm0 xe0, .slice xd1 xm1 xe1, .slice xd2 xm2 xe2, .slice xd3 xm3 xe3] 28); have m1 := True.intro; clear hx ce))
   obtain ⟨W, hW⟩ : ∃ W, w3.alloc (.cells #[.int .i64 9, .int .i64 j, .int .i64 k, .slice sa sn sc, .slice pa pn pc, .slice (some ⟨g, o, none⟩) 2 c, .slice da dn dc, .slice ta tn tc] 28) = W := ⟨_, rfl⟩
   rw [hW] at hz3 hx3 hy3 hn3 ho3 hu3 hv3 hcu3 hcw3 hg3 hC3 ⊢
   clear hW
   refine wp_region_held_drew (S := fun wz => Below W.heap.size W wz) rfl ((Below.refl _ _).drew) (fun hS => ?_)
   refine wpAnyH_take (i := 0) (v := ?_) rfl (by kernel_rfl) (by kernel_rfl) (by kernel_rfl) (fun _ _ _ h => h) (Or.inl ⟨by rfl, ?_⟩) hS ?_
   rotate_left
   ·
    intro wz hz; go_simp; try with_reducible rfl
   try simp only [sx]
   refine wpAnyH_take (i := 1) (v := ?_) rfl (by kernel_rfl) (by kernel_rfl) (by kernel_rfl) (fun _ _ _ h => h) (Or.inl ⟨by rfl, ?_⟩) hS ?_
   rotate_left
   ·
    intro wz hz; obtain ⟨⟨qk0, qk1, qk2, qk3, qk4, qk5, qk6, qk7⟩, -⟩ := (hz3.out.below hz).e8; go_simp; try with_reducible rfl
   try simp only [sx]
   refine wpAnyH_take (i := 2) (v := ?_) rfl (by kernel_rfl) (by kernel_rfl) (by kernel_rfl) (fun _ _ _ h => h) (Or.inl ⟨by rfl, ?_⟩) hS ?_
   rotate_left
   ·
    intro wz hz; go_simp; try with_reducible rfl
   try simp only [sx]
   refine wpAnyH_take (i := 3) (v := ?_) rfl (by kernel_rfl) (by kernel_rfl) (by kernel_rfl) (fun _ _ _ h => h) (Or.inl ⟨by rfl, ?_⟩) hS ?_
   rotate_left
   ·
    intro wz hz; go_simp; try with_reducible rfl
   try simp only [sx]
   refine wpAnyH_take (i := 4) (v := ?_) rfl (by kernel_rfl) (by kernel_rfl) (by kernel_rfl) (fun _ _ _ h => h) (Or.inl ⟨by rfl, ?_⟩) hS ?_
   rotate_left
   ·
    intro wz hz; go_simp; try with_reducible rfl
   try simp only [sx]
   refine wpAnyH_take (i := 5) (v := ?_) rfl (by kernel_rfl) (by kernel_rfl) (by kernel_rfl) (fun _ _ _ h => h) (Or.inl ⟨by rfl, ?_⟩) hS ?_
   rotate_left
   ·
    intro wz hz; obtain ⟨⟨qk0, qk1, qk2, qk3, qk4, qk5, qk6, qk7⟩, -⟩ := (hz3.out.below hz).e8; go_simp; try with_reducible rfl
   try simp only [sx]
   refine wpAnyH_take (i := 6) (v := ?_) rfl (by kernel_rfl) (by kernel_rfl) (by kernel_rfl) (fun _ _ _ h => h) (Or.inl ⟨by rfl, ?_⟩) hS ?_
   rotate_left
   ·
    intro wz hz; go_simp; try with_reducible rfl
   try simp only [sx]
   refine wpAnyH_take (i := 7) (v := ?_) rfl (by kernel_rfl) (by kernel_rfl) (by kernel_rfl) (fun _ _ _ h => h) (Or.inl ⟨by rfl, ?_⟩) hS ?_
   rotate_left
   ·
    intro wz hz; go_simp; try with_reducible rfl
   try simp only [sx]
   refine wpAnyH_take (i := 8) (v := ?_) rfl (by kernel_rfl) (by kernel_rfl) (by kernel_rfl) (fun _ _ _ h => h) (Or.inl ⟨by rfl, ?_⟩) hS ?_
   rotate_left
   ·
    intro wz hz; go_simp; try with_reducible rfl
   try simp only [sx]
   refine wpAnyH_take (i := 9) (v := ?_) rfl (by kernel_rfl) (by kernel_rfl) (by kernel_rfl) (fun _ _ _ h => h) (Or.inl ⟨by rfl, ?_⟩) hS ?_
   rotate_left
   ·
    intro wz hz; go_simp; try with_reducible rfl
   try simp only [sx]
   refine wpAnyH_take (i := 10) (v := ?_) rfl (by kernel_rfl) (by kernel_rfl) (by kernel_rfl) (fun _ _ _ h => h) (Or.inl ⟨by rfl, ?_⟩) hS ?_
   rotate_left
   ·
    intro wz hz; go_simp; try with_reducible rfl
   try simp only [sx]
   refine wpAnyH_take (i := 11) (v := ?_) rfl (by kernel_rfl) (by kernel_rfl) (by kernel_rfl) (fun _ _ _ h => h) (Or.inl ⟨by rfl, ?_⟩) hS ?_
   rotate_left
   ·
    intro wz hz; obtain ⟨⟨qk0, qk1, qk2, qk3, qk4, qk5, qk6, qk7⟩, -⟩ := (hz3.out.below hz).e8; go_simp; try with_reducible rfl
   try simp only [sx]
   refine wpAnyH_take (i := 12) (v := ?_) rfl (by kernel_rfl) (by kernel_rfl) (by kernel_rfl) (fun _ _ _ h => h) (Or.inl ⟨by rfl, ?_⟩) hS ?_
   rotate_left
   ·
    intro wz hz; go_simp; try with_reducible rfl
   try simp only [sx]
   refine wpAnyH_take (i := 13) (v := ?_) rfl (by kernel_rfl) (by kernel_rfl) (by kernel_rfl) (fun _ _ _ h => h) (Or.inl ⟨by rfl, ?_⟩) hS ?_
   rotate_left
   ·
    intro wz hz; obtain ⟨q0, q1, q2, q3, q4, q5, q6, q7⟩ := (hcu3.out.bl hz hg3).e8; go_simp; try with_reducible rfl
   try simp only [sx]
   refine wpAnyH_take (i := 14) (v := ?_) rfl (by kernel_rfl) (by kernel_rfl) (by kernel_rfl) (fun _ _ _ h => h) (Or.inl ⟨by rfl, ?_⟩) hS ?_
   rotate_left
   ·
    intro wz hz; obtain ⟨⟨qk0, qk1, qk2, qk3, qk4, qk5, qk6, qk7⟩, -⟩ := (hn3.out.below hz).e8; go_simp; try with_reducible rfl
   try simp only [sx]
   refine wpAnyH_ready (rs := [15]) (by kernel_rfl) (by simp) (AllReadyH.cons rfl (fun K hK => ?_) AllReadyH.nil)
   go_simp
   refine (sameExp_any mm na _ [.int .i64 ui, .int .i64 uj, .int .i64 uk, .slice ua un uc, .slice ud0 um0 ue0, .slice ud1 um1 ue1, .slice ud2 um2 ue2, .slice ud3 um3 ue3] [.int .i64 xi, .int .i64 xj, .int .i64 xk, .slice xa xn xc, .slice xd0 xm0 xe0, .slice xd1 xm1 xe1, .slice xd2 xm2 xe2, .slice xd3 xm3 xe3] a a (hu3.out.anyB hS) (hx3.out.anyB hS)).mono ?_
   rw [hsa]
   rintro e w4 ⟨rfl, hb4⟩
   refine hK.out _ _ (bl_tr hS hb4) (fun hSn => ?_)
   clear hK K hS hb4
   have hS := hSn
   clear hSn
   try simp only [sx]
   refine wpAnyH_take (i := 16) (v := ?_) rfl (by kernel_rfl) (by kernel_rfl) (by kernel_rfl) (fun _ _ _ h => h) (Or.inl ⟨by rfl, ?_⟩) hS ?_
   rotate_left
   ·
    intro wz hz; go_simp; try with_reducible rfl
   try simp only [sx]
   refine wpAnyH_take (i := 17) (v := ?_) rfl (by kernel_rfl) (by kernel_rfl) (by kernel_rfl) (fun _ _ _ h => h) (Or.inl ⟨by rfl, ?_⟩) hS ?_
   rotate_left
   ·
    intro wz hz; go_simp; try with_reducible rfl
   try simp only [sx]
   refine wpAnyH_take (i := 18) (v := ?_) rfl (by kernel_rfl) (by kernel_rfl) (by kernel_rfl) (fun _ _ _ h => h) (Or.inl ⟨by rfl, ?_⟩) hS ?_
   rotate_left
   ·
    intro wz hz; go_simp; try with_reducible rfl
   try simp only [sx]
   refine wpAnyH_take (i := 19) (v := ?_) rfl (by kernel_rfl) (by kernel_rfl) (by kernel_rfl) (fun _ _ _ h => h) (Or.inl ⟨by rfl, ?_⟩) hS ?_
   rotate_left
   ·
    intro wz hz; obtain ⟨⟨qk0, qk1, qk2, qk3, qk4, qk5, qk6, qk7⟩, -⟩ := (hz3.out.below hz).e8; go_simp; try with_reducible rfl
   try simp only [sx]
   refine wpAnyH_take (i := 20) (v := ?_) rfl (by kernel_rfl) (by kernel_rfl) (by kernel_rfl) (fun _ _ _ h => h) (Or.inl ⟨by rfl, ?_⟩) hS ?_
   rotate_left
   ·
    intro wz hz; go_simp; try with_reducible rfl
   try simp only [sx]
   refine wpAnyH_take (i := 21) (v := ?_) rfl (by kernel_rfl) (by kernel_rfl) (by kernel_rfl) (fun _ _ _ h => h) (Or.inl ⟨by rfl, ?_⟩) hS ?_
   rotate_left
   ·
    intro wz hz; obtain ⟨q0, q1, q2, q3, q4, q5, q6, q7⟩ := (hcw3.out.bl hz hg3).e8; go_simp; try with_reducible rfl
   try simp only [sx]
   refine wpAnyH_take (i := 22) (v := ?_) rfl (by kernel_rfl) (by kernel_rfl) (by kernel_rfl) (fun _ _ _ h => h) (Or.inl ⟨by rfl, ?_⟩) hS ?_
   rotate_left
   ·
    intro wz hz; obtain ⟨⟨qk0, qk1, qk2, qk3, qk4, qk5, qk6, qk7⟩, -⟩ := (ho3.out.below hz).e8; go_simp; try with_reducible rfl
   try simp only [sx]
   refine wpAnyH_ready (rs := [23]) (by kernel_rfl) (by simp) (AllReadyH.cons rfl (fun K hK => ?_) AllReadyH.nil)
   go_simp
   refine (sameExp_any mm nb _ [.int .i64 vi, .int .i64 vj, .int .i64 vk, .slice va vn vc, .slice vd0 vm0 ve0, .slice vd1 vm1 ve1, .slice vd2 vm2 ve2, .slice vd3 vm3 ve3] [.int .i64 yi, .int .i64 yj, .int .i64 yk, .slice ya yn yc, .slice yd0 ym0 ye0, .slice yd1 ym1 ye1, .slice yd2 ym2 ye2, .slice yd3 ym3 ye3] b b (hv3.out.anyB hS) (hy3.out.anyB hS)).mono ?_
   rw [hsb]
   rintro e w5 ⟨rfl, hb5⟩
   refine hK.out _ _ (bl_tr hS hb5) (fun hSn => ?_)
   clear hK K hS hb5
   have hS := hSn
   clear hSn
   try simp only [sx]
   refine wpAnyH_take (i := 24) (v := ?_) rfl (by kernel_rfl) (by kernel_rfl) (by kernel_rfl) (fun _ _ _ h => h) (Or.inl ⟨by rfl, ?_⟩) hS ?_
   rotate_left
   ·
    intro wz hz; go_simp; try with_reducible rfl
   try simp only [sx]
   refine wpAnyH_take (i := 25) (v := ?_) rfl (by kernel_rfl) (by kernel_rfl) (by kernel_rfl) (fun _ _ _ h => h) (Or.inl ⟨by rfl, ?_⟩) hS ?_
   rotate_left
   ·
    intro wz hz; go_simp; try with_reducible rfl
   try simp only [sx]
   refine wpAnyH_ready (rs := [26]) (by kernel_rfl) (by simp) (AllReadyH.cons rfl (fun K hK => ?_) AllReadyH.nil)
   go_simp
   refine (parseAlive _ (HE.out _ (bl_tr hC3 hS))).mono ?_
   rintro e w6 ⟨rfl, hb6⟩
   refine hK.out _ _ (bl_tr hS hb6) (fun hSn => ?_)
   clear hK K hS hb6
   have hS := hSn
   clear hSn
   try simp only [sx]
   refine wpAnyH_take (i := 27) (v := ?_) rfl (by kernel_rfl) (by kernel_rfl) (by kernel_rfl) (fun _ _ _ h => h) (Or.inl ⟨by rfl, ?_⟩) hS ?_
   rotate_left
   ·
    intro wz hz; go_simp; try with_reducible rfl
   try simp only [sx]
   refine wpAnyH_take (i := 28) (v := ?_) rfl (by kernel_rfl) (by kernel_rfl) (by kernel_rfl) (fun _ _ _ h => h) (Or.inl ⟨by rfl, ?_⟩) hS ?_
   rotate_left
   ·
    intro wz hz; go_simp; try with_reducible rfl
   try simp only [sx]
   refine wpAnyH_done (by kernel_rfl) ?_ _
   go_wp2
   go_ret
   exact ⟨rfl, bl_tr hC3 hS⟩
  ·
   have cg : Hid (∀ W, Er W → Calls Tryz.prog 4 #[.string T] W fun e w' => (∃ vs n, e = .returned (.tuple #[.agg vs.toArray, .int .i64 p, .int .i64 c]) ∧ At w' Any n 2 vs Gr.noExp) ∧ Below W.heap.size W w') := fun W h => gr_Exp_any T hTm W h _ hq
   clear hq hTm
   have hcb : (c == 0) = false := by rcases hc with rfl | rfl <;> rfl
   rcases hc with rfl | rfl
   ·
    go_enter Tryz.func3, Tryz.ntmps3
    go_wp2_with (first
     | (go_at_call 4; have _ := m2; rw [HT.out]; refine (cg.out _ (HE.out _ hC2)).mono ?_; rintro e w3 ⟨⟨vc, nc, rfl, hz⟩, hb3⟩; obtain ⟨zi, zj, zk, za, zn, zc, zd0, zm0, ze0, zd1, zm1, ze1, zd2, zm2, ze2, zd3, zm3, ze3, rfl⟩ := hz.exp_form; have hC3 := bl_alloc (bl_tr hC2 hb3) (.cells #[.int .i64 zi, .int .i64 zj, .int .i64 zk, .slice za zn zc, .slice zd0 zm0 ze0, .slice zd1 zm1 ze1, .slice zd2 zm2 ze2, .slice zd3 zm3 ze3] 28); clear hz hb3 m2)
     | (go_at_call 4; have _ := m1; refine (cf.out _ (HE.out _ hC1)).mono ?_; rintro e w2 ⟨⟨vb, nb, rfl, hy⟩, hb2⟩; obtain ⟨yi, yj, yk, ya, yn, yc, yd0, ym0, ye0, yd1, ym1, ye1, yd2, ym2, ye2, yd3, ym3, ye3, rfl⟩ := hy.exp_form; have hx2 := hid ((hx1.out.anyB hb2).anyB (bl_new w2 (.cells #[.int .i64 yi, .int .i64 yj, .int .i64 yk, .slice ya yn yc, .slice yd0 ym0 ye0, .slice yd1 ym1 ye1, .slice yd2 ym2 ye2, .slice yd3 ym3 ye3] 28))); have hy2 := hid (hy.anyB (bl_new w2 (.cells #[.int .i64 yi, .int .i64 yj, .int .i64 yk, .slice ya yn yc, .slice yd0 ym0 ye0, .slice yd1 ym1 ye1, .slice yd2 ym2 ye2, .slice yd3 ym3 ye3] 28))); have hn2 := hid ((hn1.out.below hb2).below (bl_new w2 (.cells #[.int .i64 yi, .int .i64 yj, .int .i64 yk, .slice ya yn yc, .slice yd0 ym0 ye0, .slice yd1 ym1 ye1, .slice yd2 ym2 ye2, .slice yd3 ym3 ye3] 28))); have ho2 := hid (Bx.new w2 [.int .i64 yi, .int .i64 yj, .int .i64 yk, .slice ya yn yc, .slice yd0 ym0 ye0, .slice yd1 ym1 ye1, .slice yd2 ym2 ye2, .slice yd3 ym3 ye3] 28); have hC2 := bl_alloc (bl_tr hC1 hb2) (.cells #[.int .i64 yi, .int .i64 yj, .int .i64 yk, .slice ya yn yc, .slice yd0 ym0 ye0, .slice yd1 ym1 ye1, .slice yd2 ym2 ye2, .slice yd3 ym3 ye3] 28); have m2 := True.intro; clear hy hb2 m1)
     | (go_at_call 4; refine (ce.out _ (HE.out _ (Below.refl _ _))).mono ?_; rintro e w1 ⟨⟨va, na, rfl, hx⟩, hB1⟩; obtain ⟨xi, xj, xk, xa, xn, xc, xd0, xm0, xe0, xd1, xm1, xe1, xd2, xm2, xe2, xd3, xm3, xe3, rfl⟩ := hx.exp_form; have hx1 := hid (hx.anyB (bl_new w1 (.cells #[.int .i64 xi, .int .i64 xj, .int .i64 xk, .slice xa xn xc, .slice xd0 xm0 xe0, .slice xd1 xm1 xe1, .slice xd2 xm2 xe2, .slice xd3 xm3 xe3] 28))); have hn1 := hid (Bx.new w1 [.int .i64 xi, .int .i64 xj, .int .i64 xk, .slice xa xn xc, .slice xd0 xm0 xe0, .slice xd1 xm1 xe1, .slice xd2 xm2 xe2, .slice xd3 xm3 xe3] 28); have hC1 := bl_alloc hB1 (.cells #[.int .i64 xi, .int .i64 xj, .int .i64 xk, .slice xa xn xc, .slice xd0 xm0 xe0, .slice xd1 xm1 xe1, .slice xd2 xm2 xe2, .slice xd3 xm3 xe3] 28); have m1 := True.intro; clear hx ce)
     | (go_at_call 5; refine (parseAlive _ (HE.out _ hC3)).mono ?_; rintro e w6 ⟨rfl, hb6⟩))
    go_ret
    exact ⟨rfl, bl_tr hC3 hb6⟩
   ·
    go_enter Tryz.func3, Tryz.ntmps3
    go_wp2_with (first
     | (go_at_call 4; have _ := m2; rw [HT.out]; refine (cg.out _ (HE.out _ hC2)).mono ?_; rintro e w3 ⟨⟨vc, nc, rfl, hz⟩, hb3⟩; obtain ⟨zi, zj, zk, za, zn, zc, zd0, zm0, ze0, zd1, zm1, ze1, zd2, zm2, ze2, zd3, zm3, ze3, rfl⟩ := hz.exp_form; have hC3 := bl_alloc (bl_tr hC2 hb3) (.cells #[.int .i64 zi, .int .i64 zj, .int .i64 zk, .slice za zn zc, .slice zd0 zm0 ze0, .slice zd1 zm1 ze1, .slice zd2 zm2 ze2, .slice zd3 zm3 ze3] 28); clear hz hb3 m2)
     | (go_at_call 4; have _ := m1; refine (cf.out _ (HE.out _ hC1)).mono ?_; rintro e w2 ⟨⟨vb, nb, rfl, hy⟩, hb2⟩; obtain ⟨yi, yj, yk, ya, yn, yc, yd0, ym0, ye0, yd1, ym1, ye1, yd2, ym2, ye2, yd3, ym3, ye3, rfl⟩ := hy.exp_form; have hx2 := hid ((hx1.out.anyB hb2).anyB (bl_new w2 (.cells #[.int .i64 yi, .int .i64 yj, .int .i64 yk, .slice ya yn yc, .slice yd0 ym0 ye0, .slice yd1 ym1 ye1, .slice yd2 ym2 ye2, .slice yd3 ym3 ye3] 28))); have hy2 := hid (hy.anyB (bl_new w2 (.cells #[.int .i64 yi, .int .i64 yj, .int .i64 yk, .slice ya yn yc, .slice yd0 ym0 ye0, .slice yd1 ym1 ye1, .slice yd2 ym2 ye2, .slice yd3 ym3 ye3] 28))); have hn2 := hid ((hn1.out.below hb2).below (bl_new w2 (.cells #[.int .i64 yi, .int .i64 yj, .int .i64 yk, .slice ya yn yc, .slice yd0 ym0 ye0, .slice yd1 ym1 ye1, .slice yd2 ym2 ye2, .slice yd3 ym3 ye3] 28))); have ho2 := hid (Bx.new w2 [.int .i64 yi, .int .i64 yj, .int .i64 yk, .slice ya yn yc, .slice yd0 ym0 ye0, .slice yd1 ym1 ye1, .slice yd2 ym2 ye2, .slice yd3 ym3 ye3] 28); have hC2 := bl_alloc (bl_tr hC1 hb2) (.cells #[.int .i64 yi, .int .i64 yj, .int .i64 yk, .slice ya yn yc, .slice yd0 ym0 ye0, .slice yd1 ym1 ye1, .slice yd2 ym2 ye2, .slice yd3 ym3 ye3] 28); have m2 := True.intro; clear hy hb2 m1)
     | (go_at_call 4; refine (ce.out _ (HE.out _ (Below.refl _ _))).mono ?_; rintro e w1 ⟨⟨va, na, rfl, hx⟩, hB1⟩; obtain ⟨xi, xj, xk, xa, xn, xc, xd0, xm0, xe0, xd1, xm1, xe1, xd2, xm2, xe2, xd3, xm3, xe3, rfl⟩ := hx.exp_form; have hx1 := hid (hx.anyB (bl_new w1 (.cells #[.int .i64 xi, .int .i64 xj, .int .i64 xk, .slice xa xn xc, .slice xd0 xm0 xe0, .slice xd1 xm1 xe1, .slice xd2 xm2 xe2, .slice xd3 xm3 xe3] 28))); have hn1 := hid (Bx.new w1 [.int .i64 xi, .int .i64 xj, .int .i64 xk, .slice xa xn xc, .slice xd0 xm0 xe0, .slice xd1 xm1 xe1, .slice xd2 xm2 xe2, .slice xd3 xm3 xe3] 28); have hC1 := bl_alloc hB1 (.cells #[.int .i64 xi, .int .i64 xj, .int .i64 xk, .slice xa xn xc, .slice xd0 xm0 xe0, .slice xd1 xm1 xe1, .slice xd2 xm2 xe2, .slice xd3 xm3 xe3] 28); have m1 := True.intro; clear hx ce)
     | (go_at_call 5; refine (parseAlive _ (HE.out _ hC3)).mono ?_; rintro e w6 ⟨rfl, hb6⟩))
    go_ret
    exact ⟨rfl, bl_tr hC3 hb6⟩
 ·
  obtain ⟨a, ha⟩ : ∃ a, RS.exp = a := ⟨_, rfl⟩
  obtain ⟨b, hb⟩ : ∃ a, RT.exp = a := ⟨_, rfl⟩
  obtain ⟨p1, hp1⟩ : ∃ a, RS.pos = a := ⟨_, rfl⟩
  obtain ⟨p2, hp2⟩ : ∃ a, RT.pos = a := ⟨_, rfl⟩
  obtain ⟨c1, hc1⟩ : ∃ a, RS.code = a := ⟨_, rfl⟩
  obtain ⟨c2, hc2⟩ : ∃ a, RT.code = a := ⟨_, rfl⟩
  have ce : Hid (∀ W, Er W → Calls Tryz.prog 4 #[.string s] W fun e w' => (∃ vs n, e = .returned (.tuple #[.agg vs.toArray, .int .i64 p1, .int .i64 c1]) ∧ At w' Any n 2 vs a) ∧ Below W.heap.size W w') := fun W h => by rw [← ha, ← hp1, ← hc1]; exact gr_Exp_any s hsm W h _ hRS
  have cf : Hid (∀ W, Er W → Calls Tryz.prog 4 #[.string t] W fun e w' => (∃ vs n, e = .returned (.tuple #[.agg vs.toArray, .int .i64 p2, .int .i64 c2]) ∧ At w' Any n 2 vs b) ∧ Below W.heap.size W w') := fun W h => by rw [← hb, ← hp2, ← hc2]; exact gr_Exp_any t htm W h _ hRT
  rw [hc1, hc2] at hgo
  clear hRS hRT ha hb hp1 hp2 hc1 hc2 hE hsm htm hsz htz
  by_cases h1 : c1 = 0
  ·
   subst h1
   by_cases h2 : c2 = 0
   ·
    subst h2
    have hbig : 4096 < s.size + t.size + 6 := by
     rcases Nat.lt_or_ge 4096 (s.size + t.size + 6) with h | h
     ·
      exact h
     ·
      exact absurd ⟨rfl, rfl, h⟩ hgo
    clear hgo
    go_enter Tryz.func3, Tryz.ntmps3
    go_wp2_with (first | (go_at_call 4; have _ := m1; refine (cf.out _ (HE.out _ hC1)).mono ?_; rintro e w2 ⟨⟨vb, nb, rfl, hy⟩, hb2⟩; obtain ⟨yi, yj, yk, ya, yn, yc, yd0, ym0, ye0, yd1, ym1, ye1, yd2, ym2, ye2, yd3, ym3, ye3, rfl⟩ := hy.exp_form; have hx2 := hid ((hx1.out.anyB hb2).anyB (bl_new w2 (.cells #[.int .i64 yi, .int .i64 yj, .int .i64 yk, .slice ya yn yc, .slice yd0 ym0 ye0, .slice yd1 ym1 ye1, .slice yd2 ym2 ye2, .slice yd3 ym3 ye3] 28))); have hy2 := hid (hy.anyB (bl_new w2 (.cells #[.int .i64 yi, .int .i64 yj, .int .i64 yk, .slice ya yn yc, .slice yd0 ym0 ye0, .slice yd1 ym1 ye1, .slice yd2 ym2 ye2, .slice yd3 ym3 ye3] 28))); have hn2 := hid ((hn1.out.below hb2).below (bl_new w2 (.cells #[.int .i64 yi, .int .i64 yj, .int .i64 yk, .slice ya yn yc, .slice yd0 ym0 ye0, .slice yd1 ym1 ye1, .slice yd2 ym2 ye2, .slice yd3 ym3 ye3] 28))); have ho2 := hid (Bx.new w2 [.int .i64 yi, .int .i64 yj, .int .i64 yk, .slice ya yn yc, .slice yd0 ym0 ye0, .slice yd1 ym1 ye1, .slice yd2 ym2 ye2, .slice yd3 ym3 ye3] 28); have hC2 := bl_alloc (bl_tr hC1 hb2) (.cells #[.int .i64 yi, .int .i64 yj, .int .i64 yk, .slice ya yn yc, .slice yd0 ym0 ye0, .slice yd1 ym1 ye1, .slice yd2 ym2 ye2, .slice yd3 ym3 ye3] 28); have m2 := True.intro; clear hy hb2 m1) | (go_at_call 4; refine (ce.out _ (HE.out _ (Below.refl _ _))).mono ?_; rintro e w1 ⟨⟨va, na, rfl, hx⟩, hB1⟩; obtain ⟨xi, xj, xk, xa, xn, xc, xd0, xm0, xe0, xd1, xm1, xe1, xd2, xm2, xe2, xd3, xm3, xe3, rfl⟩ := hx.exp_form; have hx1 := hid (hx.anyB (bl_new w1 (.cells #[.int .i64 xi, .int .i64 xj, .int .i64 xk, .slice xa xn xc, .slice xd0 xm0 xe0, .slice xd1 xm1 xe1, .slice xd2 xm2 xe2, .slice xd3 xm3 xe3] 28))); have hn1 := hid (Bx.new w1 [.int .i64 xi, .int .i64 xj, .int .i64 xk, .slice xa xn xc, .slice xd0 xm0 xe0, .slice xd1 xm1 xe1, .slice xd2 xm2 xe2, .slice xd3 xm3 xe3] 28); have hC1 := bl_alloc hB1 (.cells #[.int .i64 xi, .int .i64 xj, .int .i64 xk, .slice xa xn xc, .slice xd0 xm0 xe0, .slice xd1 xm1 xe1, .slice xd2 xm2 xe2, .slice xd3 xm3 xe3] 28); have m1 := True.intro; clear hx ce) | (go_at_call 5; refine (parseAlive _ (HE.out _ hC2)).mono ?_; rintro e w6 ⟨rfl, hb6⟩))
    go_ret
    exact ⟨rfl, bl_tr hC2 hb6⟩
   ·
    have hcb : (c2 == 0) = false := by simpa using h2
    clear hgo
    go_enter Tryz.func3, Tryz.ntmps3
    go_wp2_with (first | (go_at_call 4; have _ := m1; refine (cf.out _ (HE.out _ hC1)).mono ?_; rintro e w2 ⟨⟨vb, nb, rfl, hy⟩, hb2⟩; obtain ⟨yi, yj, yk, ya, yn, yc, yd0, ym0, ye0, yd1, ym1, ye1, yd2, ym2, ye2, yd3, ym3, ye3, rfl⟩ := hy.exp_form; have hx2 := hid ((hx1.out.anyB hb2).anyB (bl_new w2 (.cells #[.int .i64 yi, .int .i64 yj, .int .i64 yk, .slice ya yn yc, .slice yd0 ym0 ye0, .slice yd1 ym1 ye1, .slice yd2 ym2 ye2, .slice yd3 ym3 ye3] 28))); have hy2 := hid (hy.anyB (bl_new w2 (.cells #[.int .i64 yi, .int .i64 yj, .int .i64 yk, .slice ya yn yc, .slice yd0 ym0 ye0, .slice yd1 ym1 ye1, .slice yd2 ym2 ye2, .slice yd3 ym3 ye3] 28))); have hn2 := hid ((hn1.out.below hb2).below (bl_new w2 (.cells #[.int .i64 yi, .int .i64 yj, .int .i64 yk, .slice ya yn yc, .slice yd0 ym0 ye0, .slice yd1 ym1 ye1, .slice yd2 ym2 ye2, .slice yd3 ym3 ye3] 28))); have ho2 := hid (Bx.new w2 [.int .i64 yi, .int .i64 yj, .int .i64 yk, .slice ya yn yc, .slice yd0 ym0 ye0, .slice yd1 ym1 ye1, .slice yd2 ym2 ye2, .slice yd3 ym3 ye3] 28); have hC2 := bl_alloc (bl_tr hC1 hb2) (.cells #[.int .i64 yi, .int .i64 yj, .int .i64 yk, .slice ya yn yc, .slice yd0 ym0 ye0, .slice yd1 ym1 ye1, .slice yd2 ym2 ye2, .slice yd3 ym3 ye3] 28); have m2 := True.intro; clear hy hb2 m1) | (go_at_call 4; refine (ce.out _ (HE.out _ (Below.refl _ _))).mono ?_; rintro e w1 ⟨⟨va, na, rfl, hx⟩, hB1⟩; obtain ⟨xi, xj, xk, xa, xn, xc, xd0, xm0, xe0, xd1, xm1, xe1, xd2, xm2, xe2, xd3, xm3, xe3, rfl⟩ := hx.exp_form; have hx1 := hid (hx.anyB (bl_new w1 (.cells #[.int .i64 xi, .int .i64 xj, .int .i64 xk, .slice xa xn xc, .slice xd0 xm0 xe0, .slice xd1 xm1 xe1, .slice xd2 xm2 xe2, .slice xd3 xm3 xe3] 28))); have hn1 := hid (Bx.new w1 [.int .i64 xi, .int .i64 xj, .int .i64 xk, .slice xa xn xc, .slice xd0 xm0 xe0, .slice xd1 xm1 xe1, .slice xd2 xm2 xe2, .slice xd3 xm3 xe3] 28); have hC1 := bl_alloc hB1 (.cells #[.int .i64 xi, .int .i64 xj, .int .i64 xk, .slice xa xn xc, .slice xd0 xm0 xe0, .slice xd1 xm1 xe1, .slice xd2 xm2 xe2, .slice xd3 xm3 xe3] 28); have m1 := True.intro; clear hx ce) | (go_at_call 5; refine (parseAlive _ (HE.out _ hC2)).mono ?_; rintro e w6 ⟨rfl, hb6⟩))
    go_ret
    exact ⟨rfl, bl_tr hC2 hb6⟩
  ·
   have hcb : (c1 == 0) = false := by simpa using h1
   clear hgo
   go_enter Tryz.func3, Tryz.ntmps3
   go_wp2_with (first | (go_at_call 4; have _ := m1; refine (cf.out _ (HE.out _ hC1)).mono ?_; rintro e w2 ⟨⟨vb, nb, rfl, hy⟩, hb2⟩; obtain ⟨yi, yj, yk, ya, yn, yc, yd0, ym0, ye0, yd1, ym1, ye1, yd2, ym2, ye2, yd3, ym3, ye3, rfl⟩ := hy.exp_form; have hx2 := hid ((hx1.out.anyB hb2).anyB (bl_new w2 (.cells #[.int .i64 yi, .int .i64 yj, .int .i64 yk, .slice ya yn yc, .slice yd0 ym0 ye0, .slice yd1 ym1 ye1, .slice yd2 ym2 ye2, .slice yd3 ym3 ye3] 28))); have hy2 := hid (hy.anyB (bl_new w2 (.cells #[.int .i64 yi, .int .i64 yj, .int .i64 yk, .slice ya yn yc, .slice yd0 ym0 ye0, .slice yd1 ym1 ye1, .slice yd2 ym2 ye2, .slice yd3 ym3 ye3] 28))); have hn2 := hid ((hn1.out.below hb2).below (bl_new w2 (.cells #[.int .i64 yi, .int .i64 yj, .int .i64 yk, .slice ya yn yc, .slice yd0 ym0 ye0, .slice yd1 ym1 ye1, .slice yd2 ym2 ye2, .slice yd3 ym3 ye3] 28))); have ho2 := hid (Bx.new w2 [.int .i64 yi, .int .i64 yj, .int .i64 yk, .slice ya yn yc, .slice yd0 ym0 ye0, .slice yd1 ym1 ye1, .slice yd2 ym2 ye2, .slice yd3 ym3 ye3] 28); have hC2 := bl_alloc (bl_tr hC1 hb2) (.cells #[.int .i64 yi, .int .i64 yj, .int .i64 yk, .slice ya yn yc, .slice yd0 ym0 ye0, .slice yd1 ym1 ye1, .slice yd2 ym2 ye2, .slice yd3 ym3 ye3] 28); have m2 := True.intro; clear hy hb2 m1) | (go_at_call 4; refine (ce.out _ (HE.out _ (Below.refl _ _))).mono ?_; rintro e w1 ⟨⟨va, na, rfl, hx⟩, hB1⟩; obtain ⟨xi, xj, xk, xa, xn, xc, xd0, xm0, xe0, xd1, xm1, xe1, xd2, xm2, xe2, xd3, xm3, xe3, rfl⟩ := hx.exp_form; have hx1 := hid (hx.anyB (bl_new w1 (.cells #[.int .i64 xi, .int .i64 xj, .int .i64 xk, .slice xa xn xc, .slice xd0 xm0 xe0, .slice xd1 xm1 xe1, .slice xd2 xm2 xe2, .slice xd3 xm3 xe3] 28))); have hn1 := hid (Bx.new w1 [.int .i64 xi, .int .i64 xj, .int .i64 xk, .slice xa xn xc, .slice xd0 xm0 xe0, .slice xd1 xm1 xe1, .slice xd2 xm2 xe2, .slice xd3 xm3 xe3] 28); have hC1 := bl_alloc hB1 (.cells #[.int .i64 xi, .int .i64 xj, .int .i64 xk, .slice xa xn xc, .slice xd0 xm0 xe0, .slice xd1 xm1 xe1, .slice xd2 xm2 xe2, .slice xd3 xm3 xe3] 28); have m1 := True.intro; clear hx ce) | (go_at_call 5; refine (parseAlive _ (HE.out _ hC2)).mono ?_; rintro e w6 ⟨rfl, hb6⟩))
   go_ret
   exact ⟨rfl, bl_tr hC2 hb6⟩
end Go.Proofs.YtjebepnphoeiaabGreatDoor
