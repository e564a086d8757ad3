/- The program's Scheme. The makers of any structure's labels. -/
import Derived.Test.YtigliglmejkakaaGreatRam
import Derived.Test.YtigliglmejkakaaGreatRbb
import Derived.Test.YtigliglmejkakaaGreatRai
import Derived.Test.YtigliglmejkakaaGreatRba
namespace Go.Proofs.YtigliglmejkakaaGreat
open Go.RowKit
set_option linter.unusedVariables false
set_option linter.unusedSimpArgs false

theorem rightS_right {g : Int} {t : Tp} (h : Tp.rightS g t = true) : t.right = true := by
  unfold Tp.rightS at h
  simp only [Bool.and_eq_true, decide_eq_true_eq] at h
  exact h.1

set_option maxHeartbeats 4000000 in
set_option maxRecDepth 100000 in
theorem TScheme_any (w : World) (n : Nat) (g : Int) (vs : List Value) (t : Tp) (hT : TAt w Any n vs t) (hg64 : R64 g) (hcnt : t.cnt ≤ 1048576) : Calls Tryz.prog 16 #[.agg (.int .i64 g :: vs).toArray] w fun e w' => TtAns2 (Tp.okS g t) (Tp.schemeT g t) w e w' ∧ Below w.heap.size w w' := by
  obtain ⟨a1, c1, rfl⟩ := hT.form
  have hR : Hid (∀ wz, Below w.heap.size w wz → Calls Tryz.prog 39 #[.agg #[.int .i64 g, .int .i64 t.k, .int .i64 t.n, .slice a1 t.ks.length c1]] wz fun e w' => e = .returned (.bool (Tp.rightS g t)) ∧ Below wz.heap.size wz w') := fun wz hz => RightScheme_any wz n g _ t (hT.below hz) hcnt
  have hC : Hid (∀ wz, Below w.heap.size w wz → Calls Tryz.prog 40 #[.agg #[.int .i64 t.k, .int .i64 t.n, .slice a1 t.ks.length c1]] wz fun e w' => (∃ p c, e = .returned (.slice p (Tp.found 7 t []).length c)) ∧ Below wz.heap.size wz w') := fun wz hz => (Metas_own wz n _ t (hT.below hz) hcnt).mono fun e w' ⟨p, c, h1, _, h3⟩ => ⟨⟨p, c, h1⟩, h3⟩
  have hG : Hid (∀ wz, Below w.heap.size w wz → Calls Tryz.prog 21 #[.agg #[.int .i64 t.k, .int .i64 t.n, .slice a1 t.ks.length c1]] wz fun e w' => e = .returned (.int .i64 t.top) ∧ Below wz.heap.size wz w') := fun wz hz => greatest_any wz n _ t (hT.below hz) hcnt
  have HB2 : Hid (Below w.heap.size w ((w.alloc (.cells #[.int .i64 g, .int .i64 t.k, .int .i64 t.n, .slice a1 t.ks.length c1] 42)).alloc (.cells #[.int .i64 0, .int .i64 0, .slice none 0 0, .slice none 0 0] 28))) := bl_alloc (bl_alloc (Below.refl _ _) _) _
  have X2 : Hid (Arr ((w.alloc (.cells #[.int .i64 g, .int .i64 t.k, .int .i64 t.n, .slice a1 t.ks.length c1] 42)).alloc (.cells #[.int .i64 0, .int .i64 0, .slice none 0 0, .slice none 0 0] 28)) w.heap.size 42 [.int .i64 g, .int .i64 t.k, .int .i64 t.n, .slice a1 t.ks.length c1]) := Arr.stays ⟨heap_alloc_at _ _⟩ (bl_alloc (Below.refl _ _) _)
  have Y2 : Hid (Arr ((w.alloc (.cells #[.int .i64 g, .int .i64 t.k, .int .i64 t.n, .slice a1 t.ks.length c1] 42)).alloc (.cells #[.int .i64 0, .int .i64 0, .slice none 0 0, .slice none 0 0] 28)) (w.heap.size + 1) 28 [.int .i64 0, .int .i64 0, .slice none 0 0, .slice none 0 0]) := ⟨by have := heap_alloc_at (w.alloc (.cells #[.int .i64 g, .int .i64 t.k, .int .i64 t.n, .slice a1 t.ks.length c1] 42)) (.cells #[.int .i64 0, .int .i64 0, .slice none 0 0, .slice none 0 0] 28); rw [size_alloc] at this; exact this⟩
  have HSS : Hid (∀ (W : World) i u, Below w.heap.size w W → Below w.heap.size w (W.setCell ⟨w.heap.size + 1, i, none⟩ u)) := fun W i u h => bl_set _ _ h (by show _ ≤ w.heap.size + 1; omega)
  have HTT := hid hT
  have m1 : Hid True := trivial
  clear hT
  cases hr : Tp.rightS g t with
  | false =>
    rw [hr] at hR
    have HK : Hid (Tp.okS g t = false) := by show _ = _; unfold Tp.okS; rw [hr]; rfl
    clear hr hcnt hC hG HTT
    go_enter Tryz.func16, Tryz.ntmps16
    go_wp2_with (first | (go_at_call 39; refine (hR.out _ HB2.out).mono ?_; rintro e w3 ⟨rfl, b3⟩; have HB3 := hid (bl_tr HB2.out b3); have X3 := hid (X2.out.stays b3); have Y3 := hid (Y2.out.stays b3); have q3 := X3.out.cell; have r3 := Y3.out.cell; have s3 := Y3.out.frozen; clear b3 hR))
    refine bodyPost_ret (v := .tuple #[.agg #[.int .i64 0, .int .i64 0, .slice none 0 0, .slice none 0 0], .int .i64 1]) (by rw [results_cell2t (fn := Tryz.f16) (p := 2) (a := 3) (ty := 28) (by kernel_rfl)]; simp [go_sem, r3, s3]) rfl ?_
    exact ⟨.inr ⟨HK.out, rfl⟩, HSS.out _ _ _ (HSS.out _ _ _ (HSS.out _ _ _ (HSS.out _ _ _ HB3.out)))⟩
  | true =>
  rw [hr] at hR
  by_cases hcp : 0 < (Tp.found 7 t []).length
  · have hc : ¬ (Tp.found 7 t []).length = 0 := by omega
    have hc1 : ((Tp.found 7 t []).length : Int) > 0 := by omega
    have HK : Hid (Tp.okS g t = false) := by show _ = _; unfold Tp.okS; rw [decide_eq_false hc, Bool.false_and, Bool.and_false]
    clear hr hc hcnt hG HTT
    go_enter Tryz.func16, Tryz.ntmps16
    go_wp2_with (first | (go_at_call 39; refine (hR.out _ HB2.out).mono ?_; rintro e w3 ⟨rfl, b3⟩; have HB3 := hid (bl_tr HB2.out b3); have X3 := hid (X2.out.stays b3); have Y3 := hid (Y2.out.stays b3); have q3 := X3.out.cell; have r3 := Y3.out.cell; have s3 := Y3.out.frozen; clear b3 hR) | (go_at_call 40; refine (hC.out _ HB3.out).mono ?_; rintro e w4 ⟨⟨p4, c4, rfl⟩, b4⟩; have HB4 := hid (bl_tr HB3.out b4); have X4 := hid (X3.out.stays b4); have Y4 := hid (Y3.out.stays b4); have q4 := X4.out.cell; have r4 := Y4.out.cell; have s4 := Y4.out.frozen; clear b4 hC q3 r3 s3))
    refine bodyPost_ret (v := .tuple #[.agg #[.int .i64 0, .int .i64 0, .slice none 0 0, .slice none 0 0], .int .i64 1]) (by rw [results_cell2t (fn := Tryz.f16) (p := 2) (a := 3) (ty := 28) (by kernel_rfl)]; simp [go_sem, r4, s4]) rfl ?_
    exact ⟨.inr ⟨HK.out, rfl⟩, HSS.out _ _ _ (HSS.out _ _ _ (HSS.out _ _ _ (HSS.out _ _ _ HB4.out)))⟩
  have hc : (Tp.found 7 t []).length = 0 := by omega
  clear hcp
  by_cases hs0 : 2147483647 < t.top
  · rw [hc] at hC
    have HK : Hid (Tp.okS g t = false) := by show _ = _; unfold Tp.okS; rw [Tp.top_ok (rightS_right hr), decide_eq_false (by omega : ¬ t.top ≤ 2147483647), Bool.and_false, Bool.and_false]
    clear hr hc hcnt HTT
    go_enter Tryz.func16, Tryz.ntmps16
    go_wp2_with (first | (go_at_call 39; refine (hR.out _ HB2.out).mono ?_; rintro e w3 ⟨rfl, b3⟩; have HB3 := hid (bl_tr HB2.out b3); have X3 := hid (X2.out.stays b3); have Y3 := hid (Y2.out.stays b3); have q3 := X3.out.cell; have r3 := Y3.out.cell; have s3 := Y3.out.frozen; clear b3 hR) | (go_at_call 40; refine (hC.out _ HB3.out).mono ?_; rintro e w4 ⟨⟨p4, c4, rfl⟩, b4⟩; have HB4 := hid (bl_tr HB3.out b4); have X4 := hid (X3.out.stays b4); have Y4 := hid (Y3.out.stays b4); have q4 := X4.out.cell; have r4 := Y4.out.cell; have s4 := Y4.out.frozen; clear b4 hC q3 r3 s3) | (go_at_call 21; have := m1; refine (hG.out _ HB4.out).mono ?_; rintro e w5 ⟨rfl, b5⟩; have HB5 := hid (bl_tr HB4.out b5); have X5 := hid (X4.out.stays b5); have Y5 := hid (Y4.out.stays b5); have q5 := X5.out.cell; have r5 := Y5.out.cell; have s5 := Y5.out.frozen; clear b5 m1 q4 r4 s4))
    refine bodyPost_ret (v := .tuple #[.agg #[.int .i64 0, .int .i64 0, .slice none 0 0, .slice none 0 0], .int .i64 1]) (by rw [results_cell2t (fn := Tryz.f16) (p := 2) (a := 3) (ty := 28) (by kernel_rfl)]; simp [go_sem, r5, s5]) rfl ?_
    exact ⟨.inr ⟨HK.out, rfl⟩, HSS.out _ _ _ (HSS.out _ _ _ (HSS.out _ _ _ (HSS.out _ _ _ HB5.out)))⟩
  have hge := Tp.top_ge t
  obtain ⟨hg0, hg1⟩ := rightS_gt hr hcnt
  obtain ⟨g', rfl⟩ : ∃ g' : Nat, g = g' := ⟨g.toNat, by omega⟩
  have hM : Hid (∀ wz, Below w.heap.size w wz → Calls Tryz.prog 22 #[.agg #[.int .i64 t.k, .int .i64 t.n, .slice a1 t.ks.length c1], .int .i64 (t.top + 1)] wz (TmAns wz (Tp.made (t.top + 1) t))) := fun wz hz => turned_any n wz _ t (t.top + 1) (HTT.out.below hz) (rightS_right hr) (fun x hx => by have h0 := List.eq_nil_of_length_eq_zero hc; have := (Tp.mem_fnd (kind := 7)).2 hx; rw [h0] at this; cases this) (fun x hx => by have := (rightS_allt hr x).1 hx; exact ⟨by omega, by omega⟩)
  have HK : Hid (Tp.okS g' t = true) := by show _ = _; unfold Tp.okS; rw [Tp.top_ok (rightS_right hr), hr, decide_eq_true hc, decide_eq_true (by omega : t.top ≤ 2147483647)]; rfl
  have HST : Hid (Tp.schemeT g' t = Tt.around 10 (numsT (t.top + 1) g') (Tp.made (t.top + 1) t)) := by show _ = _; unfold Tp.schemeT; rw [Tp.top_topK]; rfl
  rw [hc] at hC
  generalize Tp.made (t.top + 1) t = y at hM HST
  have hwt : IntKind.i64.wrap (t.top + 1) = t.top + 1 := by rw [IntKind.wrap_i64]; omega
  have hwg : IntKind.i64.wrap ((g' : Int) - 1) = (g' : Int) - 1 := by rw [IntKind.wrap_i64]; omega
  generalize t.top = tt at *
  clear hr hc hcnt HTT
  go_enter Tryz.func16, Tryz.ntmps16
  go_wp2_with (first | (go_at_call 39; refine (hR.out _ HB2.out).mono ?_; rintro e w3 ⟨rfl, b3⟩; have HB3 := hid (bl_tr HB2.out b3); have X3 := hid (X2.out.stays b3); have Y3 := hid (Y2.out.stays b3); have q3 := X3.out.cell; have r3 := Y3.out.cell; have s3 := Y3.out.frozen; clear b3 hR) | (go_at_call 40; refine (hC.out _ HB3.out).mono ?_; rintro e w4 ⟨⟨p4, c4, rfl⟩, b4⟩; have HB4 := hid (bl_tr HB3.out b4); have X4 := hid (X3.out.stays b4); have Y4 := hid (Y3.out.stays b4); have q4 := X4.out.cell; have r4 := Y4.out.cell; have s4 := Y4.out.frozen; clear b4 hC q3 r3 s3) | (go_at_call 21; have := m1; refine (hG.out _ HB4.out).mono ?_; rintro e w5 ⟨rfl, b5⟩; have HB5 := hid (bl_tr HB4.out b5); have X5 := hid (X4.out.stays b5); have Y5 := hid (Y4.out.stays b5); have q5 := X5.out.cell; have r5 := Y5.out.cell; have s5 := Y5.out.frozen; clear b5 m1 q4 r4 s4) | (go_at_call 21; refine (hG.out _ HB5.out).mono ?_; rintro e w6 ⟨rfl, b6⟩; have HB6 := hid (bl_tr HB5.out b6); have X6 := hid (X5.out.stays b6); have Y6 := hid (Y5.out.stays b6); have q6 := X6.out.cell; have r6 := Y6.out.cell; have s6 := Y6.out.frozen; clear b6 hG q5 r5 s5) | (go_at_call 22; refine (hM.out _ HB6.out).mono ?_; rintro e w7 ⟨a7, c7, N7, rfl, hT7, hls7, b7⟩; have HT7 := hid hT7; have HB7 := hid b7; have HLS := hid hls7; have X7 := hid ((X6.out.stays b7).stays (bl_alloc (Below.refl _ _) (.cells #[.int .i64 y.k, .int .i64 y.n, .slice none 0 0, .slice a7 y.ks.length c7] 28))); have Y7 := hid ((Y6.out.stays b7).stays (bl_alloc (Below.refl _ _) (.cells #[.int .i64 y.k, .int .i64 y.n, .slice none 0 0, .slice a7 y.ks.length c7] 28))); have x7 := X7.out.cell; clear b7 hT7 hls7 q6 r6 s6))
  have H00 : Hid (y.ls.length = 0) := by show _ = _; rw [HLS.out]; rfl
  have HA7 : Hid (Arr (w7.alloc (.cells #[.int .i64 y.k, .int .i64 y.n, .slice none 0 0, .slice a7 y.ks.length c7] 28)) w7.heap.size 28 [.int .i64 y.k, .int .i64 y.n, .slice none y.ls.length 0, .slice a7 y.ks.length c7]) := by rw [H00.out]; exact ⟨heap_alloc_at _ _⟩
  have HBW : Hid (Below w.heap.size w (w7.alloc (.cells #[.int .i64 y.k, .int .i64 y.n, .slice none 0 0, .slice a7 y.ks.length c7] 28))) := bl_alloc (bl_tr HB6.out HB7.out) _
  have HSZ : Hid (w.heap.size + 2 ≤ w6.heap.size ∧ w6.heap.size ≤ w7.heap.size) := ⟨Y6.out.lt, HB7.out.size⟩
  have HT8 : Hid (Tgt.TAt (w7.alloc (.cells #[.int .i64 y.k, .int .i64 y.n, .slice none 0 0, .slice a7 y.ks.length c7] 28)) (fun b => w.heap.size + 2 ≤ b ∧ b ≠ w7.heap.size) N7 [.int .i64 y.k, .int .i64 y.n, .slice none y.ls.length 0, .slice a7 y.ks.length c7] y) := by
    rw [H00.out]
    exact (HT7.out.old.below (bl_alloc (Below.refl _ _) _)).move (Tgt.Keeps.refl _ _) (fun b hb => by have h1 : w6.heap.size ≤ b := hb.1; have h2 := hb.2; have h3 := HSZ.out; exact ⟨by omega, by omega⟩)
  clear HT7 HB7 HLS hM HB6 X6 Y6 HB5 X5 Y5 HB4 X4 Y4 HB3 X3 Y3 x7
  generalize (w7.alloc (.cells #[.int .i64 y.k, .int .i64 y.n, .slice none 0 0, .slice a7 y.ks.length c7] 28)) = W8 at HA7 HBW HT8 X7 Y7 ⊢
  generalize w7.heap.size = B5 at HA7 HT8 HSZ ⊢
  go_loopw [6] (fun v wr => ∃ (j : Nat) (z : Tgt.Tt) (N : Nat) (az' : Option Addr) (cz' : Nat) (az : Option Addr) (cz : Nat), v = .int .i64 ((j : Int) - 1) ∧ j ≤ g' ∧ Hid (Tt.around 10 ((numsT (tt + 1) g').drop j) y = z) ∧ Hid (Arr wr B5 28 [.int .i64 z.k, .int .i64 z.n, .slice az' z.ls.length cz', .slice az z.ks.length cz]) ∧ Hid (Arr wr w.heap.size 42 [.int .i64 (g' : Int), .int .i64 t.k, .int .i64 t.n, .slice a1 t.ks.length c1] ∧ Arr wr (w.heap.size + 1) 28 [.int .i64 0, .int .i64 0, .slice none 0 0, .slice none 0 0]) ∧ Hid (Tgt.TAt wr (fun b => w.heap.size + 2 ≤ b ∧ b ≠ B5) N [.int .i64 z.k, .int .i64 z.n, .slice az' z.ls.length cz', .slice az z.ks.length cz] z) ∧ Hid (Below w.heap.size w wr)) (fun v _ => (intOf v + 1).toNat)
  case atStart => exact ⟨g', y, N7, none, 0, a7, c7, by first | rfl | (rw [hwg]), Nat.le_refl _, by show _ = _; rw [List.drop_eq_nil_of_le (by rw [numsT_len]; omega)]; rfl, HA7, ⟨X7.out, Y7.out⟩, HT8, HBW⟩
  case round =>
    obtain ⟨j, z, N, az', cz', az, cz, rfl, hjl, hA2, hX, hO, hTz, hB⟩ := hrel
    clear HA7 HBW HT8 X7 Y7 W8
    have x0 := hX.out.cell
    by_cases h0 : 0 < j
    · obtain ⟨i, rfl⟩ : ∃ i, j = i + 1 := ⟨j - 1, by omega⟩
      have hji : ((i + 1 : Nat) : Int) - 1 = (i : Int) := by omega
      rw [hji]
      have hx : (numsT (tt + 1) g')[i]? = some (tt + 1 + (i : Int)) := by unfold numsT; rw [List.getElem?_map, List.getElem?_range (by omega)]; rfl
      have HN2 : Hid (Tt.around 10 ((numsT (tt + 1) g').drop i) y = .mk 10 (tt + 1 + (i : Int)) [] [z]) := by show _ = _; rw [around_at hx, hA2.out]
      have hws2 : IntKind.i64.wrap ((i : Int) - 1) = (i : Int) - 1 := by rw [IntKind.wrap_i64]; omega
      have hws3 : IntKind.i64.wrap (tt + 1 + (i : Int)) = tt + 1 + (i : Int) := by rw [IntKind.wrap_i64]; omega
      have HBi : Hid (Calls Tryz.prog 41 #[.int .i64 10, .int .i64 (tt + 1 + (i : Int)), .agg #[.int .i64 z.k, .int .i64 z.n, .slice az' z.ls.length cz', .slice az z.ks.length cz]] wr fun e w' => ∃ a c, e = .returned (.agg #[.int .i64 10, .int .i64 (tt + 1 + (i : Int)), .slice none 0 0, .slice a 1 c]) ∧ Tgt.TAt w' (fun b => w.heap.size + 2 ≤ b ∧ b ≠ B5) (N + 1) [.int .i64 10, .int .i64 (tt + 1 + (i : Int)), .slice none 0 0, .slice a 1 c] (.mk 10 (tt + 1 + (i : Int)) [] [z]) ∧ Below wr.heap.size wr w') := binder_any wr _ N 10 _ z az' az cz' cz ⟨by omega, by omega⟩ ⟨by omega, by omega⟩ hTz.out (fun b hb => by have h1 := hX.out.lt; have h2 := hO.out.2.lt; exact ⟨by omega, by omega⟩)
      clear hx hA2 hTz
      go_wp2_with (go_at_call 41; refine HBi.out.mono ?_; rintro e w9 ⟨a9, c9, rfl, hT9, b9⟩; have HT9 := hid hT9; have HB9 := hid (bl_tr hB.out b9); have HX9 := hid (hX.out.stays b9); have HO9 : Hid (Arr w9 w.heap.size 42 [.int .i64 (g' : Int), .int .i64 t.k, .int .i64 t.n, .slice a1 t.ks.length c1] ∧ Arr w9 (w.heap.size + 1) 28 [.int .i64 0, .int .i64 0, .slice none 0 0, .slice none 0 0]) := ⟨hO.out.1.stays b9, hO.out.2.stays b9⟩; have x9 := HX9.out.cell; have z9 := HX9.out.frozen; clear b9 hT9 HBi)
      go_roundw
      case rel =>
        have h3 := HSZ.out
        have hK : ∀ (W : World) i u, Tgt.Keeps (fun b => w.heap.size + 2 ≤ b ∧ b ≠ B5) W (W.setCell ⟨B5, i, none⟩ u) := fun W i u b o v hb hv => by have hb : w.heap.size + 2 ≤ b ∧ b ≠ B5 := hb; rw [World.cell?_of_block (w := W) (Below.heap_setCell _ _ _ _ (by show b ≠ B5; exact hb.2))]; exact hv
        have hs : ∀ (W : World) i u, Below w.heap.size w W → Below w.heap.size w (W.setCell ⟨B5, i, none⟩ u) := fun W i u h => bl_set _ _ h (by show _ ≤ B5; omega)
        have ho1 : ∀ (W : World) i u bb T cur, bb ≠ B5 → Arr W bb T cur → Arr (W.setCell ⟨B5, i, none⟩ u) bb T cur := fun W i u bb T cur hne h => h.other (p := ⟨B5, i, none⟩) hne u
        refine ⟨i, .mk 10 (tt + 1 + (i : Int)) [] [z], N + 1, none, 0, a9, c9, by first | rfl | (rw [hws2]), by omega, HN2, ?_, ?_, ?_, ?_⟩
        · exact (((HX9.out.set 0 _).set 1 _).set 2 _).set 3 _
        · exact ⟨ho1 _ _ _ _ _ _ (by omega) (ho1 _ _ _ _ _ _ (by omega) (ho1 _ _ _ _ _ _ (by omega) (ho1 _ _ _ _ _ _ (by omega) HO9.out.1))), ho1 _ _ _ _ _ _ (by omega) (ho1 _ _ _ _ _ _ (by omega) (ho1 _ _ _ _ _ _ (by omega) (ho1 _ _ _ _ _ _ (by omega) HO9.out.2)))⟩
        · exact HT9.out.move (((hK _ _ _).trans (hK _ _ _)).trans ((hK _ _ _).trans (hK _ _ _))) (fun b hb => hb)
        · exact hs _ _ _ (hs _ _ _ (hs _ _ _ (hs _ _ _ HB9.out)))
      case measure => simp [intOf] <;> omega
    · obtain rfl : j = 0 := by omega
      rw [List.drop_zero] at hA2
      rw [hA2.out] at HST
      have y0 := hO.out.2.cell
      have y1 := hO.out.2.frozen
      have h3 := HSZ.out
      have hne : ¬ B5 = w.heap.size + 1 := by omega
      clear hO hX
      go_wp2
      refine bodyPost_ret (v := .tuple #[.agg #[.int .i64 z.k, .int .i64 z.n, .slice az' z.ls.length cz', .slice az z.ks.length cz], .int .i64 0]) (by rw [results_cell2t (fn := Tryz.f16) (p := 2) (a := 3) (ty := 28) (by kernel_rfl)]; simp [go_sem, y0, y1]) rfl ?_
      rw [HST.out]
      have hK : ∀ (W : World) i u, Tgt.Keeps (fun b => w.heap.size + 2 ≤ b ∧ b ≠ B5) W (W.setCell ⟨w.heap.size + 1, i, none⟩ u) := fun W i u b o v hb hv => by have hb : w.heap.size + 2 ≤ b ∧ b ≠ B5 := hb; rw [World.cell?_of_block (w := W) (Below.heap_setCell _ _ _ _ (by show b ≠ w.heap.size + 1; omega))]; exact hv
      exact ⟨.inl ⟨HK.out, az', cz', az, cz, N, rfl, hTz.out.move (((hK _ _ _).trans (hK _ _ _)).trans ((hK _ _ _).trans (hK _ _ _))) (fun b hb => by have hb : w.heap.size + 2 ≤ b ∧ b ≠ B5 := hb; show w.heap.size ≤ b; omega)⟩, HSS.out _ _ _ (HSS.out _ _ _ (HSS.out _ _ _ (HSS.out _ _ _ hB.out)))⟩
end Go.Proofs.YtigliglmejkakaaGreat

namespace Go.Proofs.YtigliglmejkakaaGreat
open Go.RowKit
set_option linter.unusedVariables false
set_option linter.unusedSimpArgs false

theorem nOut_any (s : ByteArray) (hs : s.size ≤ 9223372036854775800) (w : World) : Calls Tryz.prog 126 #[.string s] w fun e w' => e = .returned (.string (⟨#[111, 117, 116, 32]⟩ ++ s)) ∧ w' = w := by
  have hb : ¬ ((4 + s.size : Nat) : Int) > 9223372036854775807 := by omega
  go_enter Tryz.func126, Tryz.ntmps126
  go_wp2
  go_ret
  exact ⟨rfl, rfl⟩
theorem nCon_any (s : ByteArray) (hs : s.size ≤ 9223372036854775800) (w : World) : Calls Tryz.prog 129 #[.string s] w fun e w' => e = .returned (.string (s ++ ⟨#[40, 41]⟩)) ∧ w' = w := by
  have hb : ¬ ((s.size + 2 : Nat) : Int) > 9223372036854775807 := by omega
  go_enter Tryz.func129, Tryz.ntmps129
  go_wp2
  go_ret
  exact ⟨rfl, rfl⟩
/-- What a datatype's out comes to. -/
def outA (x : Tm) : An := ansB (decide (x.t.k = 6) && (x.t.okT && okSum x.cs)) (.mk 4 0 [] [Tp.made 0 x.t, sumT x.cs])

set_option maxHeartbeats 2000000 in
set_option maxRecDepth 100000 in
theorem out_all (w : World) (n b o : Nat) (x : Tm) (a1 a2 : Option Addr) (c1 c2 : Nat) (hcl : w.cell? ⟨b, o + 1, none⟩ = some (.int .i64 x.t.k) ∧ w.cell? ⟨b, o + 2, none⟩ = some (.int .i64 x.t.n) ∧ w.cell? ⟨b, o + 3, none⟩ = some (.slice a1 x.t.ks.length c1) ∧ w.cell? ⟨b, o + 4, none⟩ = some (.slice a2 x.cs.length c2)) (hT : TAt w Any n [.int .i64 x.t.k, .int .i64 x.t.n, .slice a1 x.t.ks.length c1] x.t) (hl : CtL w Any n (.slice a2 x.cs.length c2) x.cs) (hc : x.t.cnt ≤ 1048576) (hcc : Ct.wt x.cs ≤ 1048576) :
    Calls Tryz.prog 128 #[.pointer (some ⟨b, o, none⟩)] w fun e w' => AnsOf w (outA x) e w' := by
  have hwt := Ct.wt_le x.cs
  have HT := fun wz (hz : Below w.heap.size w wz) => TType_any wz n _ x.t (hT.below hz) hc
  have HSu := fun wz (hz : Below w.heap.size w wz) => Sum_any wz n _ x.cs (hl.below hz) (by omega) (by omega)
  have HB1 : Hid (Below w.heap.size w (w.alloc (.cells #[.int .i64 0, .int .i64 0, .slice none 0 0, .slice none 0 0] 28))) := bl_alloc (Below.refl _ _) _
  have Y1 : Hid (Arr (w.alloc (.cells #[.int .i64 0, .int .i64 0, .slice none 0 0, .slice none 0 0] 28)) w.heap.size 28 [.int .i64 0, .int .i64 0, .slice none 0 0, .slice none 0 0]) := ⟨heap_alloc_at _ _⟩
  have hbw : b < w.heap.size := World.block_lt_of_cell? _ _ hcl.1
  have HU : Hid (∀ wz, Below w.heap.size w wz → wz.cell? ⟨b, o + 1, none⟩ = some (.int .i64 x.t.k) ∧ wz.cell? ⟨b, o + 2, none⟩ = some (.int .i64 x.t.n) ∧ wz.cell? ⟨b, o + 3, none⟩ = some (.slice a1 x.t.ks.length c1) ∧ wz.cell? ⟨b, o + 4, none⟩ = some (.slice a2 x.cs.length c2)) := fun wz hz => ⟨(hz.cell (p := ⟨b, o + 1, none⟩) hbw).trans hcl.1, (hz.cell (p := ⟨b, o + 2, none⟩) hbw).trans hcl.2.1, (hz.cell (p := ⟨b, o + 3, none⟩) hbw).trans hcl.2.2.1, (hz.cell (p := ⟨b, o + 4, none⟩) hbw).trans hcl.2.2.2⟩
  obtain ⟨m1, m2, m3, m4⟩ := HU.out _ HB1.out
  have HSS : Hid (∀ (W : World) i u, Below w.heap.size w W → Below w.heap.size w (W.setCell ⟨w.heap.size, i, none⟩ u)) := fun W i u h => bl_set _ _ h (Nat.le_refl _)
  have HZ1 : Hid ((w.alloc (.cells #[.int .i64 0, .int .i64 0, .slice none 0 0, .slice none 0 0] 28)).heap.size = w.heap.size + 1) := size_alloc _ _
  have hO : outA x = ansB (decide (x.t.k = 6) && (x.t.okT && okSum x.cs)) (.mk 4 0 [] [Tp.made 0 x.t, sumT x.cs]) := rfl
  clear hT hl hcl hc hcc
  by_cases h6 : x.t.k = 6
  case neg =>
    have HK : Hid (outA x = (zeroA, 1)) := by show _ = _; rw [hO, decide_eq_false h6]; rfl
    have e6 : (x.t.k != 6) = true := by rw [bne_iff_ne]; exact h6
    have y1 := Y1.out.cell
    have z1 := Y1.out.frozen
    clear h6 hO HT HSu
    go_enter Tryz.func128, Tryz.ntmps128
    go_wp2
    refine bodyPost_ret (v := .tuple #[.agg #[.int .i64 0, .int .i64 0, .slice none 0 0, .slice none 0 0], .int .i64 1]) (by rw [results_cell2t (fn := Tryz.f128) (p := 2) (a := 3) (ty := 28) (by kernel_rfl)]; simp [go_sem, y1, z1]) rfl ?_
    rw [HK.out]
    exact AnsOf.err 1 (by first | exact HSS.out _ _ _ (HSS.out _ _ _ (HSS.out _ _ _ (HSS.out _ _ _ HB1.out))) | exact HB1.out)
  rw [decide_eq_true h6, Bool.true_and] at hO
  have e6 : (x.t.k != 6) = false := by rw [bne_eq_false_iff_eq]; exact h6
  clear h6
  cases hok : x.t.okT with
  | false =>
    have HQ : Hid (Calls Tryz.prog 6 #[.agg #[.int .i64 x.t.k, .int .i64 x.t.n, .slice a1 x.t.ks.length c1]] (w.alloc (.cells #[.int .i64 0, .int .i64 0, .slice none 0 0, .slice none 0 0] 28)) fun e w' => e = .returned (.tuple #[.agg #[.int .i64 0, .int .i64 0, .slice none 0 0, .slice none 0 0], .int .i64 1]) ∧ Below (w.alloc (.cells #[.int .i64 0, .int .i64 0, .slice none 0 0, .slice none 0 0] 28)).heap.size (w.alloc (.cells #[.int .i64 0, .int .i64 0, .slice none 0 0, .slice none 0 0] 28)) w') := (HT _ HB1.out).mono fun e w' ⟨h1, h2⟩ => ⟨h1.resolve_left (fun h => by have := h.1; rw [hok] at this; cases this) |>.2, h2⟩
    have HK : Hid (outA x = (zeroA, 1)) := by show _ = _; rw [hO, hok]; rfl
    clear HT HSu hok hO
    go_enter Tryz.func128, Tryz.ntmps128
    go_wp2_with (go_at_call 6; refine HQ.out.mono ?_; rintro e w2 ⟨rfl, b2⟩; have HB2 := hid (bl_tr HB1.out b2); have r2 := fun o => ((Y1.out.stays b2).stays (bl_alloc (Below.refl _ _) o)).cell; have s2 := fun o => ((Y1.out.stays b2).stays (bl_alloc (Below.refl _ _) o)).frozen; clear b2)
    refine bodyPost_ret (v := .tuple #[.agg #[.int .i64 0, .int .i64 0, .slice none 0 0, .slice none 0 0], .int .i64 1]) (by rw [results_cell2t (fn := Tryz.f128) (p := 2) (a := 3) (ty := 28) (by kernel_rfl)]; simp [go_sem, r2, s2]) rfl ?_
    rw [HK.out]
    exact AnsOf.err 1 (HSS.out _ _ _ (HSS.out _ _ _ (HSS.out _ _ _ (HSS.out _ _ _ (bl_alloc HB2.out _)))))
  | true =>
  rw [hok, Bool.true_and] at hO
  obtain ⟨y1, hy1⟩ : ∃ y1, Tp.made 0 x.t = y1 := ⟨_, rfl⟩
  obtain ⟨y2, hy2⟩ : ∃ y2, sumT x.cs = y2 := ⟨_, rfl⟩
  rw [hy1, hy2] at hO
  have HQ1 : Hid (Calls Tryz.prog 6 #[.agg #[.int .i64 x.t.k, .int .i64 x.t.n, .slice a1 x.t.ks.length c1]] (w.alloc (.cells #[.int .i64 0, .int .i64 0, .slice none 0 0, .slice none 0 0] 28)) fun e w' => (∃ q1' d1' q1 d1 N1, e = .returned (.tuple #[.agg #[.int .i64 y1.k, .int .i64 y1.n, .slice q1' y1.ls.length d1', .slice q1 y1.ks.length d1], .int .i64 0]) ∧ Tgt.TAt w' (fun b => (w.alloc (.cells #[.int .i64 0, .int .i64 0, .slice none 0 0, .slice none 0 0] 28)).heap.size ≤ b) N1 [.int .i64 y1.k, .int .i64 y1.n, .slice q1' y1.ls.length d1', .slice q1 y1.ks.length d1] y1) ∧ Below (w.alloc (.cells #[.int .i64 0, .int .i64 0, .slice none 0 0, .slice none 0 0] 28)).heap.size (w.alloc (.cells #[.int .i64 0, .int .i64 0, .slice none 0 0, .slice none 0 0] 28)) w') := (HT _ HB1.out).mono fun e w' ⟨h1, h2⟩ => ⟨by rw [hok, hy1] at h1; exact h1.two.yes, h2⟩
  cases hos : okSum x.cs with
  | false =>
    have HQ2 : Hid (∀ wz, Below w.heap.size w wz → Calls Tryz.prog 51 #[.slice a2 x.cs.length c2] wz fun e w' => e = .returned (.tuple #[.agg #[.int .i64 0, .int .i64 0, .slice none 0 0, .slice none 0 0], .int .i64 1]) ∧ Below wz.heap.size wz w') := fun wz hz => (HSu wz hz).mono fun e w' ⟨h1, h2⟩ => ⟨h1.resolve_left (fun h => by have := h.1; rw [hos] at this; cases this) |>.2, h2⟩
    have HK : Hid (outA x = (zeroA, 1)) := by show _ = _; rw [hO, hos]; rfl
    clear HT HSu hok hos hO hy1 hy2
    go_enter Tryz.func128, Tryz.ntmps128
    go_wp2_with (first | (go_at_call 6; refine HQ1.out.mono ?_; rintro e w2 ⟨⟨q1', d1', q1, d1, N1, rfl, -⟩, b2⟩; have hb2 := bl_alloc b2 (.cells #[.int .i64 y1.k, .int .i64 y1.n, .slice q1' y1.ls.length d1', .slice q1 y1.ks.length d1] 28); have HB2 := hid (bl_tr HB1.out hb2); have Y2 := hid (Y1.out.stays hb2); obtain ⟨k1, k2, k3, k4⟩ := HU.out _ HB2.out; clear b2 hb2) | (go_at_call 51; refine (HQ2.out _ HB2.out).mono ?_; rintro e w3 ⟨rfl, b3⟩; have HB3 := hid (bl_tr HB2.out b3); have r3 := fun o => ((Y2.out.stays b3).stays (bl_alloc (Below.refl _ _) o)).cell; have s3 := fun o => ((Y2.out.stays b3).stays (bl_alloc (Below.refl _ _) o)).frozen; clear b3))
    refine bodyPost_ret (v := .tuple #[.agg #[.int .i64 0, .int .i64 0, .slice none 0 0, .slice none 0 0], .int .i64 1]) (by rw [results_cell2t (fn := Tryz.f128) (p := 2) (a := 3) (ty := 28) (by kernel_rfl)]; simp [go_sem, r3, s3]) rfl ?_
    rw [HK.out]
    exact AnsOf.err 1 (HSS.out _ _ _ (HSS.out _ _ _ (HSS.out _ _ _ (HSS.out _ _ _ (bl_alloc HB3.out _)))))
  | true =>
    have HQ2 : Hid (∀ wz, Below w.heap.size w wz → Calls Tryz.prog 51 #[.slice a2 x.cs.length c2] wz fun e w' => (∃ q2' d2' q2 d2 N2, e = .returned (.tuple #[.agg #[.int .i64 y2.k, .int .i64 y2.n, .slice q2' y2.ls.length d2', .slice q2 y2.ks.length d2], .int .i64 0]) ∧ Tgt.TAt w' (fun b => wz.heap.size ≤ b) N2 [.int .i64 y2.k, .int .i64 y2.n, .slice q2' y2.ls.length d2', .slice q2 y2.ks.length d2] y2) ∧ Below wz.heap.size wz w') := fun wz hz => (HSu wz hz).mono fun e w' ⟨h1, h2⟩ => ⟨by rw [hos, hy2] at h1; exact h1.yes, h2⟩
    have HK : Hid (outA x = (.mk 4 0 [] [y1, y2], 0)) := by show _ = _; rw [hO, hos]; rfl
    clear HT HSu hok hos hO hy1 hy2
    go_enter Tryz.func128, Tryz.ntmps128
    go_wp2_with (first | (go_at_call 6; refine HQ1.out.mono ?_; rintro e w2 ⟨⟨q1', d1', q1, d1, N1, rfl, hT2⟩, b2⟩; have hb2 := bl_alloc b2 (.cells #[.int .i64 y1.k, .int .i64 y1.n, .slice q1' y1.ls.length d1', .slice q1 y1.ks.length d1] 28); have HB2 := hid (bl_tr HB1.out hb2); have Y2 := hid (Y1.out.stays hb2); have A2 : Hid (Arr (w2.alloc (.cells #[.int .i64 y1.k, .int .i64 y1.n, .slice q1' y1.ls.length d1', .slice q1 y1.ks.length d1] 28)) w2.heap.size 28 [.int .i64 y1.k, .int .i64 y1.n, .slice q1' y1.ls.length d1', .slice q1 y1.ks.length d1]) := ⟨heap_alloc_at _ _⟩; have T2 : Hid (Tgt.TAt (w2.alloc (.cells #[.int .i64 y1.k, .int .i64 y1.n, .slice q1' y1.ls.length d1', .slice q1 y1.ks.length d1] 28)) (fun b => w.heap.size + 1 ≤ b) N1 [.int .i64 y1.k, .int .i64 y1.n, .slice q1' y1.ls.length d1', .slice q1 y1.ks.length d1] y1) := (hT2.below (bl_alloc (Below.refl _ _) _)).move (Tgt.Keeps.refl _ _) (fun b hb => by have hb := hb; rw [HZ1.out] at hb; exact hb); obtain ⟨k1, k2, k3, k4⟩ := HU.out _ HB2.out; clear b2 hb2 hT2) | (go_at_call 51; refine (HQ2.out _ HB2.out).mono ?_; rintro e w3 ⟨⟨q2', d2', q2, d2, N2, rfl, hT3⟩, b3⟩; have hb3 := bl_alloc b3 (.cells #[.int .i64 y2.k, .int .i64 y2.n, .slice q2' y2.ls.length d2', .slice q2 y2.ks.length d2] 28); have HB3 := hid (bl_tr HB2.out hb3); have Y3 := hid (Y2.out.stays hb3); have A3 := hid (A2.out.stays hb3); have T3 := hid (T2.out.below hb3); have C3 : Hid (Arr (w3.alloc (.cells #[.int .i64 y2.k, .int .i64 y2.n, .slice q2' y2.ls.length d2', .slice q2 y2.ks.length d2] 28)) w3.heap.size 28 [.int .i64 y2.k, .int .i64 y2.n, .slice q2' y2.ls.length d2', .slice q2 y2.ks.length d2]) := ⟨heap_alloc_at _ _⟩; have hz2 := A2.out.lt; have hz3 := Y2.out.lt; have U3 : Hid (Tgt.TAt (w3.alloc (.cells #[.int .i64 y2.k, .int .i64 y2.n, .slice q2' y2.ls.length d2', .slice q2 y2.ks.length d2] 28)) (fun b => w.heap.size + 1 ≤ b) N2 [.int .i64 y2.k, .int .i64 y2.n, .slice q2' y2.ls.length d2', .slice q2 y2.ks.length d2] y2) := (hT3.below (bl_alloc (Below.refl _ _) _)).move (Tgt.Keeps.refl _ _) (fun b hb => by have hb : (w2.alloc (.cells #[.int .i64 y1.k, .int .i64 y1.n, .slice q1' y1.ls.length d1', .slice q1 y1.ks.length d1] 28)).heap.size ≤ b := hb; show _ ≤ b; omega); have x3 := A3.out.cell; have y3 := C3.out.cell; have hz4 := Y3.out.lt; clear b3 hb3 hT3) | (go_at_call 49; refine (both_any _ (fun b => w.heap.size + 1 ≤ b) (max N1 N2) 4 y1 y2 q1' q1 q2' q2 d1' d1 d2' d2 ⟨by omega, by omega⟩ (T3.out.le (Nat.le_max_left _ _)) (U3.out.le (Nat.le_max_right _ _)) (fun b hb => by show _ ≤ b; omega)).mono ?_; rintro e w4 ⟨q4, d4, rfl, hT4, b4⟩; have HT4 := hid hT4; have HB4 := hid (bl_tr HB3.out b4); have r4 := (Y3.out.stays b4).cell; have s4 := (Y3.out.stays b4).frozen; clear b4 hT4))
    refine bodyPost_ret (v := .tuple #[.agg #[.int .i64 4, .int .i64 0, .slice none 0 0, .slice q4 2 d4], .int .i64 0]) (by rw [results_cell2t (fn := Tryz.f128) (p := 2) (a := 3) (ty := 28) (by kernel_rfl)]; simp [go_sem, r4, s4]) rfl ?_
    rw [HK.out]
    have hK : ∀ (W : World) i u, Tgt.Keeps (fun b => w.heap.size + 1 ≤ b) W (W.setCell ⟨w.heap.size, i, none⟩ u) := fun W i u b o v hb hv => by have hb : w.heap.size + 1 ≤ b := hb; rw [World.cell?_of_block (w := W) (Below.heap_setCell _ _ _ _ (by show b ≠ w.heap.size; omega))]; exact hv
    exact ⟨⟨none, 0, q4, d4, _, rfl, HT4.out.move (((hK _ _ _).trans (hK _ _ _)).trans ((hK _ _ _).trans (hK _ _ _))) (fun b hb => by have hb : w.heap.size + 1 ≤ b := hb; show w.heap.size ≤ b; omega)⟩, HSS.out _ _ _ (HSS.out _ _ _ (HSS.out _ _ _ (HSS.out _ _ _ HB4.out)))⟩
end Go.Proofs.YtigliglmejkakaaGreat
