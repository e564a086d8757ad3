/- The document's Type. -/
import Derived.Test.YtigliglmejkakaaQai
import Derived.Test.YtigliglmejkakaaQan
import Derived.Test.YtigliglmejkakaaQao
namespace Go.Proofs.Ytigliglmejkakaa
open Go.RowKit
set_option linter.unusedVariables false
set_option linter.unusedSimpArgs false

theorem results_cell2t {fn : Func} {p a : Tmp} {ty : TypeId} (h : fn.results = #[.cell p ty, .tmp a]) (tmps : Array Value) (P : Program) (w : World) :
    (results fn tmps).run P w = ((asAddr (tmps.getD p undef)).run P w).andThen fun ad w₁ => ((loadVar ty ad).run P w₁).andThen fun v w₂ => .ok (.tuple #[v, tmps.getD a undef]) w₂ := by
  simp only [results, h]
  simp [Sem.run_bind, Result.andThen]
/-- Does a type become a target type? -/
def Tp.okT (t : Tp) : Bool := t.right && (Tp.spares [7, 8] t && okStamps (Tp.found 6 t []))
theorem Tp.closed_all {t : Tp} (h : Tp.spares [7, 8] t = true) : ∀ x, x ∉ Tp.all 8 t := by
  intro x hx
  rw [Tp.closed_eq, Bool.and_eq_true] at h
  have h8 := h.2
  rw [beq_iff_eq] at h8
  have : (Tp.found 8 t []).length = 0 := by omega
  have h0 := List.eq_nil_of_length_eq_zero this
  have := (Tp.mem_fnd (kind := 8)).2 hx
  rw [h0] at this
  cases this
/-- What a call that makes a target type answers. -/
def TtAns (ok : Bool) (y : Tgt.Tt) (w : World) (e : Ending) (w' : World) : Prop :=
  (ok = true ∧ ∃ a c N, e = .returned (.tuple #[.agg #[.int .i64 y.k, .int .i64 y.n, .slice none 0 0, .slice a y.ks.length c], .int .i64 0]) ∧ Tgt.TAt w' (fun b => w.heap.size ≤ b) N [.int .i64 y.k, .int .i64 y.n, .slice none 0 0, .slice a y.ks.length c] y ∧ y.ls = []) ∨
  (ok = false ∧ e = .returned (.tuple #[.agg #[.int .i64 0, .int .i64 0, .slice none 0 0, .slice none 0 0], .int .i64 1]))

set_option maxHeartbeats 4000000 in
set_option maxRecDepth 100000 in
theorem refTType_any (w : World) (n : Nat) (vs : List Value) (t : Tp) (hT : TAt w Any n vs t) (hcnt : t.cnt ≤ 1048576) : Calls Try.prog 6 #[.agg vs.toArray] w fun e w' => TtAns t.okT (Tp.made 0 t) w e w' ∧ Below w.heap.size w w' := by
  obtain ⟨a1, c1, rfl⟩ := hT.form
  have hR : Hid (∀ wz, Below w.heap.size w wz → Calls Try.prog 21 #[.agg #[.int .i64 t.k, .int .i64 t.n, .slice a1 t.ks.length c1]] wz fun e w' => e = .returned (.bool t.right) ∧ Below wz.heap.size wz w') := fun wz hz => refRight_any n wz _ t (hT.below hz)
  have hC : Hid (∀ wz, Below w.heap.size w wz → Calls Try.prog 22 #[.agg #[.int .i64 t.k, .int .i64 t.n, .slice a1 t.ks.length c1]] wz fun e w' => e = .returned (.bool (Tp.spares [7, 8] t)) ∧ Below wz.heap.size wz w') := fun wz hz => refClosed_any wz n _ t (hT.below hz) hcnt
  have hS : Hid (∀ wz, Below w.heap.size w wz → Calls Try.prog 24 #[.agg #[.int .i64 t.k, .int .i64 t.n, .slice a1 t.ks.length c1]] wz fun e w' => (∃ p c, e = .returned (.slice p (Tp.found 6 t []).length c) ∧ Ls w' Any (.slice p (Tp.found 6 t []).length c) (Tp.found 6 t [])) ∧ Below wz.heap.size wz w') := fun wz hz => (refStamps_any wz n _ t (hT.below hz) hcnt).mono fun e w' ⟨p, c, h1, h2, h3⟩ => ⟨⟨p, c, h1, h2⟩, h3⟩
  have HB2 : Hid (Below w.heap.size w ((w.alloc (.cells #[.int .i64 t.k, .int .i64 t.n, .slice a1 t.ks.length c1] 24)).alloc (.cells #[.int .i64 0, .int .i64 0, .slice none 0 0, .slice none 0 0] 30))) := bl_alloc (bl_alloc (Below.refl _ _) _) _
  have X2 : Hid (Arr ((w.alloc (.cells #[.int .i64 t.k, .int .i64 t.n, .slice a1 t.ks.length c1] 24)).alloc (.cells #[.int .i64 0, .int .i64 0, .slice none 0 0, .slice none 0 0] 30)) w.heap.size 24 [.int .i64 t.k, .int .i64 t.n, .slice a1 t.ks.length c1]) := Arr.stays ⟨heap_alloc_at _ _⟩ (bl_alloc (Below.refl _ _) _)
  have Y2 : Hid (Arr ((w.alloc (.cells #[.int .i64 t.k, .int .i64 t.n, .slice a1 t.ks.length c1] 24)).alloc (.cells #[.int .i64 0, .int .i64 0, .slice none 0 0, .slice none 0 0] 30)) (w.heap.size + 1) 30 [.int .i64 0, .int .i64 0, .slice none 0 0, .slice none 0 0]) := ⟨by have := heap_alloc_at (w.alloc (.cells #[.int .i64 t.k, .int .i64 t.n, .slice a1 t.ks.length c1] 24)) (.cells #[.int .i64 0, .int .i64 0, .slice none 0 0, .slice none 0 0] 30); rw [size_alloc] at this; exact this⟩
  have HTT := hid hT
  clear hT
  have hT : Hid (∀ (wz : World) p c, Ls wz Any (.slice p (Tp.found 6 t []).length c) (Tp.found 6 t []) → Calls Try.prog 23 #[.slice p (Tp.found 6 t []).length c] wz fun e w' => e = .returned (.bool (okStamps (Tp.found 6 t []))) ∧ w' = wz) := fun wz p c h => rstamps_any wz _ _ h
  cases hr : t.right with
  | false =>
    rw [hr] at hR
    have HK : Hid (t.okT = false) := by show _ = _; unfold Tp.okT; rw [hr]; rfl
    clear hr hcnt hC hS hT HTT
    go_enter Try.func6, Try.ntmps6
    go_wp2_with (first | (go_at_call 21; refine (hR.out _ HB2.out).mono ?_; rintro e w3 ⟨rfl, b3⟩; have HB3 := hid (bl_tr HB2.out b3); have X3 := hid (X2.out.stays b3); have Y3 := hid (Y2.out.stays b3); have q3 := X3.out.cell; have r3 := Y3.out.cell; have s3 := Y3.out.frozen; clear b3 hR))
    refine bodyPost_ret (v := .tuple #[.agg #[.int .i64 0, .int .i64 0, .slice none 0 0, .slice none 0 0], .int .i64 1]) (by rw [results_cell2t (fn := Try.f6) (p := 2) (a := 3) (ty := 30) (by kernel_rfl)]; simp [go_sem, r3, s3]) rfl ?_
    have hs : ∀ (W : World) i u, Below w.heap.size w W → Below w.heap.size w (W.setCell ⟨w.heap.size + 1, i, none⟩ u) := fun W i u h => bl_set _ _ h (by show _ ≤ w.heap.size + 1; omega)
    exact ⟨.inr ⟨HK.out, rfl⟩, hs _ _ _ (hs _ _ _ (hs _ _ _ (hs _ _ _ HB3.out)))⟩
  | true =>
  cases hc : Tp.spares [7, 8] t with
  | false =>
    rw [hr] at hR
    rw [hc] at hC
    have HK : Hid (t.okT = false) := by show _ = _; unfold Tp.okT; rw [hc, Bool.false_and, Bool.and_false]
    clear hr hc hcnt hS hT HTT
    go_enter Try.func6, Try.ntmps6
    go_wp2_with (first | (go_at_call 21; refine (hR.out _ HB2.out).mono ?_; rintro e w3 ⟨rfl, b3⟩; have HB3 := hid (bl_tr HB2.out b3); have X3 := hid (X2.out.stays b3); have Y3 := hid (Y2.out.stays b3); have q3 := X3.out.cell; have r3 := Y3.out.cell; have s3 := Y3.out.frozen; clear b3 hR) | (go_at_call 22; refine (hC.out _ HB3.out).mono ?_; rintro e w4 ⟨rfl, b4⟩; have HB4 := hid (bl_tr HB3.out b4); have X4 := hid (X3.out.stays b4); have Y4 := hid (Y3.out.stays b4); have q4 := X4.out.cell; have r4 := Y4.out.cell; have s4 := Y4.out.frozen; clear b4 hC q3 r3 s3))
    refine bodyPost_ret (v := .tuple #[.agg #[.int .i64 0, .int .i64 0, .slice none 0 0, .slice none 0 0], .int .i64 1]) (by rw [results_cell2t (fn := Try.f6) (p := 2) (a := 3) (ty := 30) (by kernel_rfl)]; simp [go_sem, r4, s4]) rfl ?_
    have hs : ∀ (W : World) i u, Below w.heap.size w W → Below w.heap.size w (W.setCell ⟨w.heap.size + 1, i, none⟩ u) := fun W i u h => bl_set _ _ h (by show _ ≤ w.heap.size + 1; omega)
    exact ⟨.inr ⟨HK.out, rfl⟩, hs _ _ _ (hs _ _ _ (hs _ _ _ (hs _ _ _ HB4.out)))⟩
  | true =>
  cases hs0 : okStamps (Tp.found 6 t []) with
  | false =>
    rw [hr] at hR
    rw [hc] at hC
    rw [hs0] at hT
    have HK : Hid (t.okT = false) := by show _ = _; unfold Tp.okT; rw [hs0, Bool.and_false, Bool.and_false]
    clear hr hc hcnt hs0 HTT
    go_enter Try.func6, Try.ntmps6
    go_wp2_with (first | (go_at_call 21; refine (hR.out _ HB2.out).mono ?_; rintro e w3 ⟨rfl, b3⟩; have HB3 := hid (bl_tr HB2.out b3); have X3 := hid (X2.out.stays b3); have Y3 := hid (Y2.out.stays b3); have q3 := X3.out.cell; have r3 := Y3.out.cell; have s3 := Y3.out.frozen; clear b3 hR) | (go_at_call 22; refine (hC.out _ HB3.out).mono ?_; rintro e w4 ⟨rfl, b4⟩; have HB4 := hid (bl_tr HB3.out b4); have X4 := hid (X3.out.stays b4); have Y4 := hid (Y3.out.stays b4); have q4 := X4.out.cell; have r4 := Y4.out.cell; have s4 := Y4.out.frozen; clear b4 hC q3 r3 s3) | (go_at_call 24; refine (hS.out _ HB4.out).mono ?_; rintro e w5 ⟨⟨p5, c5, rfl, hl5⟩, b5⟩; have HB5 := hid (bl_tr HB4.out b5); have X5 := hid (X4.out.stays b5); have Y5 := hid (Y4.out.stays b5); have q5 := X5.out.cell; have r5 := Y5.out.cell; have s5 := Y5.out.frozen; have HL5 := hid hl5; clear b5 hS hl5 q4 r4 s4) | (go_at_call 23; refine (hT.out _ _ _ HL5.out).mono ?_; rintro e w6 ⟨rfl, hw⟩; rw [hw]; clear hw w6 hT))
    refine bodyPost_ret (v := .tuple #[.agg #[.int .i64 0, .int .i64 0, .slice none 0 0, .slice none 0 0], .int .i64 1]) (by rw [results_cell2t (fn := Try.f6) (p := 2) (a := 3) (ty := 30) (by kernel_rfl)]; simp [go_sem, r5, s5]) rfl ?_
    have hs : ∀ (W : World) i u, Below w.heap.size w W → Below w.heap.size w (W.setCell ⟨w.heap.size + 1, i, none⟩ u) := fun W i u h => bl_set _ _ h (by show _ ≤ w.heap.size + 1; omega)
    exact ⟨.inr ⟨HK.out, rfl⟩, hs _ _ _ (hs _ _ _ (hs _ _ _ (hs _ _ _ HB5.out)))⟩
  | true =>
    rw [hr] at hR
    rw [hs0] at hT
    have hM : Hid (∀ wz, Below w.heap.size w wz → Calls Try.prog 25 #[.agg #[.int .i64 t.k, .int .i64 t.n, .slice a1 t.ks.length c1], .int .i64 0] wz (TmAns wz (Tp.made 0 t))) := fun wz hz => made_any n wz _ t 0 (HTT.out.below hz) hcnt (fun x hx => absurd hx (Tp.closed_all hc x))
    have HK : Hid (t.okT = true) := by show _ = _; unfold Tp.okT; rw [hr, hc, hs0]; rfl
    rw [hc] at hC
    generalize Tp.made 0 t = y at hM ⊢
    clear hr hc hcnt hs0 HTT
    go_enter Try.func6, Try.ntmps6
    go_wp2_with (first | (go_at_call 21; refine (hR.out _ HB2.out).mono ?_; rintro e w3 ⟨rfl, b3⟩; have HB3 := hid (bl_tr HB2.out b3); have X3 := hid (X2.out.stays b3); have Y3 := hid (Y2.out.stays b3); have q3 := X3.out.cell; have r3 := Y3.out.cell; have s3 := Y3.out.frozen; clear b3 hR) | (go_at_call 22; refine (hC.out _ HB3.out).mono ?_; rintro e w4 ⟨rfl, b4⟩; have HB4 := hid (bl_tr HB3.out b4); have X4 := hid (X3.out.stays b4); have Y4 := hid (Y3.out.stays b4); have q4 := X4.out.cell; have r4 := Y4.out.cell; have s4 := Y4.out.frozen; clear b4 hC q3 r3 s3) | (go_at_call 24; refine (hS.out _ HB4.out).mono ?_; rintro e w5 ⟨⟨p5, c5, rfl, hl5⟩, b5⟩; have HB5 := hid (bl_tr HB4.out b5); have X5 := hid (X4.out.stays b5); have Y5 := hid (Y4.out.stays b5); have q5 := X5.out.cell; have r5 := Y5.out.cell; have s5 := Y5.out.frozen; have HL5 := hid hl5; clear b5 hS hl5 q4 r4 s4) | (go_at_call 23; refine (hT.out _ _ _ HL5.out).mono ?_; rintro e w6 ⟨rfl, hw⟩; rw [hw]; clear hw w6 hT) | (go_at_call 25; refine (hM.out _ HB5.out).mono ?_; rintro e w7 ⟨a7, c7, N7, rfl, hT7, hls7, b7⟩; have HT7 := hid hT7; have HB7 := hid b7; have HLS := hid hls7; have Y7 := hid (Y5.out.stays b7); have r7 := Y7.out.cell; have s7 := Y7.out.frozen; clear b7 hT7 hls7 q5 r5 s5))
    refine bodyPost_ret (v := .tuple #[.agg #[.int .i64 y.k, .int .i64 y.n, .slice none 0 0, .slice a7 y.ks.length c7], .int .i64 0]) (by rw [results_cell2t (fn := Try.f6) (p := 2) (a := 3) (ty := 30) (by kernel_rfl)]; simp [go_sem, r7, s7]) rfl ?_
    have hs : ∀ (W : World) i u, Below w.heap.size w W → Below w.heap.size w (W.setCell ⟨w.heap.size + 1, i, none⟩ u) := fun W i u h => bl_set _ _ h (by show _ ≤ w.heap.size + 1; omega)
    have hlt : w.heap.size + 1 < w5.heap.size := Y5.out.lt
    have hK : ∀ (W : World) i u, Tgt.Keeps (fun b => w5.heap.size ≤ b) W (W.setCell ⟨w.heap.size + 1, i, none⟩ u) := fun W i u b o v hb hv => by have hb : w5.heap.size ≤ b := hb; rw [World.cell?_of_block (w := W) (Below.heap_setCell _ _ _ _ (by show b ≠ w.heap.size + 1; omega))]; exact hv
    exact ⟨.inl ⟨HK.out, a7, c7, N7, rfl, HT7.out.move (((hK _ _ _).trans (hK _ _ _)).trans ((hK _ _ _).trans (hK _ _ _))) (fun b hb => by have hb : w5.heap.size ≤ b := hb; show w.heap.size ≤ b; omega), HLS.out⟩, hs _ _ _ (hs _ _ _ (hs _ _ _ (hs _ _ _ (bl_tr HB5.out HB7.out))))⟩
end Go.Proofs.Ytigliglmejkakaa
