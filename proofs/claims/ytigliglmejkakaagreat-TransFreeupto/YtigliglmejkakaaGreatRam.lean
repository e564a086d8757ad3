/- The program's Type. The document's Rep. The program's argument; a row of target types that is filled; Sum. -/
import Derived.Test.YtigliglmejkakaaGreatRal
import Derived.Test.YtigliglmejkakaaGreatRaj
namespace Go.Proofs.YtigliglmejkakaaGreat
open Go.RowKit
set_option linter.unusedVariables false
set_option linter.unusedSimpArgs false

theorem foldl_max (r : List Int) : ∀ a b : Int, r.foldl max (max a b) = max (r.foldl max a) b := by
  induction r with
  | nil => intro a b; rfl
  | cons x r ih => intro a b; simp only [List.foldl_cons]; rw [show max (max a b) x = max (max a x) b by omega]; exact ih _ _
theorem mxI_end (l : List Int) : mxI (l ++ [-1]) = l.foldl max (-1) := by
  cases l with
  | nil => rfl
  | cons x r =>
    show (r ++ [-1]).foldl max x = r.foldl max (max (-1) x)
    rw [List.foldl_append, show max (-1) x = max x (-1) by omega, foldl_max]
    rfl
theorem foldl_max_le (r : List Int) (M : Int) : ∀ a : Int, r.foldl max a ≤ M ↔ a ≤ M ∧ ∀ x ∈ r, x ≤ M := by
  induction r with
  | nil => intro a; simp
  | cons x r ih =>
    intro a
    rw [List.foldl_cons, ih]
    constructor
    · rintro ⟨h1, h2⟩
      exact ⟨by omega, fun y hy => by rcases List.mem_cons.1 hy with rfl | hy; exact (by omega); exact h2 y hy⟩
    · rintro ⟨h1, h2⟩
      exact ⟨by have := h2 x List.mem_cons_self; omega, fun y hy => h2 y (List.mem_cons_of_mem _ hy)⟩
theorem topK_max (l : List Int) : topK l = l.foldl max (-1) + 1 := by
  unfold topK
  have : ∀ (l : List Int) (k : Int), l.foldl (fun k x => if k ≤ x then x + 1 else k) k = l.foldl max (k - 1) + 1 := by
    intro l
    induction l with
    | nil => intro k; simp
    | cons x r ih =>
      intro k
      rw [List.foldl_cons, List.foldl_cons, ih]
      congr 2
      split <;> omega
  exact this l 0
theorem Tp.top_topK (t : Tp) : topK (Tp.found 6 t []) = t.top + 1 := by rw [topK_max, Tp.top, mxI_end]
mutual
theorem Tp.right_pos : ∀ t : Tp, t.right = true → ∀ x ∈ Tp.all 6 t, 0 ≤ x
  | .mk k n ks, h, x, hx => by
    rw [Tp.right, Bool.and_eq_true] at h
    rw [Tp.all, List.mem_append] at hx
    rcases hx with hx | hx
    · split at hx
      · rename_i hk
        subst hk
        rw [List.mem_singleton] at hx
        subst hx
        have h1 := h.1
        simp [Tp.own] at h1
        exact h1.1
      · cases hx
    · exact Tp.right_posL ks h.2 x hx
theorem Tp.right_posL : ∀ l : List Tp, Tp.rightL l = true → ∀ x ∈ Tp.allL 6 l, 0 ≤ x
  | [], _, x, hx => by rw [Tp.allL] at hx; cases hx
  | y :: r, h, x, hx => by
    rw [Tp.rightL, Bool.and_eq_true] at h
    rw [Tp.allL, List.mem_append] at hx
    rcases hx with hx | hx
    · exact Tp.right_pos y h.1 x hx
    · exact Tp.right_posL r h.2 x hx
end
theorem Tp.top_ok {t : Tp} (h : t.right = true) : okStamps (Tp.found 6 t []) = decide (t.top ≤ 2147483647) := by
  rw [Bool.eq_iff_iff, decide_eq_true_eq, Tp.top, mxI_end, foldl_max_le]
  unfold okStamps
  rw [List.all_eq_true]
  constructor
  · intro h1
    exact ⟨by omega, fun x hx => by have := h1 x hx; simp at this; exact this.2⟩
  · rintro ⟨-, h2⟩ x hx
    have := Tp.right_pos t h x (Tp.mem_fnd.1 hx)
    have := h2 x hx
    simp
    omega
theorem Tp.closed_all7 {t : Tp} (h : Tp.spares [7, 8] t = true) : ∀ x, x ∉ Tp.all 7 t := by
  intro x hx
  rw [Tp.closed_eq, Bool.and_eq_true] at h
  have h8 := h.1
  rw [beq_iff_eq] at h8
  have : (Tp.found 7 t []).length = 0 := by omega
  have h0 := List.eq_nil_of_length_eq_zero this
  have := (Tp.mem_fnd (kind := 7)).2 hx
  rw [h0] at this
  cases this
theorem Tp.top_ge (t : Tp) : -1 ≤ t.top := by
  rw [Tp.top, mxI_end]
  have := (foldl_max_le (Tp.found 6 t []) ((Tp.found 6 t []).foldl max (-1)) (-1)).1 (Int.le_refl _)
  exact this.1

set_option maxHeartbeats 4000000 in
set_option maxRecDepth 100000 in
theorem TType_any (w : World) (n : Nat) (vs : List Value) (t : Tp) (hT : TAt w Any n vs t) (hcnt : t.cnt ≤ 1048576) : Calls Tryz.prog 6 #[.agg vs.toArray] w fun e w' => TtAns t.okT (Tp.made 0 t) w e w' ∧ Below w.heap.size w w' := by
  obtain ⟨a1, c1, rfl⟩ := hT.form
  have hR : Hid (∀ wz, Below w.heap.size w wz → Calls Tryz.prog 19 #[.agg #[.int .i64 t.k, .int .i64 t.n, .slice a1 t.ks.length c1]] wz fun e w' => e = .returned (.bool t.right) ∧ Below wz.heap.size wz w') := fun wz hz => Right_any wz n _ t (hT.below hz)
  have hC : Hid (∀ wz, Below w.heap.size w wz → Calls Tryz.prog 20 #[.agg #[.int .i64 t.k, .int .i64 t.n, .slice a1 t.ks.length c1]] wz fun e w' => e = .returned (.bool (Tp.spares [7, 8] t)) ∧ Below wz.heap.size wz w') := fun wz hz => Closed_any wz n _ t (hT.below hz)
  have hG : Hid (∀ wz, Below w.heap.size w wz → Calls Tryz.prog 21 #[.agg #[.int .i64 t.k, .int .i64 t.n, .slice a1 t.ks.length c1]] wz fun e w' => e = .returned (.int .i64 t.top) ∧ Below wz.heap.size wz w') := fun wz hz => greatest_any wz n _ t (hT.below hz) hcnt
  have HB2 : Hid (Below w.heap.size w ((w.alloc (.cells #[.int .i64 t.k, .int .i64 t.n, .slice a1 t.ks.length c1] 24)).alloc (.cells #[.int .i64 0, .int .i64 0, .slice none 0 0, .slice none 0 0] 28))) := bl_alloc (bl_alloc (Below.refl _ _) _) _
  have X2 : Hid (Arr ((w.alloc (.cells #[.int .i64 t.k, .int .i64 t.n, .slice a1 t.ks.length c1] 24)).alloc (.cells #[.int .i64 0, .int .i64 0, .slice none 0 0, .slice none 0 0] 28)) w.heap.size 24 [.int .i64 t.k, .int .i64 t.n, .slice a1 t.ks.length c1]) := Arr.stays ⟨heap_alloc_at _ _⟩ (bl_alloc (Below.refl _ _) _)
  have Y2 : Hid (Arr ((w.alloc (.cells #[.int .i64 t.k, .int .i64 t.n, .slice a1 t.ks.length c1] 24)).alloc (.cells #[.int .i64 0, .int .i64 0, .slice none 0 0, .slice none 0 0] 28)) (w.heap.size + 1) 28 [.int .i64 0, .int .i64 0, .slice none 0 0, .slice none 0 0]) := ⟨by have := heap_alloc_at (w.alloc (.cells #[.int .i64 t.k, .int .i64 t.n, .slice a1 t.ks.length c1] 24)) (.cells #[.int .i64 0, .int .i64 0, .slice none 0 0, .slice none 0 0] 28); rw [size_alloc] at this; exact this⟩
  have HSS : Hid (∀ (W : World) i u, Below w.heap.size w W → Below w.heap.size w (W.setCell ⟨w.heap.size + 1, i, none⟩ u)) := fun W i u h => bl_set _ _ h (by show _ ≤ w.heap.size + 1; omega)
  have HTT := hid hT
  clear hT
  cases hr : t.right with
  | false =>
    rw [hr] at hR
    have HK : Hid (t.okT = false) := by show _ = _; unfold Tp.okT; rw [hr]; rfl
    clear hr hcnt hC hG HTT
    go_enter Tryz.func6, Tryz.ntmps6
    go_wp2_with (first | (go_at_call 19; refine (hR.out _ HB2.out).mono ?_; rintro e w3 ⟨rfl, b3⟩; have HB3 := hid (bl_tr HB2.out b3); have X3 := hid (X2.out.stays b3); have Y3 := hid (Y2.out.stays b3); have q3 := X3.out.cell; have r3 := Y3.out.cell; have s3 := Y3.out.frozen; clear b3 hR))
    refine bodyPost_ret (v := .tuple #[.agg #[.int .i64 0, .int .i64 0, .slice none 0 0, .slice none 0 0], .int .i64 1]) (by rw [results_cell2t (fn := Tryz.f6) (p := 2) (a := 3) (ty := 28) (by kernel_rfl)]; simp [go_sem, r3, s3]) rfl ?_
    exact ⟨.inr ⟨HK.out, rfl⟩, HSS.out _ _ _ (HSS.out _ _ _ (HSS.out _ _ _ (HSS.out _ _ _ HB3.out)))⟩
  | true =>
  cases hc : Tp.spares [7, 8] t with
  | false =>
    rw [hr] at hR
    rw [hc] at hC
    have HK : Hid (t.okT = false) := by show _ = _; unfold Tp.okT; rw [hc, Bool.false_and, Bool.and_false]
    clear hr hc hcnt hG HTT
    go_enter Tryz.func6, Tryz.ntmps6
    go_wp2_with (first | (go_at_call 19; refine (hR.out _ HB2.out).mono ?_; rintro e w3 ⟨rfl, b3⟩; have HB3 := hid (bl_tr HB2.out b3); have X3 := hid (X2.out.stays b3); have Y3 := hid (Y2.out.stays b3); have q3 := X3.out.cell; have r3 := Y3.out.cell; have s3 := Y3.out.frozen; clear b3 hR) | (go_at_call 20; refine (hC.out _ HB3.out).mono ?_; rintro e w4 ⟨rfl, b4⟩; have HB4 := hid (bl_tr HB3.out b4); have X4 := hid (X3.out.stays b4); have Y4 := hid (Y3.out.stays b4); have q4 := X4.out.cell; have r4 := Y4.out.cell; have s4 := Y4.out.frozen; clear b4 hC q3 r3 s3))
    refine bodyPost_ret (v := .tuple #[.agg #[.int .i64 0, .int .i64 0, .slice none 0 0, .slice none 0 0], .int .i64 1]) (by rw [results_cell2t (fn := Tryz.f6) (p := 2) (a := 3) (ty := 28) (by kernel_rfl)]; simp [go_sem, r4, s4]) rfl ?_
    exact ⟨.inr ⟨HK.out, rfl⟩, HSS.out _ _ _ (HSS.out _ _ _ (HSS.out _ _ _ (HSS.out _ _ _ HB4.out)))⟩
  | true =>
  by_cases hs0 : 2147483647 < t.top
  · rw [hr] at hR
    rw [hc] at hC
    have HK : Hid (t.okT = false) := by show _ = _; unfold Tp.okT; rw [Tp.top_ok hr, decide_eq_false (by omega), Bool.and_false, Bool.and_false]
    clear hr hc hcnt HTT
    go_enter Tryz.func6, Tryz.ntmps6
    go_wp2_with (first | (go_at_call 19; refine (hR.out _ HB2.out).mono ?_; rintro e w3 ⟨rfl, b3⟩; have HB3 := hid (bl_tr HB2.out b3); have X3 := hid (X2.out.stays b3); have Y3 := hid (Y2.out.stays b3); have q3 := X3.out.cell; have r3 := Y3.out.cell; have s3 := Y3.out.frozen; clear b3 hR) | (go_at_call 20; refine (hC.out _ HB3.out).mono ?_; rintro e w4 ⟨rfl, b4⟩; have HB4 := hid (bl_tr HB3.out b4); have X4 := hid (X3.out.stays b4); have Y4 := hid (Y3.out.stays b4); have q4 := X4.out.cell; have r4 := Y4.out.cell; have s4 := Y4.out.frozen; clear b4 hC q3 r3 s3) | (go_at_call 21; refine (hG.out _ HB4.out).mono ?_; rintro e w5 ⟨rfl, b5⟩; have HB5 := hid (bl_tr HB4.out b5); have X5 := hid (X4.out.stays b5); have Y5 := hid (Y4.out.stays b5); have q5 := X5.out.cell; have r5 := Y5.out.cell; have s5 := Y5.out.frozen; clear b5 hG q4 r4 s4))
    refine bodyPost_ret (v := .tuple #[.agg #[.int .i64 0, .int .i64 0, .slice none 0 0, .slice none 0 0], .int .i64 1]) (by rw [results_cell2t (fn := Tryz.f6) (p := 2) (a := 3) (ty := 28) (by kernel_rfl)]; simp [go_sem, r5, s5]) rfl ?_
    exact ⟨.inr ⟨HK.out, rfl⟩, HSS.out _ _ _ (HSS.out _ _ _ (HSS.out _ _ _ (HSS.out _ _ _ HB5.out)))⟩
  · rw [hr] at hR
    have hM : Hid (∀ wz, Below w.heap.size w wz → Calls Tryz.prog 22 #[.agg #[.int .i64 t.k, .int .i64 t.n, .slice a1 t.ks.length c1], .int .i64 0] wz (TmAns wz (Tp.made 0 t))) := fun wz hz => turned_any n wz _ t 0 (HTT.out.below hz) hr (Tp.closed_all7 hc) (fun x hx => absurd hx (Tp.closed_all hc x))
    have HK : Hid (t.okT = true) := by show _ = _; unfold Tp.okT; rw [Tp.top_ok hr, hr, hc, decide_eq_true (by omega)]; rfl
    rw [hc] at hC
    generalize Tp.made 0 t = y at hM ⊢
    clear hr hc hcnt HTT
    go_enter Tryz.func6, Tryz.ntmps6
    go_wp2_with (first | (go_at_call 19; refine (hR.out _ HB2.out).mono ?_; rintro e w3 ⟨rfl, b3⟩; have HB3 := hid (bl_tr HB2.out b3); have X3 := hid (X2.out.stays b3); have Y3 := hid (Y2.out.stays b3); have q3 := X3.out.cell; have r3 := Y3.out.cell; have s3 := Y3.out.frozen; clear b3 hR) | (go_at_call 20; refine (hC.out _ HB3.out).mono ?_; rintro e w4 ⟨rfl, b4⟩; have HB4 := hid (bl_tr HB3.out b4); have X4 := hid (X3.out.stays b4); have Y4 := hid (Y3.out.stays b4); have q4 := X4.out.cell; have r4 := Y4.out.cell; have s4 := Y4.out.frozen; clear b4 hC q3 r3 s3) | (go_at_call 21; refine (hG.out _ HB4.out).mono ?_; rintro e w5 ⟨rfl, b5⟩; have HB5 := hid (bl_tr HB4.out b5); have X5 := hid (X4.out.stays b5); have Y5 := hid (Y4.out.stays b5); have q5 := X5.out.cell; have r5 := Y5.out.cell; have s5 := Y5.out.frozen; clear b5 hG q4 r4 s4) | (go_at_call 22; refine (hM.out _ HB5.out).mono ?_; rintro e w7 ⟨a7, c7, N7, rfl, hT7, hls7, b7⟩; have HT7 := hid hT7; have HB7 := hid b7; have HLS := hid hls7; have Y7 := hid (Y5.out.stays b7); have r7 := Y7.out.cell; have s7 := Y7.out.frozen; clear b7 hT7 hls7 q5 r5 s5))
    refine bodyPost_ret (v := .tuple #[.agg #[.int .i64 y.k, .int .i64 y.n, .slice none 0 0, .slice a7 y.ks.length c7], .int .i64 0]) (by rw [results_cell2t (fn := Tryz.f6) (p := 2) (a := 3) (ty := 28) (by kernel_rfl)]; simp [go_sem, r7, s7]) rfl ?_
    have hlt : w.heap.size + 1 < w5.heap.size := Y5.out.lt
    have hK : ∀ (W : World) i u, Tgt.Keeps (fun b => w5.heap.size ≤ b) W (W.setCell ⟨w.heap.size + 1, i, none⟩ u) := fun W i u b o v hb hv => by have hb : w5.heap.size ≤ b := hb; rw [World.cell?_of_block (w := W) (Below.heap_setCell _ _ _ _ (by show b ≠ w.heap.size + 1; omega))]; exact hv
    exact ⟨.inl ⟨HK.out, a7, c7, N7, rfl, HT7.out.move (((hK _ _ _).trans (hK _ _ _)).trans ((hK _ _ _).trans (hK _ _ _))) (fun b hb => by have hb : w5.heap.size ≤ b := hb; show w.heap.size ≤ b; omega), HLS.out⟩, HSS.out _ _ _ (HSS.out _ _ _ (HSS.out _ _ _ (HSS.out _ _ _ (bl_tr HB5.out HB7.out))))⟩
end Go.Proofs.YtigliglmejkakaaGreat

namespace Go.Proofs.YtigliglmejkakaaGreat
open Go.RowKit
set_option linter.unusedVariables false
set_option linter.unusedSimpArgs false

def okRep (s : Int) (l : List Ct) : Bool := okSum l && decide (0 ≤ s ∧ s ≤ 2147483647)
def repT (s : Int) (l : List Ct) : Tgt.Tt := .mk 9 s [] [sumT l]

end Go.Proofs.YtigliglmejkakaaGreat

namespace Go.Proofs.YtigliglmejkakaaGreat
open Go.RowKit
set_option linter.unusedVariables false
set_option linter.unusedSimpArgs false

set_option maxHeartbeats 1000000 in
set_option maxRecDepth 100000 in
theorem argument_any (w : World) (n : Nat) (vs : List Value) (c : Ct) (h : CtAt w Any n vs c) (hcnt : Tp.cntL c.args ≤ 1048576) : Calls Tryz.prog 89 #[.agg vs.toArray] w fun e w' => TtAns2 (okCs c) (sumK c) w e w' ∧ Below w.heap.size w w' := by
  obtain ⟨ga, gc, rfl, hAr⟩ := h.form
  have HB2 : Hid (Below w.heap.size w ((w.alloc (.cells #[.string c.nm, .slice ga c.args.length gc] 125)).alloc (.cells #[.int .i64 0, .int .i64 0, .slice none 0 0, .slice none 0 0] 28))) := bl_alloc (bl_alloc (Below.refl _ _) _) _
  have X2 : Hid (Arr ((w.alloc (.cells #[.string c.nm, .slice ga c.args.length gc] 125)).alloc (.cells #[.int .i64 0, .int .i64 0, .slice none 0 0, .slice none 0 0] 28)) w.heap.size 125 [.string c.nm, .slice ga c.args.length gc]) := Arr.stays ⟨heap_alloc_at _ _⟩ (bl_alloc (Below.refl _ _) _)
  have Y2 : Hid (Arr ((w.alloc (.cells #[.string c.nm, .slice ga c.args.length gc] 125)).alloc (.cells #[.int .i64 0, .int .i64 0, .slice none 0 0, .slice none 0 0] 28)) (w.heap.size + 1) 28 [.int .i64 0, .int .i64 0, .slice none 0 0, .slice none 0 0]) := ⟨by have := heap_alloc_at (w.alloc (.cells #[.string c.nm, .slice ga c.args.length gc] 125)) (.cells #[.int .i64 0, .int .i64 0, .slice none 0 0, .slice none 0 0] 28); rw [size_alloc] at this; exact this⟩
  have HSS : Hid (∀ (W : World) i u, Below w.heap.size w W → Below w.heap.size w (W.setCell ⟨w.heap.size + 1, i, none⟩ u)) := fun W i u h => bl_set _ _ h (by show _ ≤ w.heap.size + 1; omega)
  have hargm : c.args.length ≤ 1048576 := by have := Tp.cntL_len c.args; omega
  have HAr := hid hAr
  have hcase : c.args = [] ∨ (∃ x, c.args = [x]) ∨ 1 < c.args.length := by
    match c.args with
    | [] => exact .inl rfl
    | [x] => exact .inr (.inl ⟨x, rfl⟩)
    | x :: y :: r => exact .inr (.inr (by simp))
  clear h hAr
  rcases hcase with hargs | ⟨x, hargs⟩ | h1
  · have hl0 : c.args.length = 0 := by rw [hargs]; rfl
    have HE : Hid (sumK c = .mk 3 0 [] []) := by show _ = _; unfold sumK; rw [hargs]
    have HK : Hid (okCs c = true) := by show _ = _; unfold okCs; rw [hargs]; rfl
    have e0 : ((c.args.length : Int) == 0) = true := by rw [hl0]; rfl
    clear hargs hl0 HAr hcnt
    go_enter Tryz.func89, Tryz.ntmps89
    go_wp2_with (go_at_call 47; refine (leaf_any _ 3).mono ?_; rintro e w3 ⟨rfl, b3⟩; have HB3 := hid (bl_tr HB2.out b3); have y3 := (Y2.out.stays b3).cell; have z3 := (Y2.out.stays b3).frozen; clear b3)
    refine bodyPost_ret (v := .tuple #[.agg #[.int .i64 3, .int .i64 0, .slice none 0 0, .slice none 0 0], .int .i64 0]) (by rw [results_cell2t (fn := Tryz.f89) (p := 2) (a := 3) (ty := 28) (by kernel_rfl)]; simp [go_sem, y3, z3]) rfl ?_
    rw [HE.out]
    exact ⟨.inl ⟨HK.out, none, 0, none, 0, 1, rfl, tat_leaf 3 0 (⟨by omega, by omega⟩ : Tgt.R64 3) (⟨by omega, by omega⟩ : Tgt.R64 0)⟩, HSS.out _ _ _ (HSS.out _ _ _ (HSS.out _ _ _ (HSS.out _ _ _ HB3.out)))⟩
  · have hl1 : c.args.length = 1 := by rw [hargs]; rfl
    have hx0 : c.args[0]? = some x := by rw [hargs]; rfl
    have HE : Hid (sumK c = Tp.made 0 x) := by show _ = _; unfold sumK; rw [hargs]
    have HK : Hid (okCs c = x.okT) := by show _ = _; unfold okCs; rw [hargs]; simp
    have hxc : x.cnt ≤ 1048576 := by rw [hargs] at hcnt; simp [Tp.cntL] at hcnt; omega
    have e0 : ((c.args.length : Int) == 0) = false := by rw [hl1]; rfl
    have e1 : ((c.args.length : Int) == 1) = true := by rw [hl1]; rfl
    have hlt : 0 < c.args.length := by omega
    obtain ⟨kb, ko, rfl⟩ : ∃ b o, ga = some ⟨b, o, none⟩ := by
      rcases HAr.out with ⟨b, o, c, hv, -⟩ | ⟨h0, -⟩
      · injection hv with e1 e2 e3; exact ⟨b, o, e1⟩
      · rw [h0] at hargs; cases hargs
    obtain ⟨vx, tx, u0, u1, u2, -, hkb⟩ := HAr.out.elem hx0
    obtain ⟨ax, cx, ex⟩ := tx.form
    simp only [List.cons.injEq, and_true, true_and] at ex
    subst ex
    simp only [Nat.zero_mul, Nat.add_zero] at u0 u1 u2
    have HQ : Hid (∀ wz, Below w.heap.size w wz → Calls Tryz.prog 6 #[.agg #[.int .i64 x.k, .int .i64 x.n, .slice ax x.ks.length cx]] wz fun e w' => TtAns x.okT (Tp.made 0 x) wz e w' ∧ Below wz.heap.size wz w') := fun wz hz => TType_any wz n _ x (tx.below hz) hxc
    have HU : Hid (∀ wz, Below w.heap.size w wz → wz.cell? ⟨kb, ko, none⟩ = some (.int .i64 x.k) ∧ wz.cell? ⟨kb, ko + 1, none⟩ = some (.int .i64 x.n) ∧ wz.cell? ⟨kb, ko + 2, none⟩ = some (.slice ax x.ks.length cx)) := fun wz hz => ⟨(hz.cell (p := ⟨kb, ko, none⟩) hkb).trans u0, (hz.cell (p := ⟨kb, ko + 1, none⟩) hkb).trans u1, (hz.cell (p := ⟨kb, ko + 2, none⟩) hkb).trans u2⟩
    obtain ⟨v0, v1, v2⟩ := HU.out _ HB2.out
    have HZ2 : Hid (((w.alloc (.cells #[.string c.nm, .slice (some ⟨kb, ko, none⟩) c.args.length gc] 125)).alloc (.cells #[.int .i64 0, .int .i64 0, .slice none 0 0, .slice none 0 0] 28)).heap.size = w.heap.size + 2) := by show _ = _; rw [size_alloc, size_alloc]
    generalize Tp.made 0 x = y at HQ HE
    clear hargs hl1 hx0 HAr hcnt tx u0 u1 u2 hxc hkb
    cases hok : x.okT with
    | false =>
      rw [hok] at HQ HK
      have HQ2 : Hid (∀ wz, Below w.heap.size w wz → Calls Tryz.prog 6 #[.agg #[.int .i64 x.k, .int .i64 x.n, .slice ax x.ks.length cx]] wz fun e w' => e = .returned (.tuple #[.agg #[.int .i64 0, .int .i64 0, .slice none 0 0, .slice none 0 0], .int .i64 1]) ∧ Below wz.heap.size wz w') := fun wz hz => (HQ.out wz hz).mono fun e w' ⟨h1, h2⟩ => ⟨h1.resolve_left (fun h => by cases h.1) |>.2, h2⟩
      clear HQ hok
      go_enter Tryz.func89, Tryz.ntmps89
      go_wp2_with (go_at_call 6; refine (HQ2.out _ HB2.out).mono ?_; rintro e w3 ⟨rfl, b3⟩; have HB3 := hid (bl_tr HB2.out b3); have y3 := (Y2.out.stays b3).cell; have z3 := (Y2.out.stays b3).frozen; clear b3)
      refine bodyPost_ret (v := .tuple #[.agg #[.int .i64 0, .int .i64 0, .slice none 0 0, .slice none 0 0], .int .i64 1]) (by rw [results_cell2t (fn := Tryz.f89) (p := 2) (a := 3) (ty := 28) (by kernel_rfl)]; simp [go_sem, y3, z3]) rfl ?_
      exact ⟨.inr ⟨HK.out, rfl⟩, HSS.out _ _ _ (HSS.out _ _ _ (HSS.out _ _ _ (HSS.out _ _ _ HB3.out)))⟩
    | true =>
      rw [hok] at HQ HK
      have HQ2 : Hid (∀ wz, Below w.heap.size w wz → Calls Tryz.prog 6 #[.agg #[.int .i64 x.k, .int .i64 x.n, .slice ax x.ks.length cx]] wz fun e w' => (∃ a c N, e = .returned (.tuple #[.agg #[.int .i64 y.k, .int .i64 y.n, .slice none 0 0, .slice a y.ks.length c], .int .i64 0]) ∧ Tgt.TAt w' (fun b => wz.heap.size ≤ b) N [.int .i64 y.k, .int .i64 y.n, .slice none 0 0, .slice a y.ks.length c] y ∧ y.ls = []) ∧ Below wz.heap.size wz w') := fun wz hz => (HQ.out wz hz).mono fun e w' ⟨h1, h2⟩ => ⟨(h1.resolve_right (fun h => by cases h.1)).2, h2⟩
      clear HQ hok
      go_enter Tryz.func89, Tryz.ntmps89
      go_wp2_with (go_at_call 6; refine (HQ2.out _ HB2.out).mono ?_; rintro e w3 ⟨⟨a3, c3, N3, rfl, hT3, hls3⟩, b3⟩; have HT3 := hid hT3; have HLS := hid hls3; have HB3 := hid (bl_tr HB2.out b3); have y3 := (Y2.out.stays b3).cell; have z3 := (Y2.out.stays b3).frozen; clear b3 hT3 hls3)
      refine bodyPost_ret (v := .tuple #[.agg #[.int .i64 y.k, .int .i64 y.n, .slice none 0 0, .slice a3 y.ks.length c3], .int .i64 0]) (by rw [results_cell2t (fn := Tryz.f89) (p := 2) (a := 3) (ty := 28) (by kernel_rfl)]; simp [go_sem, y3, z3]) rfl ?_
      rw [HE.out]
      have hl : y.ls.length = 0 := by rw [HLS.out]; rfl
      have hK : ∀ (W : World) i u, Tgt.Keeps (fun b => w.heap.size + 2 ≤ b) W (W.setCell ⟨w.heap.size + 1, i, none⟩ u) := fun W i u b o v hb hv => by have hb : w.heap.size + 2 ≤ b := hb; rw [World.cell?_of_block (w := W) (Below.heap_setCell _ _ _ _ (by show b ≠ w.heap.size + 1; omega))]; exact hv
      exact ⟨.inl ⟨HK.out, none, 0, a3, c3, N3, by rw [hl], by rw [hl]; exact (HT3.out.move (K' := fun b => w.heap.size + 2 ≤ b) (Tgt.Keeps.refl _ _) (fun b hb => by have hb := hb; rw [HZ2.out] at hb; exact hb)).move (((hK _ _ _).trans (hK _ _ _)).trans ((hK _ _ _).trans (hK _ _ _))) (fun b hb => by have hb : w.heap.size + 2 ≤ b := hb; show w.heap.size ≤ b; omega)⟩, HSS.out _ _ _ (HSS.out _ _ _ (HSS.out _ _ _ (HSS.out _ _ _ HB3.out)))⟩
  · have HK : Hid (okCs c = false) := by show _ = _; unfold okCs; rw [decide_eq_false (by omega)]; rfl
    have e0 : ((c.args.length : Int) == 0) = false := by rw [beq_eq_false_iff_ne]; omega
    have e1 : ((c.args.length : Int) == 1) = false := by rw [beq_eq_false_iff_ne]; omega
    have y3 := Y2.out.cell
    have z3 := Y2.out.frozen
    clear HAr hcnt
    go_enter Tryz.func89, Tryz.ntmps89
    go_wp2
    refine bodyPost_ret (v := .tuple #[.agg #[.int .i64 0, .int .i64 0, .slice none 0 0, .slice none 0 0], .int .i64 1]) (by rw [results_cell2t (fn := Tryz.f89) (p := 2) (a := 3) (ty := 28) (by kernel_rfl)]; simp [go_sem, y3, z3]) rfl ?_
    exact ⟨.inr ⟨HK.out, rfl⟩, by first | exact HSS.out _ _ _ (HSS.out _ _ _ (HSS.out _ _ _ (HSS.out _ _ _ HB2.out))) | exact HB2.out⟩

/-- A row of target types in the block g, of n places; f tells which stand there. -/
structure Fil (g n : Nat) (f : Nat → Option Tgt.Tt) (N : Nat) (cur : List Value) (wr : World) : Prop where
  arr : Arr wr g 28 cur
  len : cur.length = n * 4
  el : ∀ (i : Nat) y, f i = some y → i < n ∧ ∃ a' c' a c, Tgt.TAt wr (fun b => g < b) N [.int .i64 y.k, .int .i64 y.n, .slice a' y.ls.length c', .slice a y.ks.length c] y ∧ Seg cur (i * 4) [.int .i64 y.k, .int .i64 y.n, .slice a' y.ls.length c', .slice a y.ks.length c]
theorem Fil.stays {g n : Nat} {f : Nat → Option Tgt.Tt} {N : Nat} {cur : List Value} {wr wz : World} (h : Fil g n f N cur wr) (hb : Below wr.heap.size wr wz) : Fil g n f N cur wz :=
  ⟨h.arr.stays hb, h.len, fun i y hy => by obtain ⟨h0, a', c', a, c, h1, h2⟩ := h.el i y hy; exact ⟨h0, a', c', a, c, h1.below hb, h2⟩⟩
theorem Fil.start {w : World} (n : Nat) (M : Array Value) (hM : M.size = n * 4) : Fil w.heap.size n (fun _ => none) 0 M.toList (w.alloc (.cells M 28)) :=
  ⟨⟨by rw [heap_alloc_at]⟩, by rw [Array.length_toList]; exact hM, fun i y hy => by cases hy⟩
theorem Fil.other {g n : Nat} {f : Nat → Option Tgt.Tt} {N : Nat} {cur : List Value} {wr : World} (h : Fil g n f N cur wr) {p : Addr} (hp : p.block < g) (u : Value) : Fil g n f N cur (wr.setCell p u) :=
  ⟨h.arr.other (by omega) u, h.len, fun i y hy => by
    obtain ⟨h0, a', c', a, c, h1, h2⟩ := h.el i y hy
    exact ⟨h0, a', c', a, c, h1.move (fun b o v hb hv => by have hb : g < b := hb; rw [World.cell?_of_block (w := wr) (Below.heap_setCell _ _ _ _ (by show b ≠ p.block; omega))]; exact hv) (fun b hb => hb), h2⟩⟩
theorem Seg.set4 {cur vs : List Value} {i j : Nat} (hs : Seg cur (j * 4) vs) (hl : vs.length = 4) (hne : j ≠ i) (u0 u1 u2 u3 : Value) : Seg ((((cur.set (i * 4) u0).set (i * 4 + 1) u1).set (i * 4 + 2) u2).set (i * 4 + 3) u3) (j * 4) vs := by
  intro k v hv
  have hk : k < 4 := by have := (List.getElem?_eq_some_iff.1 hv).1; omega
  rw [List.getElem?_set_ne (by omega), List.getElem?_set_ne (by omega), List.getElem?_set_ne (by omega), List.getElem?_set_ne (by omega)]
  exact hs k v hv
theorem Seg.got4 {cur : List Value} {i : Nat} (h : i * 4 + 3 < cur.length) (u0 u1 u2 u3 : Value) : Seg ((((cur.set (i * 4) u0).set (i * 4 + 1) u1).set (i * 4 + 2) u2).set (i * 4 + 3) u3) (i * 4) [u0, u1, u2, u3] := by
  intro k v hv
  match k, hv with
  | 0, hv => simp at hv; subst hv; rw [show i * 4 + 0 = i * 4 from rfl, List.getElem?_set_ne (by omega), List.getElem?_set_ne (by omega), List.getElem?_set_ne (by omega), List.getElem?_set_self (by omega)]
  | 1, hv => simp at hv; subst hv; rw [List.getElem?_set_ne (by omega), List.getElem?_set_ne (by omega), List.getElem?_set_self (by simp; omega)]
  | 2, hv => simp at hv; subst hv; rw [List.getElem?_set_ne (by omega), List.getElem?_set_self (by simp; omega)]
  | 3, hv => simp at hv; subst hv; rw [List.getElem?_set_self (by simp; omega)]
  | k + 4, hv => simp at hv
/-- One more stands there. -/
theorem Fil.store {g n : Nat} {f : Nat → Option Tgt.Tt} {N : Nat} {cur : List Value} {wr : World} (h : Fil g n f N cur wr) {i : Nat} (hi : i < n) {y : Tgt.Tt} {n' : Nat} {a' a : Option Addr} {c' c : Nat} (hT : Tgt.TAt wr (fun b => g < b) n' [.int .i64 y.k, .int .i64 y.n, .slice a' y.ls.length c', .slice a y.ks.length c] y) :
    Fil g n (fun j => if j = i then some y else f j) (max N n') ((((cur.set (i * 4) (.int .i64 y.k)).set (i * 4 + 1) (.int .i64 y.n)).set (i * 4 + 2) (.slice a' y.ls.length c')).set (i * 4 + 3) (.slice a y.ks.length c)) ((((wr.setCell ⟨g, i * 4, none⟩ (.int .i64 y.k)).setCell ⟨g, i * 4 + 1, none⟩ (.int .i64 y.n)).setCell ⟨g, i * 4 + 2, none⟩ (.slice a' y.ls.length c')).setCell ⟨g, i * 4 + 3, none⟩ (.slice a y.ks.length c)) := by
  have hK : ∀ (W : World) j u, Tgt.Keeps (fun b => g < b) W (W.setCell ⟨g, j, none⟩ u) := fun W j u b o v hb hv => by have hb : g < b := hb; rw [World.cell?_of_block (w := W) (Below.heap_setCell _ _ _ _ (by show b ≠ g; omega))]; exact hv
  have hKK := (((hK wr (i * 4) (.int .i64 y.k)).trans (hK _ (i * 4 + 1) (.int .i64 y.n))).trans ((hK _ (i * 4 + 2) (.slice a' y.ls.length c')).trans (hK _ (i * 4 + 3) (.slice a y.ks.length c))))
  have hlen := h.len
  refine ⟨(((h.arr.set _ _).set _ _).set _ _).set _ _, by simpa using h.len, fun j z hz => ?_⟩
  by_cases he : j = i
  · subst he
    have hz : (if j = j then some y else f j) = some z := hz
    rw [if_pos rfl] at hz
    injection hz with hz
    subst hz
    exact ⟨hi, a', c', a, c, (hT.move hKK (fun b hb => hb)).le (Nat.le_max_right _ _), Seg.got4 (by omega) _ _ _ _⟩
  · have hz : (if j = i then some y else f j) = some z := hz
    rw [if_neg he] at hz
    obtain ⟨h0, b', d', b, d, h1, h2⟩ := h.el j z hz
    exact ⟨h0, b', d', b, d, (h1.move hKK (fun b hb => hb)).le (Nat.le_max_left _ _), Seg.set4 h2 rfl he _ _ _ _⟩
/-- All stand there. -/
theorem Fil.fin {g n : Nat} {f : Nat → Option Tgt.Tt} {N : Nat} {cur : List Value} {wr W : World} (h : Fil g n f N cur wr) (hk : Tgt.Keeps (fun b => g ≤ b) wr W) {l : List Tgt.Tt} (hl : l.length = n) (hf : ∀ (i : Nat) y, l[i]? = some y → f i = some y) (hm : n ≤ 1099511627776) : Tgt.TAtL W (fun b => g ≤ b) N (.slice (some ⟨g, 0, none⟩) n n) l := by
  subst hl
  refine .inl ⟨g, 0, l.length, rfl, Nat.le_refl _, Nat.le_refl _, by unfold maxLen; omega, fun i y hy => ?_⟩
  obtain ⟨h0, a', c', a, c, h1, h2⟩ := h.el i y (hf i y hy)
  refine ⟨_, fun j u hu => hk g _ _ (Nat.le_refl _) ?_, h1.move (fun b o u hb hu => hk b o u (by have hb : g < b := hb; show g ≤ b; omega) hu) (fun b hb => by have hb : g < b := hb; show g ≤ b; omega)⟩
  rw [Nat.zero_add, h.arr.cell]
  exact h2 j u hu
theorem made_tts (n : Nat) : ∃ M : Array Value, M.size = n * 4 ∧ ∀ (w : World), n ≤ 1048576 → (Instr.makeSlice 26 (.int .i64 (n : Int)) (.int .i64 (n : Int))).run Tryz.prog w = .ok (.slice (some ⟨w.heap.size, 0, none⟩) n n) (w.alloc (.cells M 28)) := by
  obtain ⟨i, hi, he⟩ := Option.map_eq_some_iff.1 info_tt
  injection he with hz he
  injection he with hs hb
  refine ⟨madeCells (Value.agg #[.int .i64 0, .int .i64 0, .slice none 0 0, .slice none 0 0]).cells (n * 4), size_madeCells _ _, fun w hn => ?_⟩
  have h := run_make (P := Tryz.prog) w 26 28 i _ Tryz.underlying26 hi hz .i64 .i64 n n (by omega) (Int.le_refl _) (by rw [hb]; omega) (by omega)
  simp only [Int.toNat_natCast, hs] at h
  exact h
end Go.Proofs.YtigliglmejkakaaGreat
