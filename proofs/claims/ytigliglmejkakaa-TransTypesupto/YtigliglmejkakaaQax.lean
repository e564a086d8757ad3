/- The program's greatest. The program's Type. The order of types: Compare, Or, CompareFunc, Cmp, Same. Cmp, Same. -/
import Derived.Deep.RegionHeld
import Derived.Test.YtigliglmejkakaaQav
import Derived.Test.YtigliglmejkakaaQaw
import Derived.Test.YtigliglmejkakaaQac
namespace Go.Proofs.Ytigliglmejkakaa
open Go.RowKit
set_option linter.unusedVariables false
set_option linter.unusedSimpArgs false

/-- The greatest of a list. -/
def mxI : List Int → Int
  | [] => 0
  | x :: r => r.foldl max x
theorem mxI_take {l : List Int} {j : Nat} {x : Int} (hj : 1 ≤ j) (hx : l[j]? = some x) : mxI (l.take (j + 1)) = max (mxI (l.take j)) x := by
  match l, j, hj with
  | [], _, _ => simp at hx
  | y :: r, j + 1, _ =>
    simp only [List.getElem?_cons_succ] at hx
    simp only [List.take_succ_cons, mxI]
    rw [List.take_add_one, hx, List.foldl_append]
    rfl

set_option maxHeartbeats 1000000 in
set_option maxRecDepth 100000 in
theorem max_any (w : World) (v : Value) (l : List Int) (h : Ls w Any v l) (hne : 1 ≤ l.length) : Calls Try.prog 43 #[v] w fun e w' => e = .returned (.int .i64 (mxI l)) ∧ w' = w := by
  obtain ⟨a, c, rfl, hm⟩ := h.form
  unfold maxLen at hm
  obtain ⟨b, o, c', hv, -, -, -, hl⟩ := h.resolve_right (fun h => by rw [h.1] at hne; exact absurd hne (by simp))
  injection hv with e1 e2 e3
  subst e1
  obtain ⟨x0, hx0⟩ : ∃ x, l[0]? = some x := ⟨_, List.getElem?_eq_getElem hne⟩
  have hc0 := hl 0 x0 hx0
  simp only [Nat.add_zero] at hc0
  have HL := hid hl
  have HM0 : Hid (mxI (l.take 1) = x0) := by
    show _ = _
    match l, hx0 with
    | y :: r, hx0 => simp at hx0; subst hx0; rfl
  have hlt1 : ¬ (l.length : Int) < 1 := by omega
  have hn0 : 0 < l.length := hne
  clear hl hx0 h e2 e3
  go_enter Try.func43, Try.ntmps43
  go_wp2
  go_loopw [3, 4] (fun u v wr => ∃ (j : Nat) (m : Int), v = .int .i64 j ∧ u = .int .i64 m ∧ 1 ≤ j ∧ j ≤ l.length ∧ Hid (mxI (l.take j) = m) ∧ wr = w) (fun _ v _ => l.length - (intOf v).toNat)
  case atStart => exact ⟨1, x0, rfl, rfl, Nat.le_refl _, hne, HM0, rfl⟩
  case round =>
    obtain ⟨j, m, rfl, rfl, h1, hj, hM, hwr⟩ := hrel
    subst wr
    clear HM0
    by_cases hlt : j < l.length
    · obtain ⟨x, hx⟩ : ∃ x, l[j]? = some x := ⟨_, List.getElem?_eq_getElem hlt⟩
      have hc := HL.out j x hx
      have HT := hid (mxI_take h1 hx)
      clear HL hx
      have HN : Hid (mxI (l.take (j + 1)) = max m x) := by show _ = _; rw [HT.out, hM.out]
      clear HT hM hc0
      go_wp2
      go_roundw
      case rel => exact ⟨j + 1, max m x, by go_num, rfl, by omega, by omega, HN, trivial⟩
      case measure => simp [intOf]; omega
    · obtain rfl : j = l.length := by omega
      rw [List.take_length] at hM
      clear HL hc0
      go_wp2
      go_ret
      exact ⟨by rw [hM.out]; rfl, rfl⟩

set_option maxRecDepth 100000 in
theorem Stamps_own (w : World) (n : Nat) (vs : List Value) (t : Tp) (hT : TAt w Any n vs t) (hc : t.cnt ≤ 1048576) : Calls Try.prog 44 #[.agg vs.toArray] w fun e w' => ∃ p c, e = .returned (.slice p (Tp.found 6 t []).length c) ∧ w'.ownsRow w.heap.size 3 1 (.slice p (Tp.found 6 t []).length c) (Tp.found 6 t []).length ((Tp.found 6 t []).map (.int .i64)) ∧ Below w.heap.size w w' := by
  have hq : Hid (∀ o, Calls Try.prog 49 #[.agg vs.toArray, .int .i64 6] (w.alloc o) fun e w' => ∃ p c, e = .returned (.slice p (Tp.found 6 t []).length c) ∧ w'.ownsRow w.heap.size 3 1 (.slice p (Tp.found 6 t []).length c) (Tp.found 6 t []).length ((Tp.found 6 t []).map (.int .i64)) ∧ Below w.heap.size w w') := fun o => (numbers_own _ n vs t 6 (hT.below (bl_alloc (Below.refl _ _) _)) hc).mono fun e w' ⟨p, c, h1, h2, h3⟩ => ⟨p, c, h1, own_below (w' := w') h2 (by simp), bl_tr (bl_alloc (Below.refl _ _) _) h3⟩
  obtain ⟨a, c, rfl⟩ := hT.form
  clear hT hc
  go_enter Try.func44, Try.ntmps44
  go_wp2_with (go_at_call 49; refine (hq.out _).mono ?_; rintro e w2 ⟨p2, c2, rfl, h2, hb2⟩; have H2 := hid h2; clear h2)
  go_ret
  exact ⟨_, _, rfl, H2.out, hb2⟩
/-- The greatest stamp, -1 of none. -/
def Tp.top (t : Tp) : Int := mxI (Tp.found 6 t [] ++ [-1])

set_option maxHeartbeats 1000000 in
set_option maxRecDepth 100000 in
theorem greatest_any (w : World) (n : Nat) (vs : List Value) (t : Tp) (hT : TAt w Any n vs t) (hcnt : t.cnt ≤ 1048576) : Calls Try.prog 19 #[.agg vs.toArray] w fun e w' => e = .returned (.int .i64 t.top) ∧ Below w.heap.size w w' := by
  obtain ⟨a1, c1, rfl⟩ := hT.form
  have hlen : (Tp.found 6 t []).length ≤ 1048576 := by have := Tp.found_lenD 6 t []; simp at this; omega
  have HS : Hid (Calls Try.prog 44 #[.agg #[.int .i64 t.k, .int .i64 t.n, .slice a1 t.ks.length c1]] (w.alloc (.cells #[.int .i64 t.k, .int .i64 t.n, .slice a1 t.ks.length c1] 24)) fun e w' => ∃ p c, e = .returned (.slice p (Tp.found 6 t []).length c) ∧ w'.ownsRow (w.alloc (.cells #[.int .i64 t.k, .int .i64 t.n, .slice a1 t.ks.length c1] 24)).heap.size 3 1 (.slice p (Tp.found 6 t []).length c) (Tp.found 6 t []).length ((Tp.found 6 t []).map (.int .i64)) ∧ Below (w.alloc (.cells #[.int .i64 t.k, .int .i64 t.n, .slice a1 t.ks.length c1] 24)).heap.size (w.alloc (.cells #[.int .i64 t.k, .int .i64 t.n, .slice a1 t.ks.length c1] 24)) w') := Stamps_own _ n _ t (hT.below (bl_alloc (Below.refl _ _) _)) hcnt
  have HB1 : Hid (Below w.heap.size w (w.alloc (.cells #[.int .i64 t.k, .int .i64 t.n, .slice a1 t.ks.length c1] 24))) := bl_alloc (Below.refl _ _) _
  have HZ1 : Hid ((w.alloc (.cells #[.int .i64 t.k, .int .i64 t.n, .slice a1 t.ks.length c1] 24)).heap.size = w.heap.size + 1) := size_alloc _ _
  have HTop : Hid (t.top = mxI (Tp.found 6 t [] ++ [-1])) := rfl
  obtain ⟨l, hl⟩ : ∃ l, Tp.found 6 t [] = l := ⟨_, rfl⟩
  rw [hl] at HS HTop hlen
  obtain ⟨j0, hj0, hy0, hy1, hy2⟩ := info_parts0 info_int
  clear hT hcnt hl
  go_enter Try.func19, Try.ntmps19
  go_wp2_with (first | (go_at_call 44; refine HS.out.mono ?_; rintro e w2 ⟨p2, c2, rfl, ho2, b2⟩; have HO2 := hid ho2; have HB2 := hid (bl_tr HB1.out b2); have HSZ := hid b2.size; clear ho2 b2 HS) | (at_builtin; refine wpList_append_own _ rfl _ _ 49 rfl (w.heap.size + 1) 3 j0 (.int .i64 0) 1 8 Try.underlying49 hj0 hy0 hy1 hy2 rfl (by decide) _ l.length (l.map (.int .i64)) rfl (by rw [← HZ1.out]; exact HO2.out.alloc _) ⟨w2.heap.size, 0, none⟩ 1 1 [.int .i64 (-1)] rfl rfl ?c1 ?c2 ?c3 ?c4 ?c5 ?_))
  case c1 =>
    intro j u hj
    match j, hj with
    | 0, hj => simp at hj; subst hj; simp [Addr.add]
    | j + 1, hj => simp at hj
  case c2 => intro u hu; simp at hu; subst hu; rfl
  case c3 => unfold maxLen; omega
  case c4 => omega
  case c5 => have h1 := HSZ.out; rw [HZ1.out] at h1; simp; omega
  intro v3 w3 hown hgrow _
  have HLs : Hid (Ls w3 Any v3 (l ++ [-1])) := by
    have h9 : w3.ownsRow (w.heap.size + 1) 3 1 v3 (l ++ [(-1 : Int)]).length ((l ++ [(-1 : Int)]).map (.int .i64)) := by
      rw [List.length_append, List.map_append]; exact hown
    exact Ls.of_own h9
  have HB3 : Hid (Below w.heap.size w w3) := (bl_alloc HB2.out _).grown hgrow (by have h1 := HSZ.out; rw [HZ1.out] at h1; simp; omega) (fun b e => by have h8 := (HO2.out.lt b e).1; rw [HZ1.out] at h8; omega)
  clear hown hgrow
  go_wp2_with (go_at_call 43; refine (max_any _ _ (l ++ [-1]) HLs.out (by simp)).mono ?_; rintro e w4 ⟨rfl, hw⟩; rw [hw]; clear hw w4)
  go_ret
  exact ⟨by rw [HTop.out]; rfl, HB3.out⟩
end Go.Proofs.Ytigliglmejkakaa

namespace Go.Proofs.Ytigliglmejkakaa
open Go.RowKit
set_option linter.unusedVariables false
set_option linter.unusedSimpArgs false

theorem foldl_max (r : List Int) : ∀ a b : Int, r.foldl max (max a b) = max (r.foldl max a) b := by
  induction r with
  | nil => intro a b; rfl
  | cons x r ih => intro a b; simp only [List.foldl_cons]; rw [show max (max a b) x = max (max a x) b by omega]; exact ih _ _
theorem mxI_end (l : List Int) : mxI (l ++ [-1]) = l.foldl max (-1) := by
  cases l with
  | nil => rfl
  | cons x r =>
    show (r ++ [-1]).foldl max x = r.foldl max (max (-1) x)
    rw [List.foldl_append, show max (-1) x = max x (-1) by omega, foldl_max]
    rfl
theorem foldl_max_le (r : List Int) (M : Int) : ∀ a : Int, r.foldl max a ≤ M ↔ a ≤ M ∧ ∀ x ∈ r, x ≤ M := by
  induction r with
  | nil => intro a; simp
  | cons x r ih =>
    intro a
    rw [List.foldl_cons, ih]
    constructor
    · rintro ⟨h1, h2⟩
      exact ⟨by omega, fun y hy => by rcases List.mem_cons.1 hy with rfl | hy; exact (by omega); exact h2 y hy⟩
    · rintro ⟨h1, h2⟩
      exact ⟨by have := h2 x List.mem_cons_self; omega, fun y hy => h2 y (List.mem_cons_of_mem _ hy)⟩
theorem topK_max (l : List Int) : topK l = l.foldl max (-1) + 1 := by
  unfold topK
  have : ∀ (l : List Int) (k : Int), l.foldl (fun k x => if k ≤ x then x + 1 else k) k = l.foldl max (k - 1) + 1 := by
    intro l
    induction l with
    | nil => intro k; simp
    | cons x r ih =>
      intro k
      rw [List.foldl_cons, List.foldl_cons, ih]
      congr 2
      split <;> omega
  exact this l 0
theorem Tp.top_topK (t : Tp) : topK (Tp.found 6 t []) = t.top + 1 := by rw [topK_max, Tp.top, mxI_end]
mutual
theorem Tp.right_pos : ∀ t : Tp, t.right = true → ∀ x ∈ Tp.all 6 t, 0 ≤ x
  | .mk k n ks, h, x, hx => by
    rw [Tp.right, Bool.and_eq_true] at h
    rw [Tp.all, List.mem_append] at hx
    rcases hx with hx | hx
    · split at hx
      · rename_i hk
        subst hk
        rw [List.mem_singleton] at hx
        subst hx
        have h1 := h.1
        simp [Tp.own] at h1
        exact h1.1
      · cases hx
    · exact Tp.right_posL ks h.2 x hx
theorem Tp.right_posL : ∀ l : List Tp, Tp.rightL l = true → ∀ x ∈ Tp.allL 6 l, 0 ≤ x
  | [], _, x, hx => by rw [Tp.allL] at hx; cases hx
  | y :: r, h, x, hx => by
    rw [Tp.rightL, Bool.and_eq_true] at h
    rw [Tp.allL, List.mem_append] at hx
    rcases hx with hx | hx
    · exact Tp.right_pos y h.1 x hx
    · exact Tp.right_posL r h.2 x hx
end
theorem Tp.top_ok {t : Tp} (h : t.right = true) : okStamps (Tp.found 6 t []) = decide (t.top ≤ 2147483647) := by
  rw [Bool.eq_iff_iff, decide_eq_true_eq, Tp.top, mxI_end, foldl_max_le]
  unfold okStamps
  rw [List.all_eq_true]
  constructor
  · intro h1
    exact ⟨by omega, fun x hx => by have := h1 x hx; simp at this; exact this.2⟩
  · rintro ⟨-, h2⟩ x hx
    have := Tp.right_pos t h x (Tp.mem_fnd.1 hx)
    have := h2 x hx
    simp
    omega
theorem Tp.closed_all7 {t : Tp} (h : Tp.spares [7, 8] t = true) : ∀ x, x ∉ Tp.all 7 t := by
  intro x hx
  rw [Tp.closed_eq, Bool.and_eq_true] at h
  have h8 := h.1
  rw [beq_iff_eq] at h8
  have : (Tp.found 7 t []).length = 0 := by omega
  have h0 := List.eq_nil_of_length_eq_zero this
  have := (Tp.mem_fnd (kind := 7)).2 hx
  rw [h0] at this
  cases this
theorem Tp.top_ge (t : Tp) : -1 ≤ t.top := by
  rw [Tp.top, mxI_end]
  have := (foldl_max_le (Tp.found 6 t []) ((Tp.found 6 t []).foldl max (-1)) (-1)).1 (Int.le_refl _)
  exact this.1

set_option maxHeartbeats 4000000 in
set_option maxRecDepth 100000 in
theorem TType_any (w : World) (n : Nat) (vs : List Value) (t : Tp) (hT : TAt w Any n vs t) (hcnt : t.cnt ≤ 1048576) : Calls Try.prog 5 #[.agg vs.toArray] w fun e w' => TtAns t.okT (Tp.made 0 t) w e w' ∧ Below w.heap.size w w' := by
  obtain ⟨a1, c1, rfl⟩ := hT.form
  have hR : Hid (∀ wz, Below w.heap.size w wz → Calls Try.prog 17 #[.agg #[.int .i64 t.k, .int .i64 t.n, .slice a1 t.ks.length c1]] wz fun e w' => e = .returned (.bool t.right) ∧ Below wz.heap.size wz w') := fun wz hz => Right_any wz n _ t (hT.below hz)
  have hC : Hid (∀ wz, Below w.heap.size w wz → Calls Try.prog 18 #[.agg #[.int .i64 t.k, .int .i64 t.n, .slice a1 t.ks.length c1]] wz fun e w' => e = .returned (.bool (Tp.spares [7, 8] t)) ∧ Below wz.heap.size wz w') := fun wz hz => Closed_any wz n _ t (hT.below hz)
  have hG : Hid (∀ wz, Below w.heap.size w wz → Calls Try.prog 19 #[.agg #[.int .i64 t.k, .int .i64 t.n, .slice a1 t.ks.length c1]] wz fun e w' => e = .returned (.int .i64 t.top) ∧ Below wz.heap.size wz w') := fun wz hz => greatest_any wz n _ t (hT.below hz) hcnt
  have HB2 : Hid (Below w.heap.size w ((w.alloc (.cells #[.int .i64 t.k, .int .i64 t.n, .slice a1 t.ks.length c1] 24)).alloc (.cells #[.int .i64 0, .int .i64 0, .slice none 0 0, .slice none 0 0] 30))) := bl_alloc (bl_alloc (Below.refl _ _) _) _
  have X2 : Hid (Arr ((w.alloc (.cells #[.int .i64 t.k, .int .i64 t.n, .slice a1 t.ks.length c1] 24)).alloc (.cells #[.int .i64 0, .int .i64 0, .slice none 0 0, .slice none 0 0] 30)) w.heap.size 24 [.int .i64 t.k, .int .i64 t.n, .slice a1 t.ks.length c1]) := Arr.stays ⟨heap_alloc_at _ _⟩ (bl_alloc (Below.refl _ _) _)
  have Y2 : Hid (Arr ((w.alloc (.cells #[.int .i64 t.k, .int .i64 t.n, .slice a1 t.ks.length c1] 24)).alloc (.cells #[.int .i64 0, .int .i64 0, .slice none 0 0, .slice none 0 0] 30)) (w.heap.size + 1) 30 [.int .i64 0, .int .i64 0, .slice none 0 0, .slice none 0 0]) := ⟨by have := heap_alloc_at (w.alloc (.cells #[.int .i64 t.k, .int .i64 t.n, .slice a1 t.ks.length c1] 24)) (.cells #[.int .i64 0, .int .i64 0, .slice none 0 0, .slice none 0 0] 30); rw [size_alloc] at this; exact this⟩
  have HSS : Hid (∀ (W : World) i u, Below w.heap.size w W → Below w.heap.size w (W.setCell ⟨w.heap.size + 1, i, none⟩ u)) := fun W i u h => bl_set _ _ h (by show _ ≤ w.heap.size + 1; omega)
  have HTT := hid hT
  clear hT
  cases hr : t.right with
  | false =>
    rw [hr] at hR
    have HK : Hid (t.okT = false) := by show _ = _; unfold Tp.okT; rw [hr]; rfl
    clear hr hcnt hC hG HTT
    go_enter Try.func5, Try.ntmps5
    go_wp2_with (first | (go_at_call 17; refine (hR.out _ HB2.out).mono ?_; rintro e w3 ⟨rfl, b3⟩; have HB3 := hid (bl_tr HB2.out b3); have X3 := hid (X2.out.stays b3); have Y3 := hid (Y2.out.stays b3); have q3 := X3.out.cell; have r3 := Y3.out.cell; have s3 := Y3.out.frozen; clear b3 hR))
    refine bodyPost_ret (v := .tuple #[.agg #[.int .i64 0, .int .i64 0, .slice none 0 0, .slice none 0 0], .int .i64 1]) (by rw [results_cell2t (fn := Try.f5) (p := 2) (a := 3) (ty := 30) (by kernel_rfl)]; simp [go_sem, r3, s3]) rfl ?_
    exact ⟨.inr ⟨HK.out, rfl⟩, HSS.out _ _ _ (HSS.out _ _ _ (HSS.out _ _ _ (HSS.out _ _ _ HB3.out)))⟩
  | true =>
  cases hc : Tp.spares [7, 8] t with
  | false =>
    rw [hr] at hR
    rw [hc] at hC
    have HK : Hid (t.okT = false) := by show _ = _; unfold Tp.okT; rw [hc, Bool.false_and, Bool.and_false]
    clear hr hc hcnt hG HTT
    go_enter Try.func5, Try.ntmps5
    go_wp2_with (first | (go_at_call 17; refine (hR.out _ HB2.out).mono ?_; rintro e w3 ⟨rfl, b3⟩; have HB3 := hid (bl_tr HB2.out b3); have X3 := hid (X2.out.stays b3); have Y3 := hid (Y2.out.stays b3); have q3 := X3.out.cell; have r3 := Y3.out.cell; have s3 := Y3.out.frozen; clear b3 hR) | (go_at_call 18; refine (hC.out _ HB3.out).mono ?_; rintro e w4 ⟨rfl, b4⟩; have HB4 := hid (bl_tr HB3.out b4); have X4 := hid (X3.out.stays b4); have Y4 := hid (Y3.out.stays b4); have q4 := X4.out.cell; have r4 := Y4.out.cell; have s4 := Y4.out.frozen; clear b4 hC q3 r3 s3))
    refine bodyPost_ret (v := .tuple #[.agg #[.int .i64 0, .int .i64 0, .slice none 0 0, .slice none 0 0], .int .i64 1]) (by rw [results_cell2t (fn := Try.f5) (p := 2) (a := 3) (ty := 30) (by kernel_rfl)]; simp [go_sem, r4, s4]) rfl ?_
    exact ⟨.inr ⟨HK.out, rfl⟩, HSS.out _ _ _ (HSS.out _ _ _ (HSS.out _ _ _ (HSS.out _ _ _ HB4.out)))⟩
  | true =>
  by_cases hs0 : 2147483647 < t.top
  · rw [hr] at hR
    rw [hc] at hC
    have HK : Hid (t.okT = false) := by show _ = _; unfold Tp.okT; rw [Tp.top_ok hr, decide_eq_false (by omega), Bool.and_false, Bool.and_false]
    clear hr hc hcnt HTT
    go_enter Try.func5, Try.ntmps5
    go_wp2_with (first | (go_at_call 17; refine (hR.out _ HB2.out).mono ?_; rintro e w3 ⟨rfl, b3⟩; have HB3 := hid (bl_tr HB2.out b3); have X3 := hid (X2.out.stays b3); have Y3 := hid (Y2.out.stays b3); have q3 := X3.out.cell; have r3 := Y3.out.cell; have s3 := Y3.out.frozen; clear b3 hR) | (go_at_call 18; refine (hC.out _ HB3.out).mono ?_; rintro e w4 ⟨rfl, b4⟩; have HB4 := hid (bl_tr HB3.out b4); have X4 := hid (X3.out.stays b4); have Y4 := hid (Y3.out.stays b4); have q4 := X4.out.cell; have r4 := Y4.out.cell; have s4 := Y4.out.frozen; clear b4 hC q3 r3 s3) | (go_at_call 19; refine (hG.out _ HB4.out).mono ?_; rintro e w5 ⟨rfl, b5⟩; have HB5 := hid (bl_tr HB4.out b5); have X5 := hid (X4.out.stays b5); have Y5 := hid (Y4.out.stays b5); have q5 := X5.out.cell; have r5 := Y5.out.cell; have s5 := Y5.out.frozen; clear b5 hG q4 r4 s4))
    refine bodyPost_ret (v := .tuple #[.agg #[.int .i64 0, .int .i64 0, .slice none 0 0, .slice none 0 0], .int .i64 1]) (by rw [results_cell2t (fn := Try.f5) (p := 2) (a := 3) (ty := 30) (by kernel_rfl)]; simp [go_sem, r5, s5]) rfl ?_
    exact ⟨.inr ⟨HK.out, rfl⟩, HSS.out _ _ _ (HSS.out _ _ _ (HSS.out _ _ _ (HSS.out _ _ _ HB5.out)))⟩
  · rw [hr] at hR
    have hM : Hid (∀ wz, Below w.heap.size w wz → Calls Try.prog 20 #[.agg #[.int .i64 t.k, .int .i64 t.n, .slice a1 t.ks.length c1], .int .i64 0] wz (TmAns wz (Tp.made 0 t))) := fun wz hz => turned_any n wz _ t 0 (HTT.out.below hz) hr (Tp.closed_all7 hc) (fun x hx => absurd hx (Tp.closed_all hc x))
    have HK : Hid (t.okT = true) := by show _ = _; unfold Tp.okT; rw [Tp.top_ok hr, hr, hc, decide_eq_true (by omega)]; rfl
    rw [hc] at hC
    generalize Tp.made 0 t = y at hM ⊢
    clear hr hc hcnt HTT
    go_enter Try.func5, Try.ntmps5
    go_wp2_with (first | (go_at_call 17; refine (hR.out _ HB2.out).mono ?_; rintro e w3 ⟨rfl, b3⟩; have HB3 := hid (bl_tr HB2.out b3); have X3 := hid (X2.out.stays b3); have Y3 := hid (Y2.out.stays b3); have q3 := X3.out.cell; have r3 := Y3.out.cell; have s3 := Y3.out.frozen; clear b3 hR) | (go_at_call 18; refine (hC.out _ HB3.out).mono ?_; rintro e w4 ⟨rfl, b4⟩; have HB4 := hid (bl_tr HB3.out b4); have X4 := hid (X3.out.stays b4); have Y4 := hid (Y3.out.stays b4); have q4 := X4.out.cell; have r4 := Y4.out.cell; have s4 := Y4.out.frozen; clear b4 hC q3 r3 s3) | (go_at_call 19; refine (hG.out _ HB4.out).mono ?_; rintro e w5 ⟨rfl, b5⟩; have HB5 := hid (bl_tr HB4.out b5); have X5 := hid (X4.out.stays b5); have Y5 := hid (Y4.out.stays b5); have q5 := X5.out.cell; have r5 := Y5.out.cell; have s5 := Y5.out.frozen; clear b5 hG q4 r4 s4) | (go_at_call 20; refine (hM.out _ HB5.out).mono ?_; rintro e w7 ⟨a7, c7, N7, rfl, hT7, hls7, b7⟩; have HT7 := hid hT7; have HB7 := hid b7; have HLS := hid hls7; have Y7 := hid (Y5.out.stays b7); have r7 := Y7.out.cell; have s7 := Y7.out.frozen; clear b7 hT7 hls7 q5 r5 s5))
    refine bodyPost_ret (v := .tuple #[.agg #[.int .i64 y.k, .int .i64 y.n, .slice none 0 0, .slice a7 y.ks.length c7], .int .i64 0]) (by rw [results_cell2t (fn := Try.f5) (p := 2) (a := 3) (ty := 30) (by kernel_rfl)]; simp [go_sem, r7, s7]) rfl ?_
    have hlt : w.heap.size + 1 < w5.heap.size := Y5.out.lt
    have hK : ∀ (W : World) i u, Tgt.Keeps (fun b => w5.heap.size ≤ b) W (W.setCell ⟨w.heap.size + 1, i, none⟩ u) := fun W i u b o v hb hv => by have hb : w5.heap.size ≤ b := hb; rw [World.cell?_of_block (w := W) (Below.heap_setCell _ _ _ _ (by show b ≠ w.heap.size + 1; omega))]; exact hv
    exact ⟨.inl ⟨HK.out, a7, c7, N7, rfl, HT7.out.move (((hK _ _ _).trans (hK _ _ _)).trans ((hK _ _ _).trans (hK _ _ _))) (fun b hb => by have hb : w5.heap.size ≤ b := hb; show w.heap.size ≤ b; omega), HLS.out⟩, HSS.out _ _ _ (HSS.out _ _ _ (HSS.out _ _ _ (HSS.out _ _ _ (bl_tr HB5.out HB7.out))))⟩
end Go.Proofs.Ytigliglmejkakaa

namespace Go.Proofs.Ytigliglmejkakaa
open Go.RowKit
set_option linter.unusedVariables false
set_option linter.unusedSimpArgs false

def Tp.orL : List Int → Int
  | [] => 0
  | x :: r => Tp.or x (Tp.orL r)
theorem Tp.orL_at {l : List Int} {k : Nat} {x : Int} (hx : l[k]? = some x) : Tp.orL (l.drop k) = Tp.or x (Tp.orL (l.drop (k + 1))) := by
  obtain ⟨h1, e1⟩ := List.getElem?_eq_some_iff.1 hx
  rw [List.drop_eq_getElem_cons h1, e1, Tp.orL]

theorem Tp.cmp_mk (a b : Tp) : Tp.cmp a b = Tp.or (Tp.num a.k b.k) (Tp.or (Tp.num a.n b.n) (Tp.or (Tp.num a.ks.length b.ks.length) (Tp.cmpL a.ks b.ks))) := by
  cases a; cases b; rw [Tp.cmp]; rfl
theorem Tp.cmpL_at {xs ys : List Tp} {k : Nat} {x y : Tp} (hx : xs[k]? = some x) (hy : ys[k]? = some y) : Tp.cmpL (xs.drop k) (ys.drop k) = Tp.or (Tp.cmp x y) (Tp.cmpL (xs.drop (k + 1)) (ys.drop (k + 1))) := by
  obtain ⟨h1, e1⟩ := List.getElem?_eq_some_iff.1 hx
  obtain ⟨h2, e2⟩ := List.getElem?_eq_some_iff.1 hy
  rw [List.drop_eq_getElem_cons h1, e1, List.drop_eq_getElem_cons h2, e2, Tp.cmpL]
theorem Tp.cmpL_nil : Tp.cmpL [] [] = 0 := by rw [Tp.cmpL]
def CmpOf (f : FuncId) (n : Nat) : Prop := ∀ (w : World) (m : Nat) (va vb : List Value) (a b : Tp), TAt w Any n va a → TAt w Any m vb b → Calls Try.prog f #[.agg va.toArray, .agg vb.toArray] w fun e w' => e = .returned (.int .i64 (Tp.cmp a b)) ∧ Below w.heap.size w w'

end Go.Proofs.Ytigliglmejkakaa

namespace Go.Proofs.Ytigliglmejkakaa
open Go.RowKit
set_option linter.unusedVariables false
set_option linter.unusedSimpArgs false

theorem Tp.or_or (a b c : Int) : Tp.or a (Tp.or b c) = Tp.or (Tp.or a b) c := by
  unfold Tp.or
  by_cases ha : a = 0
  · simp [ha]
  · simp [ha]
theorem Tp.or_zero (a : Int) : Tp.or a 0 = a := by unfold Tp.or; split <;> simp_all
theorem ls3 (w : World) (a b c : Int) (T : TypeId) : Ls (w.alloc (.cells #[.int .i64 a, .int .i64 b, .int .i64 c] T)) Any (.slice (some ⟨w.heap.size, 0, none⟩) 3 3) [a, b, c] := by
  refine .inl ⟨w.heap.size, 0, 3, rfl, trivial, (show 3 ≤ 3 by decide), (show 3 ≤ maxLen by decide), fun j x hx => ?_⟩
  have hh := heap_alloc_at w (.cells #[.int .i64 a, .int .i64 b, .int .i64 c] T)
  match j, hx with
  | 0, hx => simp at hx; subst hx; rw [cell_at hh]; rfl
  | 1, hx => simp at hx; subst hx; rw [cell_at hh]; rfl
  | 2, hx => simp at hx; subst hx; rw [cell_at hh]; rfl
  | j + 3, hx => simp at hx

end Go.Proofs.Ytigliglmejkakaa
