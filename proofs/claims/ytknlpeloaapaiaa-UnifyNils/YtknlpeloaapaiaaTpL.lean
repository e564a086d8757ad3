/- Cmp, Same. -/
import Derived.Test.YtknlpeloaapaiaaTpK
namespace Go.Proofs.Ytknlpeloaapaiaa
open Go.RowKit
set_option linter.unusedVariables false
set_option linter.unusedSimpArgs false

theorem Tp.or_or (a b c : Int) : Tp.or a (Tp.or b c) = Tp.or (Tp.or a b) c := by
  unfold Tp.or
  by_cases ha : a = 0
  · simp [ha]
  · simp [ha]
theorem Tp.or_zero (a : Int) : Tp.or a 0 = a := by unfold Tp.or; split <;> simp_all
theorem ls3 (w : World) (a b c : Int) (T : TypeId) : Ls (w.alloc (.cells #[.int .i64 a, .int .i64 b, .int .i64 c] T)) Any (.slice (some ⟨w.heap.size, 0, none⟩) 3 3) [a, b, c] := by
  refine .inl ⟨w.heap.size, 0, 3, rfl, trivial, (show 3 ≤ 3 by decide), (show 3 ≤ maxLen by decide), fun j x hx => ?_⟩
  have hh := heap_alloc_at w (.cells #[.int .i64 a, .int .i64 b, .int .i64 c] T)
  match j, hx with
  | 0, hx => simp at hx; subst hx; rw [cell_at hh]; rfl
  | 1, hx => simp at hx; subst hx; rw [cell_at hh]; rfl
  | 2, hx => simp at hx; subst hx; rw [cell_at hh]; rfl
  | j + 3, hx => simp at hx

set_option maxHeartbeats 4000000 in
set_option maxRecDepth 100000 in
theorem Cmp_step (n : Nat) (ih : CmpOf 46 n) : CmpOf 46 (n + 1) := by
  intro w m va vb a b ha hb
  obtain ⟨v1, rfl, -, -, hL1⟩ := ha.open_
  obtain ⟨a1, c1, rfl, hm1⟩ := hL1.form
  cases m with
  | zero => exact hb.elim
  | succ m =>
  obtain ⟨v2, rfl, -, -, hL2⟩ := hb.open_
  obtain ⟨a2, c2, rfl, hm2⟩ := hL2.form
  unfold maxLen at hm1 hm2
  have hq : Hid (a.ks.length = b.ks.length → ∀ wz, Below w.heap.size w wz → Calls Try.prog 75 #[.slice a1 a.ks.length c1, .slice a2 b.ks.length c2, .func (.func 46) #[] #[]] wz fun e w' => e = .returned (.int .i64 (Tp.cmpL a.ks b.ks)) ∧ Below wz.heap.size wz w') := fun hl wz hz => CompareFunc_any n ih wz m _ _ a.ks b.ks (hL1.below hz) (hL2.below hz) hl
  have hc := Tp.cmp_mk a b
  clear ha hb hL1 hL2 ih
  have x0 : Arr ((w.alloc (.cells #[.int .i64 a.k, .int .i64 a.n, .slice a1 a.ks.length c1] 24)).alloc (.cells #[.int .i64 b.k, .int .i64 b.n, .slice a2 b.ks.length c2] 24)) w.heap.size 24 [.int .i64 a.k, .int .i64 a.n, .slice a1 a.ks.length c1] := Arr.stays ⟨heap_alloc_at _ _⟩ (bl_alloc (Below.refl _ _) _)
  have x1 : Arr ((w.alloc (.cells #[.int .i64 a.k, .int .i64 a.n, .slice a1 a.ks.length c1] 24)).alloc (.cells #[.int .i64 b.k, .int .i64 b.n, .slice a2 b.ks.length c2] 24)) (w.heap.size + 1) 24 [.int .i64 b.k, .int .i64 b.n, .slice a2 b.ks.length c2] := ⟨by have := heap_alloc_at (w.alloc (.cells #[.int .i64 a.k, .int .i64 a.n, .slice a1 a.ks.length c1] 24)) (.cells #[.int .i64 b.k, .int .i64 b.n, .slice a2 b.ks.length c2] 24); rw [size_alloc] at this; exact this⟩
  have xb : Below w.heap.size w ((w.alloc (.cells #[.int .i64 a.k, .int .i64 a.n, .slice a1 a.ks.length c1] 24)).alloc (.cells #[.int .i64 b.k, .int .i64 b.n, .slice a2 b.ks.length c2] 24)) := bl_alloc (bl_alloc (Below.refl _ _) _) _
  go_enter Try.func46, Try.ntmps46
  go_wp2
  generalize ((w.alloc (.cells #[.int .i64 a.k, .int .i64 a.n, .slice a1 a.ks.length c1] 24)).alloc (.cells #[.int .i64 b.k, .int .i64 b.n, .slice a2 b.ks.length c2] 24)) = W1 at x0 x1 xb ⊢
  have HX : Hid (Arr W1 w.heap.size 24 [.int .i64 a.k, .int .i64 a.n, .slice a1 a.ks.length c1] ∧ Arr W1 (w.heap.size + 1) 24 [.int .i64 b.k, .int .i64 b.n, .slice a2 b.ks.length c2] ∧ Below w.heap.size w W1) := ⟨x0, x1, xb⟩
  have y00 := x0.cell 0
  have y01 := x0.cell 1
  have y02 := x0.cell 2
  have y10 := x1.cell 0
  have y11 := x1.cell 1
  have y12 := x1.cell 2
  simp only [List.getElem?_cons_zero, List.getElem?_cons_succ] at y00 y01 y02 y10 y11 y12
  have hlt0 := x0.lt
  have hlt1 := x1.lt
  clear x0 x1 xb
  go_region_held (fun w' => w'.cell? ⟨w.heap.size, 0, none⟩ = some (.int .i64 a.k) ∧ w'.cell? ⟨w.heap.size, 1, none⟩ = some (.int .i64 a.n) ∧ w'.cell? ⟨w.heap.size, 2, none⟩ = some (.slice a1 a.ks.length c1) ∧ w'.cell? ⟨w.heap.size + 1, 0, none⟩ = some (.int .i64 b.k) ∧ w'.cell? ⟨w.heap.size + 1, 1, none⟩ = some (.int .i64 b.n) ∧ w'.cell? ⟨w.heap.size + 1, 2, none⟩ = some (.slice a2 b.ks.length c2)) (go_keep) (first | (go_at_call 74; refine (Compare_any _ _ _).mono ?_; rintro e w2 ⟨rfl, hw⟩; rw [hw]; clear hw w2) | (go_at_call 73; refine (Or_any _ _ _ ((ls3 _ _ _ _ _).below (Below.refl _ _).drew)).mono ?_; rintro e w2 ⟨rfl, hw⟩; rw [hw]; clear hw w2))
  have hq2 : Tp.cmp a b = Tp.or (Tp.orL [Tp.num a.k b.k, Tp.num a.n b.n, Tp.num a.ks.length b.ks.length]) (Tp.cmpL a.ks b.ks) := by
    rw [hc]; simp only [Tp.orL]; rw [Tp.or_or, Tp.or_or, Tp.or_or, Tp.or_or]
    rw [Tp.or_zero]
  have hz : Tp.orL [Tp.num a.k b.k, Tp.num a.n b.n, Tp.num a.ks.length b.ks.length] = 0 → a.ks.length = b.ks.length := by
    intro h
    simp only [Tp.orL] at h
    have h3 : Tp.num a.ks.length b.ks.length = 0 := by
      unfold Tp.or at h
      split at h
      · split at h
        · split at h <;> simp_all
        · simp_all
      · simp_all
    unfold Tp.num at h3
    split at h3
    · cases h3
    · split at h3
      · cases h3
      · omega
  have HZ : Hid (Tp.orL [Tp.num a.k b.k, Tp.num a.n b.n, Tp.num a.ks.length b.ks.length] = 0 → a.ks.length = b.ks.length) := hz
  have HQ2 : Hid (Tp.cmp a b = Tp.or (Tp.orL [Tp.num a.k b.k, Tp.num a.n b.n, Tp.num a.ks.length b.ks.length]) (Tp.cmpL a.ks b.ks)) := hq2
  clear hz hq2 hc
  generalize Tp.orL [Tp.num a.k b.k, Tp.num a.n b.n, Tp.num a.ks.length b.ks.length] = q at HZ HQ2 ⊢
  by_cases he : q = 0
  · have hl := HZ.out he
    have hw : ∀ o, Below w.heap.size w (W1.alloc o).drew := fun o => bl_dr (bl_alloc HX.out.2.2 _)
    have hq3 := hq.out hl
    have HQ3 : Hid _ := hq3
    have HC : Hid (Tp.cmp a b = Tp.cmpL a.ks b.ks) := by show _ = _; rw [HQ2.out]; unfold Tp.or; rw [if_pos he]
    have he2 : (q != 0) = false := by simp [he]
    have HL : Hid (a.ks.length = b.ks.length) := hl
    clear hq3 hq HQ2 HZ he hl
    have u0 : ∀ o, (W1.alloc o).cell? ⟨w.heap.size, 2, none⟩ = some (.slice a1 a.ks.length c1) := fun o => (HX.out.1.stays (bl_alloc (Below.refl _ _) o)).cell 2
    have u1 : ∀ o, (W1.alloc o).cell? ⟨w.heap.size + 1, 2, none⟩ = some (.slice a2 b.ks.length c2) := fun o => (HX.out.2.1.stays (bl_alloc (Below.refl _ _) o)).cell 2
    go_wp2_with (go_at_call 75; refine (HQ3.out _ (hw _)).mono ?_; rintro e w2 ⟨rfl, hb2⟩)
    go_ret
    exact ⟨ret_int HC.out.symm, bl_tr (hw _) hb2⟩
  · have HC : Hid (Tp.cmp a b = q) := by show _ = _; rw [HQ2.out]; unfold Tp.or; rw [if_neg he]
    have he2 : (q != 0) = true := by simp [he]
    clear hq HQ2 HZ he
    go_wp2
    go_ret
    exact ⟨ret_int HC.out.symm, bl_dr (bl_alloc HX.out.2.2 _)⟩
theorem Cmp_any : ∀ n, CmpOf 46 n
  | 0 => fun w m va vb a b h _ => h.elim
  | n + 1 => Cmp_step n (Cmp_any n)

set_option maxRecDepth 100000 in
theorem Same_any (w : World) (n m : Nat) (va vb : List Value) (a b : Tp) (ha : TAt w Any n va a) (hb : TAt w Any m vb b) : Calls Try.prog 21 #[.agg va.toArray, .agg vb.toArray] w fun e w' => e = .returned (.bool (Tp.cmp a b == 0)) ∧ Below w.heap.size w w' := by
  have hq : Hid (∀ o o', Calls Try.prog 46 #[.agg va.toArray, .agg vb.toArray] ((w.alloc o).alloc o') fun e w' => e = .returned (.int .i64 (Tp.cmp a b)) ∧ Below w.heap.size w w') := fun o o' => (Cmp_any n _ m va vb a b (ha.below (bl_alloc (bl_alloc (Below.refl _ _) _) _)) (hb.below (bl_alloc (bl_alloc (Below.refl _ _) _) _))).mono fun e w' ⟨h1, h2⟩ => ⟨h1, bl_tr (bl_alloc (bl_alloc (Below.refl _ _) _) _) h2⟩
  obtain ⟨a1, c1, rfl⟩ := ha.form
  obtain ⟨a2, c2, rfl⟩ := hb.form
  clear ha hb
  go_enter Try.func21, Try.ntmps21
  go_wp2_with (go_at_call 46; refine (hq.out _ _).mono ?_; rintro e w2 ⟨rfl, hb2⟩)
  go_ret
  exact ⟨rfl, hb2⟩
end Go.Proofs.Ytknlpeloaapaiaa
