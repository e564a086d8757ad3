/- takeBack of nothing, enlist of nothing, fill. -/
import Derived.Test.YtknlpeloaapaiaaUn7
import Derived.Test.YtknlpeloaapaiaaUn4
namespace Go.Proofs.Ytknlpeloaapaiaa
open Go.RowKit Go.Shelf
set_option linter.unusedVariables false
set_option linter.unusedSimpArgs false
attribute [local go_sem] Oper.semAt_some

mutual
theorem found_noM : ∀ (t : Tp) (l : List Int), Tp.spares [7] t = true → Tp.found 7 t l = l
  | .mk k n ks, l, h => by
    rw [Tp.spares, Bool.and_eq_true] at h
    rw [Tp.found_mk, if_neg (by intro e; subst e; simp at h), foundL_noM ks l h.2]
theorem foundL_noM : ∀ (ts : List Tp) (l : List Int), Tp.sparesL [7] ts = true → Tp.foundL 7 ts l = l
  | [], l, _ => Tp.foundL_nil 7 l
  | x :: r, l, h => by
    rw [Tp.sparesL, Bool.and_eq_true] at h
    rw [Tp.foundL_cons, found_noM x l h.1, foundL_noM r l h.2]
end
set_option maxHeartbeats 1000000 in
set_option maxRecDepth 100000 in
theorem enlist_none (w : World) (J n0 : Nat) (n : Int) (vs : List Value) (t : Tp) (hT : TAt w Any n0 vs t) (hc : t.cnt ≤ 1000) (hM : NoM t) : Calls Try.prog 85 #[.pointer (some ⟨J, 0, none⟩), .int .i64 n, .agg vs.toArray] w fun e w' => e = .returned (.tuple #[]) ∧ Below w.heap.size w w' := by
  have HM : Hid (∀ o, Calls Try.prog 36 #[.agg vs.toArray] (w.alloc o) fun e w' => (∃ a c, e = .returned (.slice a 0 c)) ∧ Below w.heap.size w w') := fun o => by
    refine (Metas_any (w.alloc o) n0 vs t (hT.below (bl_alloc (Below.refl _ _) _)) (by omega)).mono ?_
    rintro e w' ⟨v, rfl, h1, h2⟩
    rw [found_noM t [] hM] at h1
    obtain ⟨a, c, rfl, -⟩ := h1.form
    exact ⟨⟨a, c, rfl⟩, bl_tr (bl_alloc (Below.refl _ _) _) h2⟩
  obtain ⟨a0, c0, rfl⟩ := hT.form
  clear hT hc hM
  go_enter Try.func85, Try.ntmps85
  go_wp2_with (go_at_call 36; refine (HM.out _).mono ?_; rintro e w3 ⟨⟨a, c, rfl⟩, b3⟩; have B3 := hid b3; clear b3)
  refine wp_loop_rounds 1 ?_
  rw [rounds_succ]
  go_wp2
  refine bodyPost_end (results_none rfl _ _ _) rfl ?_
  exact ⟨rfl, B3.out⟩

set_option maxRecDepth 100000 in
theorem backward_nil (w : World) : Calls Try.prog 60 #[.slice none 0 0] w fun e w' => e = .returned (.func (.func 86) #[] #[.pointer (some ⟨w.heap.size, 0, none⟩)]) ∧ w' = w.alloc (.cells #[.slice none 0 0] CS) := by
  go_enter Try.func60, Try.ntmps60
  go_wp2
  go_ret
  exact ⟨rfl, rfl⟩
set_option maxHeartbeats 1000000 in
set_option maxRecDepth 100000 in
theorem backward1_nil (y B : Nat) (w : World) (h : w.cell? ⟨B, 0, none⟩ = some (.slice none 0 0)) : Calls Try.prog 86 #[.func (.yield y) #[] #[], .pointer (some ⟨B, 0, none⟩)] w fun e w' => (∃ v, e = .returned v) ∧ Below w.heap.size w w' := by
  go_enter Try.func86, Try.ntmps86
  go_wp2
  refine wp_loop_rounds 1 ?_
  rw [rounds_succ]
  go_wp2
  first | refine bodyPost_end (results_none rfl _ _ _) rfl ?_ | refine bodyPost_ret (results_none rfl _ _ _) rfl ?_
  exact ⟨⟨_, rfl⟩, Below.refl _ _⟩
set_option maxHeartbeats 1000000 in
set_option maxRecDepth 100000 in
theorem takeBack_none (w : World) (J S : Nat) (h : Arr w J JT [.pointer (some ⟨S, 0, none⟩), .slice none 0 0]) : Calls Try.prog 29 #[.pointer (some ⟨J, 0, none⟩)] w fun e w' => e = .returned (.tuple #[]) ∧ Below w.heap.size w w' := by
  refine (callsIn_wide (n := 3)).1 ?_
  have hJ : Hid (∀ o, ∀ j, (w.alloc o).cell? ⟨J, j, none⟩ = [.pointer (some ⟨S, 0, none⟩), .slice none 0 0][j]?) := fun o => (h.stays (bl_alloc (Below.refl _ _) o)).cell
  have hBB : Hid (∀ o o', Below w.heap.size w ((w.alloc o).alloc o')) := fun o o' => bl_alloc (bl_alloc (Below.refl _ _) _) _
  have hsz : Hid (∀ o o', ((w.alloc o).alloc o').heap.size = w.heap.size + 2) := fun o o' => by rw [size_alloc, size_alloc]
  have hR1 : Hid (∀ o, Arr ((w.alloc o).alloc (.cells #[.slice none 0 0] CS)) (w.heap.size + 1) CS [.slice none 0 0]) := fun o => ⟨by have := heap_alloc_at (w.alloc o) (.cells #[.slice none 0 0] CS); rw [size_alloc] at this; exact this⟩
  have c0 := hJ.out (.cells #[.pointer (some ⟨J, 0, none⟩)] 93)
  clear h
  refine callsIn_of_wp_marks Try.func29 rfl trivial ?_ rfl
  simp only [Try.ntmps29, List.size_toArray, List.length_cons, List.length_nil, Nat.reduceAdd, Nat.reduceSub, Array.replicate_succ, Array.replicate_zero, List.push_toArray, List.append_toArray, List.nil_append, List.cons_append]
  gi_wp2_with (refine ⟨trivial, ?_⟩; gi_at_call 60; refine (callsIn_wide.2 (backward_nil _)).mono ?_; rintro e w' ⟨rfl, rfl⟩)
  refine wpIn_rangeFunc_none rfl (by omega) (gf := 86) (fs := #[]) (lb := #[.pointer (some ⟨w.heap.size + 1, 0, none⟩)]) (by first | rfl | simp) trivial (enters_of Try.func86 (by kernel_rfl) rfl) (fun y W hb => (callsIn_wide.2 (backward1_nil y (w.heap.size + 1) W (((hR1.out _).stays hb).cell 0))).mono fun e W' h => h) (fun D W hD hb hK => ?_)
  have hDw : w.heap.size ≤ D := by rw [hsz.out] at hD; omega
  have HB := hid (bl_tr (hBB.out _ _) hb)
  have HK := hid hK
  clear hb hK hD hR1 hBB hsz c0 hJ
  gi_wp2
  refine endM_norm (v := .tuple #[]) HK.out (results_none rfl _ _ _) ⟨rfl, bl_putObj HB.out _ _ hDw⟩

set_option maxHeartbeats 4000000 in
set_option maxRecDepth 100000 in
theorem fill_open (w : World) (J S g cap : Nat) (mv : Value) (p0 : Option Addr) (q1 : Nat) (more : List Value) (h : Jn w J S g cap mv p0 (some ⟨q1, 0, none⟩) more (.slice none 0 0) 0) (hq : Arr w q1 FT [.int .i64 1, .int .i64 1, .int .i64 0, .int .i64 1, .pointer none, .int .i64 1, .pointer none]) (n0 : Nat) (vs : List Value) (t : Tp) (hT : TAt w Any n0 vs t) (hc : t.cnt ≤ 1000) (hc1 : t.cnt ≠ 1) (hM : NoM t) : Calls Try.prog 59 #[.pointer (some ⟨J, 0, none⟩), .int .i64 1, .agg vs.toArray] w fun e w' => e = .returned (.bool true) ∧ (∃ (q2 pI N : Nat) (a c : Option Addr × Nat) (cv' : Value), Jn w' J S g cap mv p0 (some ⟨q2, 0, none⟩) more cv' 1 ∧ Arr w' q2 FT [.int .i64 1, .int .i64 1, .int .i64 0, .int .i64 1, .pointer (some ⟨pI, 0, none⟩), .int .i64 (t.cnt : Int), .pointer none] ∧ Arr w' pI 24 [.int .i64 t.k, .int .i64 t.n, .slice a.1 t.ks.length a.2] ∧ TAt w' (fun b => w.heap.size ≤ b) N [.int .i64 t.k, .int .i64 t.n, .slice a.1 t.ks.length a.2] t ∧ w.heap.size ≤ q2 ∧ w.heap.size ≤ pI) ∧ Fr J g (.slice none 0 0) w w' := by
  obtain ⟨a0, c0, rfl⟩ := hT.form
  have hat : Hid (∀ o, Calls Try.prog 54 #[.pointer (some ⟨S, 0, none⟩), .int .i64 1] (w.alloc o) fun e w' => e = .returned (.agg #[.int .i64 1, .int .i64 1, .int .i64 0, .int .i64 1, .pointer none, .int .i64 1, .pointer none]) ∧ Below (w.alloc o).heap.size (w.alloc o) w') := fun o => at_some (w.alloc o) S g cap mv p0 (some ⟨q1, 0, none⟩) more (h.sto.stays (bl_alloc (Below.refl _ _) _)) 1 (by decide) q1 rfl 1 1 0 1 1 none none (hq.stays (bl_alloc (Below.refl _ _) _))
  have T0 : Hid (Arr (w.alloc (.cells #[.int .i64 t.k, .int .i64 t.n, .slice a0 t.ks.length c0] 24)) w.heap.size 24 [.int .i64 t.k, .int .i64 t.n, .slice a0 t.ks.length c0]) := ⟨heap_alloc_at _ _⟩
  have HBB : Hid (∀ o, Below w.heap.size w (w.alloc o)) := fun o => bl_alloc (Below.refl _ _) _
  have HH := hid h
  have HT := hid hT
  have HM := hid hM
  obtain ⟨z, hz⟩ : ∃ z, t.cnt = z := ⟨_, rfl⟩
  rw [hz] at hc hc1
  have HZ := hid hz
  have j0 := fun o => (h.jn.stays (bl_alloc (Below.refl _ _) o)).cell
  clear h hq hT hM hz
  go_enter Try.func59, Try.ntmps59
  go_upto_region 4 with (go_at_call 54; refine (hat.out _).mono ?_; rintro e w3 ⟨rfl, b3⟩; have T3 := hid (T0.out.stays b3); have B3 := hid (bl_tr (HBB.out _) b3); clear b3 T0)
  have F4 : Hid (Arr (w3.alloc (.cells #[.int .i64 1, .int .i64 1, .int .i64 0, .int .i64 1, .pointer none, .int .i64 1, .pointer none] FT)) w3.heap.size FT [.int .i64 1, .int .i64 1, .int .i64 0, .int .i64 1, .pointer none, .int .i64 1, .pointer none]) := ⟨heap_alloc_at _ _⟩
  have T4 := hid (T3.out.stays (bl_alloc (Below.refl _ _) (.cells #[.int .i64 1, .int .i64 1, .int .i64 0, .int .i64 1, .pointer none, .int .i64 1, .pointer none] FT)))
  have B4 := hid (bl_alloc B3.out (.cells #[.int .i64 1, .int .i64 1, .int .i64 0, .int .i64 1, .pointer none, .int .i64 1, .pointer none] FT))
  have hTF : ¬ w.heap.size = w3.heap.size := by have := T3.out.lt; omega
  have hFw : w.heap.size ≤ w3.heap.size := B3.out.size
  clear T3 B3 hat HBB j0
  generalize w3.alloc (.cells #[.int .i64 1, .int .i64 1, .int .i64 0, .int .i64 1, .pointer none, .int .i64 1, .pointer none] FT) = w4 at F4 T4 B4 ⊢
  generalize hpF : w3.heap.size = pF at F4 hTF hFw ⊢
  generalize hpT : w.heap.size = pT at T4 hTF ⊢
  have HpT := hid hpT
  clear hpF hpT
  have HJ4 := hid (HH.out.stays B4.out)
  have qJ : Hid (∀ wz, Below w4.heap.size w4 wz → wz.cell? ⟨J, 0, none⟩ = some (.pointer (some ⟨S, 0, none⟩))) := fun wz hz => (HJ4.out.jn.stays hz).cell 0
  have qT : Hid (∀ wz, Below w4.heap.size w4 wz → ∀ j, wz.cell? ⟨pT, j, none⟩ = [.int .i64 t.k, .int .i64 t.n, .slice a0 t.ks.length c0][j]?) := fun wz hz => (T4.out.stays hz).cell
  have qF : Hid (∀ wz, Below w4.heap.size w4 wz → ∀ j, wz.cell? ⟨pF, j, none⟩ = [.int .i64 1, .int .i64 1, .int .i64 0, .int .i64 1, .pointer none, .int .i64 1, .pointer none][j]?) := fun wz hz => (F4.out.stays hz).cell
  have HT4 : Hid (∀ wz, Below w4.heap.size w4 wz → TAt wz Any n0 [.int .i64 t.k, .int .i64 t.n, .slice a0 t.ks.length c0] t) := fun wz hz => (HT.out.below B4.out).below hz
  have hsz : Hid (∀ wz, Below w4.heap.size w4 wz → Calls Try.prog 24 #[.pointer (some ⟨S, 0, none⟩), .agg #[.int .i64 t.k, .int .i64 t.n, .slice a0 t.ks.length c0]] wz fun e w' => e = .returned (.int .i64 (z : Int)) ∧ Below wz.heap.size wz w') := fun wz hz => by have := usize_any S n0 wz _ t (HT4.out wz hz) (by rw [HZ.out]; exact hc) HM.out; rw [HZ.out] at this; exact this
  have hst : Hid (∀ wz, Below w4.heap.size w4 wz → Calls Try.prog 62 #[.pointer (some ⟨S, 0, none⟩), .agg #[.int .i64 1, .int .i64 1, .int .i64 0, .int .i64 1, .pointer none, .int .i64 1, .pointer none]] wz fun e w' => e = .returned (.bool false) ∧ Below wz.heap.size wz w') := fun wz hz => strange_no wz S g cap mv p0 (some ⟨q1, 0, none⟩) more (HJ4.out.sto.stays hz) 1 1 0 1 1 none none (by decide)
  have hha : Hid (∀ wz, Below w4.heap.size w4 wz → Calls Try.prog 81 #[.pointer (some ⟨S, 0, none⟩), .agg #[.int .i64 t.k, .int .i64 t.n, .slice a0 t.ks.length c0], .int .i64 1] wz fun e w' => e = .returned (.bool false) ∧ Below wz.heap.size wz w') := fun wz hz => uhas_any S n0 wz _ t 1 (HT4.out wz hz) HM.out
  have hzd : decide ((z : Int) > 1000) = false := by simp; omega
  have hzd2 : ¬ ((1000 : Int) < (z : Int)) := by omega
  have hz1 : ((z : Int) == 1) = false := by rw [beq_eq_false_iff_ne]; omega
  refine wp_region_held_drew (S := fun wz => Below w4.heap.size w4 wz) (by kernel_rfl) ((Below.refl _ _).drew) (fun hS => ?_)
  have T4 := hid (T4.out.stays ((Below.refl _ _).drew : Below w4.heap.size w4 w4.drew))
  have F4 := hid (F4.out.stays ((Below.refl _ _).drew : Below w4.heap.size w4 w4.drew))
  generalize w4.drew = wc0 at hS T4 F4  ⊢
  refine wpAnyH_take (i := 0) (v := ?_) rfl (by kernel_rfl) (by kernel_rfl) (by kernel_rfl) (fun _ _ _ h => h) (Or.inl ⟨by rfl, ?_⟩) hS ?_
  rotate_left
  · intro wz hz; go_simp; try with_reducible rfl
  try simp only [Act.put, List.setIfInBounds_toArray, List.set_cons_zero, List.set_cons_succ, List.getElem_toArray, List.getElem_cons_succ, List.getElem_cons_zero]
  refine wpAnyH_take (i := 1) (v := ?_) rfl (by kernel_rfl) (by kernel_rfl) (by kernel_rfl) (fun _ _ _ h => h) (Or.inl ⟨by rfl, ?_⟩) hS ?_
  rotate_left
  · intro wz hz; go_simp; try with_reducible rfl
  try simp only [Act.put, List.setIfInBounds_toArray, List.set_cons_zero, List.set_cons_succ, List.getElem_toArray, List.getElem_cons_succ, List.getElem_cons_zero]
  refine wpAnyH_take (i := 2) (v := ?_) rfl (by kernel_rfl) (by kernel_rfl) (by kernel_rfl) (fun _ _ _ h => h) (Or.inl ⟨by rfl, ?_⟩) hS ?_
  rotate_left
  · intro wz hz; go_simp; try with_reducible rfl
  try simp only [Act.put, List.setIfInBounds_toArray, List.set_cons_zero, List.set_cons_succ, List.getElem_toArray, List.getElem_cons_succ, List.getElem_cons_zero]
  refine wpAnyH_take (i := 3) (v := ?_) rfl (by kernel_rfl) (by kernel_rfl) (by kernel_rfl) (fun _ _ _ h => h) (Or.inl ⟨by rfl, ?_⟩) hS ?_
  rotate_left
  · intro wz hz; have yy0 := qJ.out wz hz; have yy1 := qT.out wz hz; go_simp; try with_reducible rfl
  try simp only [Act.put, List.setIfInBounds_toArray, List.set_cons_zero, List.set_cons_succ, List.getElem_toArray, List.getElem_cons_succ, List.getElem_cons_zero]
  refine wpAnyH_take (i := 4) (v := ?_) rfl (by kernel_rfl) (by kernel_rfl) (by kernel_rfl) (fun _ _ _ h => h) (Or.inl ⟨by rfl, ?_⟩) hS ?_
  rotate_left
  · intro wz hz; have yy0 := qJ.out wz hz; have yy1 := qT.out wz hz; go_simp; try with_reducible rfl
  try simp only [Act.put, List.setIfInBounds_toArray, List.set_cons_zero, List.set_cons_succ, List.getElem_toArray, List.getElem_cons_succ, List.getElem_cons_zero]
  refine wpAnyH_ready (rs := [5]) (by kernel_rfl) (by simp) (AllReadyH.cons rfl (fun K hK => ?a1_5) AllReadyH.nil)
  case' a1_5 =>
    go_simp
    refine (hsz.out wc0 hS).mono ?_
    rintro e wc1 ⟨rfl, hb⟩
    have T4 := hid (T4.out.stays hb)
    have F4 := hid (F4.out.stays hb)
    refine hK.out _ _ (bl_on hS hb) (fun hSn => ?_)
    clear hK K hS
    have hS := hSn
    clear hSn
    try simp only [Act.put, List.setIfInBounds_toArray, List.set_cons_zero, List.set_cons_succ, List.getElem_toArray, List.getElem_cons_succ, List.getElem_cons_zero]
    clear hb
    refine wpAnyH_take (i := 6) (v := ?_) rfl (by kernel_rfl) (by kernel_rfl) (by kernel_rfl) (fun _ _ _ h => h) (Or.inl ⟨by rfl, ?_⟩) hS ?_
    rotate_left
    · intro wz hz; go_simp; try with_reducible rfl
    try simp only [Act.put, List.setIfInBounds_toArray, List.set_cons_zero, List.set_cons_succ, List.getElem_toArray, List.getElem_cons_succ, List.getElem_cons_zero]
    refine wpAnyH_done (by kernel_rfl) ?_ _
  go_upto_region 5 with fail
  refine wp_region_held_drew (S := fun wz => Below w4.heap.size w4 wz) (by kernel_rfl) (hS.drew) (fun hS => ?_)
  have T4 := hid (T4.out.stays ((Below.refl _ _).drew : Below wc1.heap.size wc1 wc1.drew))
  have F4 := hid (F4.out.stays ((Below.refl _ _).drew : Below wc1.heap.size wc1 wc1.drew))
  generalize wc1.drew = wc0 at hS T4 F4  ⊢
  refine wpAnyH_take (i := 0) (v := ?_) rfl (by kernel_rfl) (by kernel_rfl) (by kernel_rfl) (fun _ _ _ h => h) (Or.inl ⟨by rfl, ?_⟩) hS ?_
  rotate_left
  · intro wz hz; go_simp; try with_reducible rfl
  try simp only [Act.put, List.setIfInBounds_toArray, List.set_cons_zero, List.set_cons_succ, List.getElem_toArray, List.getElem_cons_succ, List.getElem_cons_zero]
  refine wpAnyH_take (i := 1) (v := ?_) rfl (by kernel_rfl) (by kernel_rfl) (by kernel_rfl) (fun _ _ _ h => h) (Or.inl ⟨by rfl, ?_⟩) hS ?_
  rotate_left
  · intro wz hz; go_simp; try with_reducible rfl
  try simp only [Act.put, List.setIfInBounds_toArray, List.set_cons_zero, List.set_cons_succ, List.getElem_toArray, List.getElem_cons_succ, List.getElem_cons_zero]
  refine wpAnyH_take (i := 2) (v := ?_) rfl (by kernel_rfl) (by kernel_rfl) (by kernel_rfl) (fun _ _ _ h => h) (Or.inl ⟨by rfl, ?_⟩) hS ?_
  rotate_left
  · intro wz hz; go_simp; try with_reducible rfl
  try simp only [Act.put, List.setIfInBounds_toArray, List.set_cons_zero, List.set_cons_succ, List.getElem_toArray, List.getElem_cons_succ, List.getElem_cons_zero]
  refine wpAnyH_take (i := 3) (v := ?_) rfl (by kernel_rfl) (by kernel_rfl) (by kernel_rfl) (fun _ _ _ h => h) (Or.inl ⟨by rfl, ?_⟩) hS ?_
  rotate_left
  · intro wz hz; have yy0 := qJ.out wz hz; have yy1 := qT.out wz hz; have yy2 := qF.out wz hz; go_simp; try with_reducible rfl
  try simp only [Act.put, List.setIfInBounds_toArray, List.set_cons_zero, List.set_cons_succ, List.getElem_toArray, List.getElem_cons_succ, List.getElem_cons_zero]
  refine wpAnyH_take (i := 4) (v := ?_) rfl (by kernel_rfl) (by kernel_rfl) (by kernel_rfl) (fun _ _ _ h => h) (Or.inl ⟨by rfl, ?_⟩) hS ?_
  rotate_left
  · intro wz hz; have yy0 := qJ.out wz hz; have yy1 := qT.out wz hz; have yy2 := qF.out wz hz; go_simp; try with_reducible rfl
  try simp only [Act.put, List.setIfInBounds_toArray, List.set_cons_zero, List.set_cons_succ, List.getElem_toArray, List.getElem_cons_succ, List.getElem_cons_zero]
  refine wpAnyH_ready (rs := [5]) (by kernel_rfl) (by simp) (AllReadyH.cons rfl (fun K hK => ?a2_5) AllReadyH.nil)
  case' a2_5 =>
    go_simp
    refine (hst.out wc0 hS).mono ?_
    rintro e wc1 ⟨rfl, hb⟩
    have T4 := hid (T4.out.stays hb)
    have F4 := hid (F4.out.stays hb)
    refine hK.out _ _ (bl_on hS hb) (fun hSn => ?_)
    clear hK K hS
    have hS := hSn
    clear hSn
    try simp only [Act.put, List.setIfInBounds_toArray, List.set_cons_zero, List.set_cons_succ, List.getElem_toArray, List.getElem_cons_succ, List.getElem_cons_zero]
    clear hb
    refine wpAnyH_take (i := 6) (v := ?_) rfl (by kernel_rfl) (by kernel_rfl) (by kernel_rfl) (fun _ _ _ h => h) (Or.inl ⟨by rfl, ?_⟩) hS ?_
    rotate_left
    · intro wz hz; go_simp; try with_reducible rfl
    try simp only [Act.put, List.setIfInBounds_toArray, List.set_cons_zero, List.set_cons_succ, List.getElem_toArray, List.getElem_cons_succ, List.getElem_cons_zero]
    refine wpAnyH_take (i := 7) (v := ?_) rfl (by kernel_rfl) (by kernel_rfl) (by kernel_rfl) (fun _ _ _ h => h) (Or.inl ⟨by rfl, ?_⟩) hS ?_
    rotate_left
    · intro wz hz; go_simp; try with_reducible rfl
    try simp only [Act.put, List.setIfInBounds_toArray, List.set_cons_zero, List.set_cons_succ, List.getElem_toArray, List.getElem_cons_succ, List.getElem_cons_zero]
    refine wpAnyH_take (i := 8) (v := ?_) rfl (by kernel_rfl) (by kernel_rfl) (by kernel_rfl) (fun _ _ _ h => h) (Or.inl ⟨by rfl, ?_⟩) hS ?_
    rotate_left
    · intro wz hz; go_simp; try with_reducible rfl
    try simp only [Act.put, List.setIfInBounds_toArray, List.set_cons_zero, List.set_cons_succ, List.getElem_toArray, List.getElem_cons_succ, List.getElem_cons_zero]
    refine wpAnyH_take (i := 9) (v := ?_) rfl (by kernel_rfl) (by kernel_rfl) (by kernel_rfl) (fun _ _ _ h => h) (Or.inl ⟨by rfl, ?_⟩) hS ?_
    rotate_left
    · intro wz hz; go_simp; try with_reducible rfl
    try simp only [Act.put, List.setIfInBounds_toArray, List.set_cons_zero, List.set_cons_succ, List.getElem_toArray, List.getElem_cons_succ, List.getElem_cons_zero]
    refine wpAnyH_take (i := 10) (v := ?_) rfl (by kernel_rfl) (by kernel_rfl) (by kernel_rfl) (fun _ _ _ h => h) (Or.inl ⟨by rfl, ?_⟩) hS ?_
    rotate_left
    · intro wz hz; go_simp; try with_reducible rfl
    try simp only [Act.put, List.setIfInBounds_toArray, List.set_cons_zero, List.set_cons_succ, List.getElem_toArray, List.getElem_cons_succ, List.getElem_cons_zero]
    refine wpAnyH_take (i := 11) (v := ?_) rfl (by kernel_rfl) (by kernel_rfl) (by kernel_rfl) (fun _ _ _ h => h) (Or.inl ⟨by rfl, ?_⟩) hS ?_
    rotate_left
    · intro wz hz; go_simp; try with_reducible rfl
    try simp only [Act.put, List.setIfInBounds_toArray, List.set_cons_zero, List.set_cons_succ, List.getElem_toArray, List.getElem_cons_succ, List.getElem_cons_zero]
    refine wpAnyH_take (i := 12) (v := ?_) rfl (by kernel_rfl) (by kernel_rfl) (by kernel_rfl) (fun _ _ _ h => h) (Or.inl ⟨by rfl, ?_⟩) hS ?_
    rotate_left
    · intro wz hz; go_simp; try with_reducible rfl
    try simp only [Act.put, List.setIfInBounds_toArray, List.set_cons_zero, List.set_cons_succ, List.getElem_toArray, List.getElem_cons_succ, List.getElem_cons_zero]
    refine wpAnyH_take (i := 13) (v := ?_) rfl (by kernel_rfl) (by kernel_rfl) (by kernel_rfl) (fun _ _ _ h => h) (Or.inl ⟨by rfl, ?_⟩) hS ?_
    rotate_left
    · intro wz hz; go_simp; try with_reducible rfl
    try simp only [Act.put, List.setIfInBounds_toArray, List.set_cons_zero, List.set_cons_succ, List.getElem_toArray, List.getElem_cons_succ, List.getElem_cons_zero]
    refine wpAnyH_take (i := 14) (v := ?_) rfl (by kernel_rfl) (by kernel_rfl) (by kernel_rfl) (fun _ _ _ h => h) (Or.inl ⟨by rfl, ?_⟩) hS ?_
    rotate_left
    · intro wz hz; have yy0 := qJ.out wz hz; have yy1 := qT.out wz hz; have yy2 := qF.out wz hz; go_simp; try with_reducible rfl
    try simp only [Act.put, List.setIfInBounds_toArray, List.set_cons_zero, List.set_cons_succ, List.getElem_toArray, List.getElem_cons_succ, List.getElem_cons_zero]
    refine wpAnyH_take (i := 15) (v := ?_) rfl (by kernel_rfl) (by kernel_rfl) (by kernel_rfl) (fun _ _ _ h => h) (Or.inl ⟨by rfl, ?_⟩) hS ?_
    rotate_left
    · intro wz hz; have yy0 := qJ.out wz hz; have yy1 := qT.out wz hz; have yy2 := qF.out wz hz; go_simp; try with_reducible rfl
    try simp only [Act.put, List.setIfInBounds_toArray, List.set_cons_zero, List.set_cons_succ, List.getElem_toArray, List.getElem_cons_succ, List.getElem_cons_zero]
    refine wpAnyH_take (i := 16) (v := ?_) rfl (by kernel_rfl) (by kernel_rfl) (by kernel_rfl) (fun _ _ _ h => h) (Or.inl ⟨by rfl, ?_⟩) hS ?_
    rotate_left
    · intro wz hz; go_simp; try with_reducible rfl
    try simp only [Act.put, List.setIfInBounds_toArray, List.set_cons_zero, List.set_cons_succ, List.getElem_toArray, List.getElem_cons_succ, List.getElem_cons_zero]
    refine wpAnyH_ready (rs := [17]) (by kernel_rfl) (by simp) (AllReadyH.cons rfl (fun K hK => ?a3_17) AllReadyH.nil)
    case' a3_17 =>
      go_simp
      refine (hha.out wc1 hS).mono ?_
      rintro e wc2 ⟨rfl, hb⟩
      have T4 := hid (T4.out.stays hb)
      have F4 := hid (F4.out.stays hb)
      refine hK.out _ _ (bl_on hS hb) (fun hSn => ?_)
      clear hK K hS
      have hS := hSn
      clear hSn
      try simp only [Act.put, List.setIfInBounds_toArray, List.set_cons_zero, List.set_cons_succ, List.getElem_toArray, List.getElem_cons_succ, List.getElem_cons_zero]
      clear hb
      refine wpAnyH_take (i := 18) (v := ?_) rfl (by kernel_rfl) (by kernel_rfl) (by kernel_rfl) (fun _ _ _ h => h) (Or.inl ⟨by rfl, ?_⟩) hS ?_
      rotate_left
      · intro wz hz; go_simp; try with_reducible rfl
      try simp only [Act.put, List.setIfInBounds_toArray, List.set_cons_zero, List.set_cons_succ, List.getElem_toArray, List.getElem_cons_succ, List.getElem_cons_zero]
      refine wpAnyH_done (by kernel_rfl) ?_ _
  have hfr : Hid (∀ wz, Below w4.heap.size w4 wz → Calls Try.prog 83 #[.agg #[.int .i64 t.k, .int .i64 t.n, .slice a0 t.ks.length c0]] wz fun e w' => ∃ a c N, e = .returned (.agg #[.int .i64 t.k, .int .i64 t.n, .slice a t.ks.length c]) ∧ TAt w' (fun b => wz.heap.size ≤ b) N [.int .i64 t.k, .int .i64 t.n, .slice a t.ks.length c] t ∧ Below wz.heap.size wz w') := fun wz hz => by
    have hk := unFresh_any wz n0 wz _ t (Below.refl _ _) (HT4.out wz hz) (by have := HZ.out; omega) HM.out
    rw [show ((#[] : Array Value).push (.agg [.int .i64 t.k, .int .i64 t.n, .slice a0 t.ks.length c0].toArray) ++ (#[] : Array Value)) = #[.agg #[.int .i64 t.k, .int .i64 t.n, .slice a0 t.ks.length c0]] from by simp] at hk
    refine hk.mono ?_
    rintro e w' ⟨vs', n', rfl, h1, h2⟩
    obtain ⟨a, c, rfl⟩ := h1.form
    exact ⟨a, c, n', rfl, h1, h2⟩
  have t5 := T4.out.cell
  go_upto_region 9 with (go_at_call 83; refine (hfr.out _ hS).mono ?_; rintro e w7 ⟨aI, cI, NI, rfl, hTI, b7⟩; have b8 := bl_alloc b7 (.cells #[.int .i64 t.k, .int .i64 t.n, .slice aI t.ks.length cI] 24); have f8 := (F4.out.stays b8).cell; have ff8 := (F4.out.stays b8).frozen; have HB8 := hid b8; have HTI := hid (hTI.below (bl_alloc (Below.refl _ _) (.cells #[.int .i64 t.k, .int .i64 t.n, .slice aI t.ks.length cI] 24))); have hIl : wc2.heap.size ≤ w7.heap.size := b7.size; clear b7 b8 hTI)
  have I8 : Hid (Arr (w7.alloc (.cells #[.int .i64 t.k, .int .i64 t.n, .slice aI t.ks.length cI] 24)) w7.heap.size 24 [.int .i64 t.k, .int .i64 t.n, .slice aI t.ks.length cI]) := ⟨heap_alloc_at _ _⟩
  have F8 := hid (F4.out.stays HB8.out)
  have hF4l := F4.out.lt
  have hnI : ¬ w7.heap.size = pF := by omega
  generalize w7.alloc (.cells #[.int .i64 t.k, .int .i64 t.n, .slice aI t.ks.length cI] 24) = w8 at I8 F8 HB8 HTI f8 ff8 ⊢
  generalize hpI : w7.heap.size = pI at I8 hnI hIl ⊢
  have F9 := hid ((F8.out.set 4 (.pointer (some ⟨pI, 0, none⟩))).set 5 (.int .i64 (z : Int)))
  simp only [List.set_cons_zero, List.set_cons_succ] at F9
  have I9 := hid ((I8.out.other (p := ⟨pF, 4, none⟩) (show ¬ pI = pF from hnI) (.pointer (some ⟨pI, 0, none⟩))).other (p := ⟨pF, 5, none⟩) (show ¬ pI = pF from hnI) (.int .i64 (z : Int)))
  have hw48 : Hid (Below w4.heap.size w4 w8) := bl_on hS HB8.out hS.size
  have hw4z := B4.out.size
  have B9 : Hid (Below w.heap.size w ((w8.setCell ⟨pF, 4, none⟩ (.pointer (some ⟨pI, 0, none⟩))).setCell ⟨pF, 5, none⟩ (.int .i64 (z : Int)))) := by
    have k0 : Below w.heap.size w w4 := B4.out
    have k1 : Below w.heap.size w w8 := k0.trans (hw48.out.mono k0.size)
    have k2 : w.heap.size ≤ pF := hFw
    exact (k1.setCell (p := ⟨pF, 4, none⟩) k2 _).setCell (p := ⟨pF, 5, none⟩) k2 _
  have HT9 : Hid (TAt ((w8.setCell ⟨pF, 4, none⟩ (.pointer (some ⟨pI, 0, none⟩))).setCell ⟨pF, 5, none⟩ (.int .i64 (z : Int))) (fun b => wc2.heap.size ≤ b) NI [.int .i64 t.k, .int .i64 t.n, .slice aI t.ks.length cI] t) := by
    have hK : ∀ (W : World) j u, Keeps (fun b => wc2.heap.size ≤ b) W (W.setCell ⟨pF, j, none⟩ u) := fun W j u => Keeps.set (K := fun b => wc2.heap.size ≤ b) (p := ⟨pF, j, none⟩) (show ¬ wc2.heap.size ≤ pF by omega) u
    exact HTI.out.move ((hK _ _ _).trans (hK _ _ _)) fun _ h => h
  have hwc2 : Hid (w.heap.size ≤ wc2.heap.size) := by have := hS.size; have := HpT.out; show _ ≤ _; omega
  clear F8 I8 HB8 HTI f8 ff8 hw48 hfr hsz hst hha qJ qT qF T4 F4 HT4 HJ4 hpI t5
  generalize (w8.setCell ⟨pF, 4, none⟩ (.pointer (some ⟨pI, 0, none⟩))).setCell ⟨pF, 5, none⟩ (.int .i64 (z : Int)) = w9 at F9 I9 B9 HT9 ⊢
  have hJw := HH.out.jn.lt
  have hgj := HH.out.gj
  have hFw' : w.heap.size ≤ pF := hFw
  have hIw : w.heap.size ≤ pI := by have := hwc2.out; omega
  have hse : Hid (Calls Try.prog 84 #[.pointer (some ⟨J, 0, none⟩), .int .i64 1, .agg #[.int .i64 1, .int .i64 1, .int .i64 0, .int .i64 1, .pointer (some ⟨pI, 0, none⟩), .int .i64 (z : Int), .pointer none]] w9 fun e w' => e = .returned (.tuple #[]) ∧ (∃ cv' q2, Jn w' J S g cap mv p0 (some ⟨q2, 0, none⟩) more cv' 1 ∧ w.heap.size ≤ q2 ∧ Arr w' q2 FT [.int .i64 1, .int .i64 1, .int .i64 0, .int .i64 1, .pointer (some ⟨pI, 0, none⟩), .int .i64 (z : Int), .pointer none]) ∧ Fr J g (.slice none 0 0) w9 w') := by
    refine (set_any _ J S g cap mv p0 (some ⟨q1, 0, none⟩) more _ 0 (HH.out.stays B9.out) (by omega) 1 (by decide) 1 1 0 1 _ (some ⟨pI, 0, none⟩) none).mono ?_
    rintro e w' ⟨rfl, ⟨cv', hj, hcv⟩, ha, hf⟩
    exact ⟨rfl, ⟨cv', _, hj, B9.out.size, ha⟩, hf⟩
  have f9 := F9.out.cell
  go_wp2_with (first
    | (go_at_call 84; refine hse.out.mono ?_; rintro e w10 ⟨rfl, ⟨cv2, q2, j2, k2, a2⟩, f2⟩; have F10 := hid (f2.arr F9.out (by omega) (by omega) (fun e => by cases e)); have I10 := hid (f2.arr I9.out (by omega) (by omega) (fun e => by cases e)); have hT10 := (HT9.out.move (f2.keeps (fun b hb hl => ⟨by have := hwc2.out; omega, by have := hwc2.out; omega, fun e => by cases e⟩)) fun _ h => h); have i10 := I10.out.cell; have f10 := F10.out.cell; have HT10 := hid hT10; have J2 := hid j2; have A2 := hid a2; have K2 := hid k2; have FR := hid f2; have hen : Hid (Calls Try.prog 85 #[.pointer (some ⟨J, 0, none⟩), .int .i64 1, .agg #[.int .i64 t.k, .int .i64 t.n, .slice aI t.ks.length cI]] w10 fun e w' => e = .returned (.tuple #[]) ∧ Below w10.heap.size w10 w') := enlist_none w10 J NI 1 _ t hT10.any (by rw [HZ.out]; exact hc) HM.out; clear hse j2 k2 a2 f2 hT10 f9)
    | (go_at_call 85; refine hen.out.mono ?_; rintro e w11 ⟨rfl, b11⟩; have f11 := (F10.out.stays b11).cell; have B11 := hid b11; have hsp : Hid (Calls Try.prog 82 #[.pointer (some ⟨J, 0, none⟩), .pointer none] w11 fun e w' => e = .returned (.bool true) ∧ Below w11.heap.size w11 w') := spread_nil w11 J; clear hen b11)
    | (go_at_call 82; refine hsp.out.mono ?_; rintro e w12 ⟨rfl, b12⟩; have B12 := hid (bl_tr B11.out b12); clear hsp b12))
  go_ret
  rw [HZ.out]
  exact ⟨rfl, ⟨q2, pI, NI, (aI, cI), (aI, cI), cv2, J2.out.stays B12.out, A2.out.stays B12.out, I10.out.stays B12.out, (HT10.out.below B12.out).move (Keeps.refl _ _) (fun b hb => by have := hwc2.out; omega), K2.out, hIw⟩, (FR.out.of_below B9.out).then_below B12.out⟩

end Go.Proofs.Ytknlpeloaapaiaa
