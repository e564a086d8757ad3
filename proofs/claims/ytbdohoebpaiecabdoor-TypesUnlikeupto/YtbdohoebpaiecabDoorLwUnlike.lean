/- TypesUnlike: the walk. -/
import Derived.Test.YtbdohoebpaiecabDoorTpH
import Derived.Test.YtbdohoebpaiecabDoorTpQ2
namespace Go.Proofs.YtbdohoebpaiecabDoor
open Go.RowKit
set_option linter.unusedVariables false
set_option linter.unusedSimpArgs false

theorem str_eq (a b : ByteArray) : (a.toList == b.toList) = @decide (a = b) (Classical.propDecidable _) := by
  rw [Bool.eq_iff_iff, beq_iff_eq, @decide_eq_true_iff _ (Classical.propDecidable _)]
  constructor
  · intro h; rw [Lib.toList_data, Lib.toList_data] at h; exact ByteArray.ext (Array.ext' h)
  · intro h; rw [h]
/-- How long a text may be. -/
theorem Tp.text_len (n : Nat) : ∀ t : Tp, t.cnt ≤ n → t.right = true → (∀ m vs w, TAt w Any m vs t → t.text.length ≤ 40 * t.cnt) := by
  induction n with
  | zero => intro t h; cases t; rw [Tp.cnt] at h; omega
  | succ n ih =>
    intro t hc ht m vs w hT
    cases m with
    | zero => exact hT.elim
    | succ m =>
    obtain ⟨v, rfl, hk, hn, hL⟩ := hT.open_
    have hpos : 1 ≤ t.cnt := by cases t; rw [Tp.cnt]; omega
    rcases Tp.right_cases ht with h | ⟨a, b, hab, ha, hb⟩
    · rw [(Tp.leafy_text h).1]
      have := Tp.leaf_len (k := t.k) (n := t.n) hn
      omega
    · have hks : t.ks = [a, b] := by rcases hab with rfl | rfl <;> rfl
      have hcc : t.cnt = a.cnt + b.cnt + 1 := by rcases hab with rfl | rfl <;> (rw [Tp.cnt, Tp.cntL, Tp.cntL, Tp.cntL]; omega)
      rw [hks] at hL
      have el : ∀ (i : Nat) x, [a, b][i]? = some x → ∃ vs, TAt w Any m vs x := by
        intro i x hx
        rcases hL with ⟨b', o, c, hv, -, -, -, hc⟩ | ⟨h0, -⟩
        · obtain ⟨vs, -, h⟩ := hc i x hx; exact ⟨vs, h⟩
        · cases h0
      obtain ⟨va, ta⟩ := el 0 a rfl
      obtain ⟨vb, tb⟩ := el 1 b rfl
      have la := ih a (by omega) ha _ _ _ ta
      have lb := ih b (by omega) hb _ _ _ tb
      have wl : ∀ (f g : Int) (s : List UInt8), (Tp.wrap f g s).length ≤ s.length + 2 := by intro f g s; unfold Tp.wrap; split <;> simp
      rcases hab with rfl | rfl
      · rw [Tp.text_two, if_pos rfl]
        have h1 := wl 2 a.level a.text
        have h2 := wl 1 b.level b.text
        simp only [List.length_append, List.length_cons, List.length_nil]
        omega
      · rw [Tp.text_two, if_neg (by decide), if_pos rfl]
        have h1 := wl 2 a.level a.text
        have h2 := wl 3 b.level b.text
        simp only [List.length_append, List.length_cons, List.length_nil]
        omega

set_option maxHeartbeats 8000000 in
set_option maxRecDepth 100000 in
theorem unlike_walk (w : World) (hW : Tab w) (na nb : Nat) (va vb : List Value) (a b : Tp) (ha : TAt w Any na va a) (hb : TAt w Any nb vb b) (hla : a.cnt ≤ 1048576) (hlb : b.cnt ≤ 1048576) :
    Calls Tryd.prog 4 #[.agg va.toArray, .agg vb.toArray] w fun e w' => e = .returned (.bool true) ∧ Below w.heap.size w w' := by
  obtain ⟨a2, ca, rfl⟩ := ha.form
  obtain ⟨b2, cb, rfl⟩ := hb.form
  have HA : Hid (TAt w Any na _ a) := ha
  have HB : Hid (TAt w Any nb _ b) := hb
  have HW : Hid (Tab w) := hW
  clear ha hb hW
  go_enter Tryd.func4, Tryd.ntmps4
  go_wp2
  have X : Hid (Arr ((w.alloc (.cells #[.int .i64 a.k, .int .i64 a.n, .slice a2 a.ks.length ca] 24)).alloc (.cells #[.int .i64 b.k, .int .i64 b.n, .slice b2 b.ks.length cb] 24)) w.heap.size 24 [.int .i64 a.k, .int .i64 a.n, .slice a2 a.ks.length ca] ∧ Arr ((w.alloc (.cells #[.int .i64 a.k, .int .i64 a.n, .slice a2 a.ks.length ca] 24)).alloc (.cells #[.int .i64 b.k, .int .i64 b.n, .slice b2 b.ks.length cb] 24)) (w.heap.size + 1) 24 [.int .i64 b.k, .int .i64 b.n, .slice b2 b.ks.length cb] ∧ Below w.heap.size w ((w.alloc (.cells #[.int .i64 a.k, .int .i64 a.n, .slice a2 a.ks.length ca] 24)).alloc (.cells #[.int .i64 b.k, .int .i64 b.n, .slice b2 b.ks.length cb] 24))) := by
    have e0 := heap_alloc_at w (.cells #[.int .i64 a.k, .int .i64 a.n, .slice a2 a.ks.length ca] 24)
    have e1 := heap_alloc_at (w.alloc (.cells #[.int .i64 a.k, .int .i64 a.n, .slice a2 a.ks.length ca] 24)) (.cells #[.int .i64 b.k, .int .i64 b.n, .slice b2 b.ks.length cb] 24)
    rw [size_alloc] at e1
    exact ⟨Arr.stays (⟨e0⟩) (bl_alloc (Below.refl _ _) _), ⟨e1⟩, bl_alloc (bl_alloc (Below.refl _ _) _) _⟩
  generalize ((w.alloc (.cells #[.int .i64 a.k, .int .i64 a.n, .slice a2 a.ks.length ca] 24)).alloc (.cells #[.int .i64 b.k, .int .i64 b.n, .slice b2 b.ks.length cb] 24)) = W1 at X ⊢
  have qa : Hid (∀ wz, Below W1.heap.size W1 wz → TAt wz Any na [.int .i64 a.k, .int .i64 a.n, .slice a2 a.ks.length ca] a) := fun wz hz => (HA.out.below X.out.2.2).below hz
  have qb : Hid (∀ wz, Below W1.heap.size W1 wz → TAt wz Any nb [.int .i64 b.k, .int .i64 b.n, .slice b2 b.ks.length cb] b) := fun wz hz => (HB.out.below X.out.2.2).below hz
  have s1 : Hid (∀ wz, Below W1.heap.size W1 wz → Calls Tryd.prog 11 #[.agg #[.int .i64 a.k, .int .i64 a.n, .slice a2 a.ks.length ca]] wz fun e w' => e = .returned (.bool a.right) ∧ Below wz.heap.size wz w') := fun wz hz => Right_any wz _ _ _ (qa.out wz hz)
  have s2 : Hid (∀ wz, Below W1.heap.size W1 wz → Calls Tryd.prog 11 #[.agg #[.int .i64 b.k, .int .i64 b.n, .slice b2 b.ks.length cb]] wz fun e w' => e = .returned (.bool b.right) ∧ Below wz.heap.size wz w') := fun wz hz => Right_any wz _ _ _ (qb.out wz hz)
  have s3 : Hid (a.right = true → ∀ wz, Below W1.heap.size W1 wz → Calls Tryd.prog 12 #[.agg #[.int .i64 a.k, .int .i64 a.n, .slice a2 a.ks.length ca]] wz fun e w' => e = .returned (.string ⟨a.text.toArray⟩) ∧ Below wz.heap.size wz w') := fun hr wz hz => Text_any wz (HW.out.stays (bl_tr X.out.2.2 hz)) _ _ _ (qa.out wz hz) (by have := Tp.text_len _ a (Nat.le_refl _) hr _ _ _ HA.out; omega)
  have s4 : Hid (b.right = true → ∀ wz, Below W1.heap.size W1 wz → Calls Tryd.prog 12 #[.agg #[.int .i64 b.k, .int .i64 b.n, .slice b2 b.ks.length cb]] wz fun e w' => e = .returned (.string ⟨b.text.toArray⟩) ∧ Below wz.heap.size wz w') := fun hr wz hz => Text_any wz (HW.out.stays (bl_tr X.out.2.2 hz)) _ _ _ (qb.out wz hz) (by have := Tp.text_len _ b (Nat.le_refl _) hr _ _ _ HB.out; omega)
  have s5 : Hid (∀ wz, Below W1.heap.size W1 wz → Calls Tryd.prog 10 #[.agg #[.int .i64 a.k, .int .i64 a.n, .slice a2 a.ks.length ca], .agg #[.int .i64 b.k, .int .i64 b.n, .slice b2 b.ks.length cb]] wz fun e w' => e = .returned (.bool (Tp.cmp a b == 0)) ∧ Below wz.heap.size wz w') := fun wz hz => Same_any wz _ _ _ _ _ _ (qa.out wz hz) (qb.out wz hz)
  have s7 : Hid (∀ wz, Below W1.heap.size W1 wz → Calls Tryd.prog 8 #[] wz fun e w' => e = .returned (.bool true) ∧ Below wz.heap.size wz w') := fun wz hz => alive_any wz (HW.out.stays (bl_tr X.out.2.2 hz))
  have B1 : Hid (Below w.heap.size w W1) := X.out.2.2
  have hs0 : Hid (W1.drew.cell? ⟨w.heap.size, 0, none⟩ = some (.int .i64 a.k) ∧ W1.drew.cell? ⟨w.heap.size, 1, none⟩ = some (.int .i64 a.n) ∧ W1.drew.cell? ⟨w.heap.size, 2, none⟩ = some (.slice a2 a.ks.length ca) ∧ W1.drew.cell? ⟨w.heap.size + 1, 0, none⟩ = some (.int .i64 b.k) ∧ W1.drew.cell? ⟨w.heap.size + 1, 1, none⟩ = some (.int .i64 b.n) ∧ W1.drew.cell? ⟨w.heap.size + 1, 2, none⟩ = some (.slice b2 b.ks.length cb) ∧ Below W1.heap.size W1 W1.drew) := ⟨X.out.1.cell 0, X.out.1.cell 1, X.out.1.cell 2, X.out.2.1.cell 0, X.out.2.1.cell 1, X.out.2.1.cell 2, (Below.refl _ _).drew⟩
  clear HA HB HW qa qb X hla hlb
  cases ra : a.right with
  | false =>
    rw [ra] at s1
    clear s2 s3 s4 s5 ra
    refine wp_region_held_drew (S := fun wz => wz.cell? ⟨w.heap.size, 0, none⟩ = some (.int .i64 a.k) ∧ wz.cell? ⟨w.heap.size, 1, none⟩ = some (.int .i64 a.n) ∧ wz.cell? ⟨w.heap.size, 2, none⟩ = some (.slice a2 a.ks.length ca) ∧ wz.cell? ⟨w.heap.size + 1, 0, none⟩ = some (.int .i64 b.k) ∧ wz.cell? ⟨w.heap.size + 1, 1, none⟩ = some (.int .i64 b.n) ∧ wz.cell? ⟨w.heap.size + 1, 2, none⟩ = some (.slice b2 b.ks.length cb) ∧ Below W1.heap.size W1 wz) (by kernel_rfl) hs0.out (fun hS => ?_)
    refine wpAnyH_take (i := 0) (v := ?_) rfl (by kernel_rfl) (by kernel_rfl) (by kernel_rfl) (fun _ _ _ h => h) (Or.inl ⟨by rfl, ?_⟩) hS ?_
    rotate_left
    · intro wz hz; obtain ⟨y0, y1, y2, y3, y4, y5, -⟩ := hz; go_simp; try with_reducible rfl
    try simp only [Act.put, List.setIfInBounds_toArray, List.set_cons_zero, List.set_cons_succ, List.getElem_toArray, List.getElem_cons_succ, List.getElem_cons_zero]
    refine wpAnyH_ready (rs := [1]) (by kernel_rfl) (by simp) (AllReadyH.cons rfl (fun K hK => ?_) AllReadyH.nil)
    go_simp
    refine (s1.out _ (belo6 hS)).mono ?_
    rintro e w1_ ⟨rfl, hb1⟩
    refine hK.out _ _ (keep6 hb1 hS) (fun hS1 => ?_)
    clear hK K hS hb1
    have hS := hS1
    clear hS1
    try simp only [Act.put, List.setIfInBounds_toArray, List.set_cons_zero, List.set_cons_succ, List.getElem_toArray, List.getElem_cons_succ, List.getElem_cons_zero]
    refine wpAnyH_take (i := 2) (v := ?_) rfl (by kernel_rfl) (by kernel_rfl) (by kernel_rfl) (fun _ _ _ h => h) (Or.inl ⟨by rfl, ?_⟩) hS ?_
    rotate_left
    · intro wz hz; obtain ⟨y0, y1, y2, y3, y4, y5, -⟩ := hz; go_simp; try with_reducible rfl
    try simp only [Act.put, List.setIfInBounds_toArray, List.set_cons_zero, List.set_cons_succ, List.getElem_toArray, List.getElem_cons_succ, List.getElem_cons_zero]
    refine wpAnyH_take (i := 3) (v := undef) rfl (by kernel_rfl) (by kernel_rfl) (by kernel_rfl) (fun _ _ _ h => h) (Or.inr ⟨by rfl, rfl⟩) hS ?_
    try simp only [Act.put, List.setIfInBounds_toArray, List.set_cons_zero, List.set_cons_succ, List.getElem_toArray, List.getElem_cons_succ, List.getElem_cons_zero]
    refine wpAnyH_take (i := 4) (v := undef) rfl (by kernel_rfl) (by kernel_rfl) (by kernel_rfl) (fun _ _ _ h => h) (Or.inr ⟨by rfl, rfl⟩) hS ?_
    try simp only [Act.put, List.setIfInBounds_toArray, List.set_cons_zero, List.set_cons_succ, List.getElem_toArray, List.getElem_cons_succ, List.getElem_cons_zero]
    refine wpAnyH_take (i := 5) (v := .bool false) rfl (by kernel_rfl) (by kernel_rfl) (by kernel_rfl) (fun _ _ _ h => h) (Or.inl ⟨by rfl, ?_⟩) hS ?_
    · intro wz hz; obtain ⟨y0, y1, y2, y3, y4, y5, -⟩ := hz; go_simp; try with_reducible rfl
    try simp only [Act.put, List.setIfInBounds_toArray, List.set_cons_zero, List.set_cons_succ, List.getElem_toArray, List.getElem_cons_succ, List.getElem_cons_zero]
    refine wpAnyH_take (i := 6) (v := ?_) rfl (by kernel_rfl) (by kernel_rfl) (by kernel_rfl) (fun _ _ _ h => h) (Or.inl ⟨by rfl, ?_⟩) hS ?_
    rotate_left
    · intro wz hz; obtain ⟨y0, y1, y2, y3, y4, y5, -⟩ := hz; go_simp; try with_reducible rfl
    try simp only [Act.put, List.setIfInBounds_toArray, List.set_cons_zero, List.set_cons_succ, List.getElem_toArray, List.getElem_cons_succ, List.getElem_cons_zero]
    refine wpAnyH_take (i := 7) (v := undef) rfl (by kernel_rfl) (by kernel_rfl) (by kernel_rfl) (fun _ _ _ h => h) (Or.inr ⟨by rfl, rfl⟩) hS ?_
    try simp only [Act.put, List.setIfInBounds_toArray, List.set_cons_zero, List.set_cons_succ, List.getElem_toArray, List.getElem_cons_succ, List.getElem_cons_zero]
    refine wpAnyH_take (i := 8) (v := undef) rfl (by kernel_rfl) (by kernel_rfl) (by kernel_rfl) (fun _ _ _ h => h) (Or.inr ⟨by rfl, rfl⟩) hS ?_
    try simp only [Act.put, List.setIfInBounds_toArray, List.set_cons_zero, List.set_cons_succ, List.getElem_toArray, List.getElem_cons_succ, List.getElem_cons_zero]
    refine wpAnyH_take (i := 9) (v := undef) rfl (by kernel_rfl) (by kernel_rfl) (by kernel_rfl) (fun _ _ _ h => h) (Or.inr ⟨by rfl, rfl⟩) hS ?_
    try simp only [Act.put, List.setIfInBounds_toArray, List.set_cons_zero, List.set_cons_succ, List.getElem_toArray, List.getElem_cons_succ, List.getElem_cons_zero]
    refine wpAnyH_take (i := 10) (v := undef) rfl (by kernel_rfl) (by kernel_rfl) (by kernel_rfl) (fun _ _ _ h => h) (Or.inr ⟨by rfl, rfl⟩) hS ?_
    try simp only [Act.put, List.setIfInBounds_toArray, List.set_cons_zero, List.set_cons_succ, List.getElem_toArray, List.getElem_cons_succ, List.getElem_cons_zero]
    refine wpAnyH_take (i := 11) (v := undef) rfl (by kernel_rfl) (by kernel_rfl) (by kernel_rfl) (fun _ _ _ h => h) (Or.inr ⟨by rfl, rfl⟩) hS ?_
    try simp only [Act.put, List.setIfInBounds_toArray, List.set_cons_zero, List.set_cons_succ, List.getElem_toArray, List.getElem_cons_succ, List.getElem_cons_zero]
    refine wpAnyH_take (i := 12) (v := undef) rfl (by kernel_rfl) (by kernel_rfl) (by kernel_rfl) (fun _ _ _ h => h) (Or.inr ⟨by rfl, rfl⟩) hS ?_
    try simp only [Act.put, List.setIfInBounds_toArray, List.set_cons_zero, List.set_cons_succ, List.getElem_toArray, List.getElem_cons_succ, List.getElem_cons_zero]
    refine wpAnyH_take (i := 13) (v := undef) rfl (by kernel_rfl) (by kernel_rfl) (by kernel_rfl) (fun _ _ _ h => h) (Or.inr ⟨by rfl, rfl⟩) hS ?_
    try simp only [Act.put, List.setIfInBounds_toArray, List.set_cons_zero, List.set_cons_succ, List.getElem_toArray, List.getElem_cons_succ, List.getElem_cons_zero]
    refine wpAnyH_take (i := 14) (v := undef) rfl (by kernel_rfl) (by kernel_rfl) (by kernel_rfl) (fun _ _ _ h => h) (Or.inr ⟨by rfl, rfl⟩) hS ?_
    try simp only [Act.put, List.setIfInBounds_toArray, List.set_cons_zero, List.set_cons_succ, List.getElem_toArray, List.getElem_cons_succ, List.getElem_cons_zero]
    refine wpAnyH_take (i := 15) (v := undef) rfl (by kernel_rfl) (by kernel_rfl) (by kernel_rfl) (fun _ _ _ h => h) (Or.inr ⟨by rfl, rfl⟩) hS ?_
    try simp only [Act.put, List.setIfInBounds_toArray, List.set_cons_zero, List.set_cons_succ, List.getElem_toArray, List.getElem_cons_succ, List.getElem_cons_zero]
    refine wpAnyH_take (i := 16) (v := .bool false) rfl (by kernel_rfl) (by kernel_rfl) (by kernel_rfl) (fun _ _ _ h => h) (Or.inl ⟨by rfl, ?_⟩) hS ?_
    · intro wz hz; obtain ⟨y0, y1, y2, y3, y4, y5, -⟩ := hz; go_simp; try with_reducible rfl
    try simp only [Act.put, List.setIfInBounds_toArray, List.set_cons_zero, List.set_cons_succ, List.getElem_toArray, List.getElem_cons_succ, List.getElem_cons_zero]
    refine wpAnyH_done (by kernel_rfl) ?_ _
    all_goals go_wp2_with (go_at_call 8; refine (s7.out _ (belo6 (by assumption))).mono ?_; rintro e wf ⟨rfl, bf⟩)
    all_goals go_ret
    all_goals exact ⟨rfl, bl_tr (bl_tr B1.out (belo6 (by assumption))) bf⟩
  | true =>
    rw [ra] at s1
    replace s3 := Hid.out s3 ra
    have s3 : Hid _ := s3
    cases rb : b.right with
    | false =>
      rw [rb] at s2
      clear s3 s4 s5 ra rb
      refine wp_region_held_drew (S := fun wz => wz.cell? ⟨w.heap.size, 0, none⟩ = some (.int .i64 a.k) ∧ wz.cell? ⟨w.heap.size, 1, none⟩ = some (.int .i64 a.n) ∧ wz.cell? ⟨w.heap.size, 2, none⟩ = some (.slice a2 a.ks.length ca) ∧ wz.cell? ⟨w.heap.size + 1, 0, none⟩ = some (.int .i64 b.k) ∧ wz.cell? ⟨w.heap.size + 1, 1, none⟩ = some (.int .i64 b.n) ∧ wz.cell? ⟨w.heap.size + 1, 2, none⟩ = some (.slice b2 b.ks.length cb) ∧ Below W1.heap.size W1 wz) (by kernel_rfl) hs0.out (fun hS => ?_)
      refine wpAnyH_take (i := 0) (v := ?_) rfl (by kernel_rfl) (by kernel_rfl) (by kernel_rfl) (fun _ _ _ h => h) (Or.inl ⟨by rfl, ?_⟩) hS ?_
      rotate_left
      · intro wz hz; obtain ⟨y0, y1, y2, y3, y4, y5, -⟩ := hz; go_simp; try with_reducible rfl
      try simp only [Act.put, List.setIfInBounds_toArray, List.set_cons_zero, List.set_cons_succ, List.getElem_toArray, List.getElem_cons_succ, List.getElem_cons_zero]
      refine wpAnyH_ready (rs := [1]) (by kernel_rfl) (by simp) (AllReadyH.cons rfl (fun K hK => ?_) AllReadyH.nil)
      go_simp
      refine (s1.out _ (belo6 hS)).mono ?_
      rintro e w1_ ⟨rfl, hb1⟩
      refine hK.out _ _ (keep6 hb1 hS) (fun hS1 => ?_)
      clear hK K hS hb1
      have hS := hS1
      clear hS1
      try simp only [Act.put, List.setIfInBounds_toArray, List.set_cons_zero, List.set_cons_succ, List.getElem_toArray, List.getElem_cons_succ, List.getElem_cons_zero]
      refine wpAnyH_take (i := 2) (v := ?_) rfl (by kernel_rfl) (by kernel_rfl) (by kernel_rfl) (fun _ _ _ h => h) (Or.inl ⟨by rfl, ?_⟩) hS ?_
      rotate_left
      · intro wz hz; obtain ⟨y0, y1, y2, y3, y4, y5, -⟩ := hz; go_simp; try with_reducible rfl
      try simp only [Act.put, List.setIfInBounds_toArray, List.set_cons_zero, List.set_cons_succ, List.getElem_toArray, List.getElem_cons_succ, List.getElem_cons_zero]
      refine wpAnyH_take (i := 3) (v := ?_) rfl (by kernel_rfl) (by kernel_rfl) (by kernel_rfl) (fun _ _ _ h => h) (Or.inl ⟨by rfl, ?_⟩) hS ?_
      rotate_left
      · intro wz hz; obtain ⟨y0, y1, y2, y3, y4, y5, -⟩ := hz; go_simp; try with_reducible rfl
      try simp only [Act.put, List.setIfInBounds_toArray, List.set_cons_zero, List.set_cons_succ, List.getElem_toArray, List.getElem_cons_succ, List.getElem_cons_zero]
      refine wpAnyH_ready (rs := [4]) (by kernel_rfl) (by simp) (AllReadyH.cons rfl (fun K hK => ?_) AllReadyH.nil)
      go_simp
      refine (s2.out _ (belo6 hS)).mono ?_
      rintro e w4_ ⟨rfl, hb4⟩
      refine hK.out _ _ (keep6 hb4 hS) (fun hS4 => ?_)
      clear hK K hS hb4
      have hS := hS4
      clear hS4
      try simp only [Act.put, List.setIfInBounds_toArray, List.set_cons_zero, List.set_cons_succ, List.getElem_toArray, List.getElem_cons_succ, List.getElem_cons_zero]
      refine wpAnyH_take (i := 5) (v := .bool false) rfl (by kernel_rfl) (by kernel_rfl) (by kernel_rfl) (fun _ _ _ h => h) (Or.inl ⟨by rfl, ?_⟩) hS ?_
      · intro wz hz; obtain ⟨y0, y1, y2, y3, y4, y5, -⟩ := hz; go_simp; try with_reducible rfl
      try simp only [Act.put, List.setIfInBounds_toArray, List.set_cons_zero, List.set_cons_succ, List.getElem_toArray, List.getElem_cons_succ, List.getElem_cons_zero]
      refine wpAnyH_take (i := 6) (v := ?_) rfl (by kernel_rfl) (by kernel_rfl) (by kernel_rfl) (fun _ _ _ h => h) (Or.inl ⟨by rfl, ?_⟩) hS ?_
      rotate_left
      · intro wz hz; obtain ⟨y0, y1, y2, y3, y4, y5, -⟩ := hz; go_simp; try with_reducible rfl
      try simp only [Act.put, List.setIfInBounds_toArray, List.set_cons_zero, List.set_cons_succ, List.getElem_toArray, List.getElem_cons_succ, List.getElem_cons_zero]
      refine wpAnyH_take (i := 7) (v := undef) rfl (by kernel_rfl) (by kernel_rfl) (by kernel_rfl) (fun _ _ _ h => h) (Or.inr ⟨by rfl, rfl⟩) hS ?_
      try simp only [Act.put, List.setIfInBounds_toArray, List.set_cons_zero, List.set_cons_succ, List.getElem_toArray, List.getElem_cons_succ, List.getElem_cons_zero]
      refine wpAnyH_take (i := 8) (v := undef) rfl (by kernel_rfl) (by kernel_rfl) (by kernel_rfl) (fun _ _ _ h => h) (Or.inr ⟨by rfl, rfl⟩) hS ?_
      try simp only [Act.put, List.setIfInBounds_toArray, List.set_cons_zero, List.set_cons_succ, List.getElem_toArray, List.getElem_cons_succ, List.getElem_cons_zero]
      refine wpAnyH_take (i := 9) (v := undef) rfl (by kernel_rfl) (by kernel_rfl) (by kernel_rfl) (fun _ _ _ h => h) (Or.inr ⟨by rfl, rfl⟩) hS ?_
      try simp only [Act.put, List.setIfInBounds_toArray, List.set_cons_zero, List.set_cons_succ, List.getElem_toArray, List.getElem_cons_succ, List.getElem_cons_zero]
      refine wpAnyH_take (i := 10) (v := undef) rfl (by kernel_rfl) (by kernel_rfl) (by kernel_rfl) (fun _ _ _ h => h) (Or.inr ⟨by rfl, rfl⟩) hS ?_
      try simp only [Act.put, List.setIfInBounds_toArray, List.set_cons_zero, List.set_cons_succ, List.getElem_toArray, List.getElem_cons_succ, List.getElem_cons_zero]
      refine wpAnyH_take (i := 11) (v := undef) rfl (by kernel_rfl) (by kernel_rfl) (by kernel_rfl) (fun _ _ _ h => h) (Or.inr ⟨by rfl, rfl⟩) hS ?_
      try simp only [Act.put, List.setIfInBounds_toArray, List.set_cons_zero, List.set_cons_succ, List.getElem_toArray, List.getElem_cons_succ, List.getElem_cons_zero]
      refine wpAnyH_take (i := 12) (v := undef) rfl (by kernel_rfl) (by kernel_rfl) (by kernel_rfl) (fun _ _ _ h => h) (Or.inr ⟨by rfl, rfl⟩) hS ?_
      try simp only [Act.put, List.setIfInBounds_toArray, List.set_cons_zero, List.set_cons_succ, List.getElem_toArray, List.getElem_cons_succ, List.getElem_cons_zero]
      refine wpAnyH_take (i := 13) (v := undef) rfl (by kernel_rfl) (by kernel_rfl) (by kernel_rfl) (fun _ _ _ h => h) (Or.inr ⟨by rfl, rfl⟩) hS ?_
      try simp only [Act.put, List.setIfInBounds_toArray, List.set_cons_zero, List.set_cons_succ, List.getElem_toArray, List.getElem_cons_succ, List.getElem_cons_zero]
      refine wpAnyH_take (i := 14) (v := undef) rfl (by kernel_rfl) (by kernel_rfl) (by kernel_rfl) (fun _ _ _ h => h) (Or.inr ⟨by rfl, rfl⟩) hS ?_
      try simp only [Act.put, List.setIfInBounds_toArray, List.set_cons_zero, List.set_cons_succ, List.getElem_toArray, List.getElem_cons_succ, List.getElem_cons_zero]
      refine wpAnyH_take (i := 15) (v := undef) rfl (by kernel_rfl) (by kernel_rfl) (by kernel_rfl) (fun _ _ _ h => h) (Or.inr ⟨by rfl, rfl⟩) hS ?_
      try simp only [Act.put, List.setIfInBounds_toArray, List.set_cons_zero, List.set_cons_succ, List.getElem_toArray, List.getElem_cons_succ, List.getElem_cons_zero]
      refine wpAnyH_take (i := 16) (v := .bool false) rfl (by kernel_rfl) (by kernel_rfl) (by kernel_rfl) (fun _ _ _ h => h) (Or.inl ⟨by rfl, ?_⟩) hS ?_
      · intro wz hz; obtain ⟨y0, y1, y2, y3, y4, y5, -⟩ := hz; go_simp; try with_reducible rfl
      try simp only [Act.put, List.setIfInBounds_toArray, List.set_cons_zero, List.set_cons_succ, List.getElem_toArray, List.getElem_cons_succ, List.getElem_cons_zero]
      refine wpAnyH_done (by kernel_rfl) ?_ _
      all_goals go_wp2_with (go_at_call 8; refine (s7.out _ (belo6 (by assumption))).mono ?_; rintro e wf ⟨rfl, bf⟩)
      all_goals go_ret
      all_goals exact ⟨rfl, bl_tr (bl_tr B1.out (belo6 (by assumption))) bf⟩
    | true =>
      rw [rb] at s2
      replace s4 := Hid.out s4 rb
      have s4 : Hid _ := s4
      have hinj := Tp.text_inj ra rb
      have heq := Tp.cmp_eq a b
      have hst := str_eq ⟨a.text.toArray⟩ ⟨b.text.toArray⟩
      clear ra rb
      by_cases hab : a = b
      · have hc : (Tp.cmp a b == 0) = true := by rw [beq_iff_eq]; exact heq.2 hab
        have ht : (⟨a.text.toArray⟩ : ByteArray) = ⟨b.text.toArray⟩ := by rw [hab]
        rw [hc] at s5
        rw [ht] at s3
        clear hinj heq hst hc ht hab
        generalize (⟨b.text.toArray⟩ : ByteArray) = txt at s3 s4
        go_region_held (fun w' => w'.cell? ⟨w.heap.size, 0, none⟩ = some (.int .i64 a.k) ∧ w'.cell? ⟨w.heap.size, 1, none⟩ = some (.int .i64 a.n) ∧ w'.cell? ⟨w.heap.size, 2, none⟩ = some (.slice a2 a.ks.length ca) ∧ w'.cell? ⟨w.heap.size + 1, 0, none⟩ = some (.int .i64 b.k) ∧ w'.cell? ⟨w.heap.size + 1, 1, none⟩ = some (.int .i64 b.n) ∧ w'.cell? ⟨w.heap.size + 1, 2, none⟩ = some (.slice b2 b.ks.length cb) ∧ Below W1.heap.size W1 w') (first | exact hs0.out | exact keep6 (by assumption) (by assumption)) (first | (go_at_call 11; refine (s1.out _ (belo6 (by assumption))).mono ?_; rintro e wa ⟨rfl, ba⟩; clear s1) | (go_at_call 11; refine (s2.out _ (belo6 (by assumption))).mono ?_; rintro e wb ⟨rfl, bb⟩; clear s2) | (go_at_call 12; refine (s3.out _ (belo6 (by assumption))).mono ?_; rintro e wc ⟨rfl, bc⟩; clear s3) | (go_at_call 12; refine (s4.out _ (belo6 (by assumption))).mono ?_; rintro e wd ⟨rfl, bd⟩; clear s4) | (go_at_call 10; refine (s5.out _ (belo6 (by assumption))).mono ?_; rintro e we ⟨rfl, be⟩; clear s5))
        all_goals go_wp2_with (go_at_call 8; refine (s7.out _ (belo6 (by assumption))).mono ?_; rintro e wf ⟨rfl, bf⟩)
        all_goals go_ret
        all_goals exact ⟨rfl, bl_tr (bl_tr B1.out (belo6 (by assumption))) bf⟩
      · have hc : (Tp.cmp a b == 0) = false := by rw [beq_eq_false_iff_ne]; exact fun h => hab (heq.1 h)
        rw [hc] at s5
        rw [@decide_eq_false _ (Classical.propDecidable _) (fun h => hab (hinj (by have := congrArg (fun x : ByteArray => x.data.toList) h; simpa using this)))] at hst
        clear hinj heq hc hab
        generalize (⟨a.text.toArray⟩ : ByteArray) = t1 at s3 hst
        generalize (⟨b.text.toArray⟩ : ByteArray) = t2 at s4 hst
        go_region_held (fun w' => w'.cell? ⟨w.heap.size, 0, none⟩ = some (.int .i64 a.k) ∧ w'.cell? ⟨w.heap.size, 1, none⟩ = some (.int .i64 a.n) ∧ w'.cell? ⟨w.heap.size, 2, none⟩ = some (.slice a2 a.ks.length ca) ∧ w'.cell? ⟨w.heap.size + 1, 0, none⟩ = some (.int .i64 b.k) ∧ w'.cell? ⟨w.heap.size + 1, 1, none⟩ = some (.int .i64 b.n) ∧ w'.cell? ⟨w.heap.size + 1, 2, none⟩ = some (.slice b2 b.ks.length cb) ∧ Below W1.heap.size W1 w') (first | exact hs0.out | exact keep6 (by assumption) (by assumption)) (first | (go_at_call 11; refine (s1.out _ (belo6 (by assumption))).mono ?_; rintro e wa ⟨rfl, ba⟩; clear s1) | (go_at_call 11; refine (s2.out _ (belo6 (by assumption))).mono ?_; rintro e wb ⟨rfl, bb⟩; clear s2) | (go_at_call 12; refine (s3.out _ (belo6 (by assumption))).mono ?_; rintro e wc ⟨rfl, bc⟩; clear s3) | (go_at_call 12; refine (s4.out _ (belo6 (by assumption))).mono ?_; rintro e wd ⟨rfl, bd⟩; clear s4) | (go_at_call 10; refine (s5.out _ (belo6 (by assumption))).mono ?_; rintro e we ⟨rfl, be⟩; clear s5))
        all_goals go_wp2_with (go_at_call 8; refine (s7.out _ (belo6 (by assumption))).mono ?_; rintro e wf ⟨rfl, bf⟩)
        all_goals go_ret
        all_goals exact ⟨rfl, bl_tr (bl_tr B1.out (belo6 (by assumption))) bf⟩
end Go.Proofs.YtbdohoebpaiecabDoor
