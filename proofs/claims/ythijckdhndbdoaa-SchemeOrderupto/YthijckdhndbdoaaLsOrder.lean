/- SchemeOrder: the walk. -/
import Derived.Test.YthijckdhndbdoaaTsO
import Derived.Test.YthijckdhndbdoaaLsBack
namespace Go.Proofs.Ythijckdhndbdoaa
open Go.RowKit
set_option linter.unusedVariables false
set_option linter.unusedSimpArgs false

set_option maxHeartbeats 8000000 in
set_option maxRecDepth 100000 in
theorem order_ff (w : World) (ga gb gc : Int) (a b c : Tp) (a1 b1 c1 : Option Addr) (a2 b2 c2 : Nat) (hRS : Hid (∀ wz, Below w.heap.size w wz → Calls Try.prog 24 #[.agg #[.int .i64 ga, .int .i64 a.k, .int .i64 a.n, .slice a1 a.ks.length a2]] wz fun e w' => e = .returned (.bool false) ∧ Below wz.heap.size wz w')) (hAA : Hid (∀ wz, Below w.heap.size w wz → Calls Try.prog 17 #[.agg #[.int .i64 ga, .int .i64 a.k, .int .i64 a.n, .slice a1 a.ks.length a2], .agg #[.int .i64 ga, .int .i64 a.k, .int .i64 a.n, .slice a1 a.ks.length a2]] wz fun e w' => e = .returned (.bool false) ∧ Below wz.heap.size wz w')) (hAB : Hid (∀ wz, Below w.heap.size w wz → Calls Try.prog 17 #[.agg #[.int .i64 ga, .int .i64 a.k, .int .i64 a.n, .slice a1 a.ks.length a2], .agg #[.int .i64 gb, .int .i64 b.k, .int .i64 b.n, .slice b1 b.ks.length b2]] wz fun e w' => e = .returned (.bool false) ∧ Below wz.heap.size wz w')) (hAl : Hid (∀ wz, Below w.heap.size w wz → Calls Try.prog 19 #[.agg #[.int .i64 ga, .int .i64 a.k, .int .i64 a.n, .slice a1 a.ks.length a2], .agg #[.int .i64 gb, .int .i64 b.k, .int .i64 b.n, .slice b1 b.ks.length b2]] wz fun e w' => e = .returned (.bool false) ∧ Below wz.heap.size wz w')) (hLive : Hid (∀ wz, Calls Try.prog 13 #[] wz fun e w' => e = .returned (.bool true) ∧ Below wz.heap.size wz w')) :
    Calls Try.prog 6 #[.agg #[.int .i64 ga, .int .i64 a.k, .int .i64 a.n, .slice a1 a.ks.length a2], .agg #[.int .i64 gb, .int .i64 b.k, .int .i64 b.n, .slice b1 b.ks.length b2], .agg #[.int .i64 gc, .int .i64 c.k, .int .i64 c.n, .slice c1 c.ks.length c2]] w fun e w' => e = .returned (.bool true) ∧ Below w.heap.size w w' := by
  have Z := hid ((((st_new w).stays (bl_alloc (bl_alloc (bl_alloc (Below.refl _ _) (.cells #[.int .i64 ga, .int .i64 a.k, .int .i64 a.n, .slice a1 a.ks.length a2] 26)) (.cells #[.int .i64 gb, .int .i64 b.k, .int .i64 b.n, .slice b1 b.ks.length b2] 26)) (.cells #[.int .i64 gc, .int .i64 c.k, .int .i64 c.n, .slice c1 c.ks.length c2] 26))).addA (b := w.heap.size) (T := 26) (cur := [.int .i64 ga, .int .i64 a.k, .int .i64 a.n, .slice a1 a.ks.length a2]) (Arr.stays (Arr.stays ⟨heap_alloc_at _ _⟩ (bl_alloc (Below.refl _ _) _)) (bl_alloc (Below.refl _ _) _))))
  have Z := hid (Z.out.addA (b := w.heap.size + 1) (T := 26) (cur := [.int .i64 gb, .int .i64 b.k, .int .i64 b.n, .slice b1 b.ks.length b2]) (Arr.stays ⟨by have := heap_alloc_at (w.alloc (.cells #[.int .i64 ga, .int .i64 a.k, .int .i64 a.n, .slice a1 a.ks.length a2] 26)) (.cells #[.int .i64 gb, .int .i64 b.k, .int .i64 b.n, .slice b1 b.ks.length b2] 26); rw [size_alloc] at this; exact this⟩ (bl_alloc (Below.refl _ _) _)))
  have Z := hid (Z.out.addA (b := w.heap.size + 1 + 1) (T := 26) (cur := [.int .i64 gc, .int .i64 c.k, .int .i64 c.n, .slice c1 c.ks.length c2]) ⟨by have := heap_alloc_at ((w.alloc (.cells #[.int .i64 ga, .int .i64 a.k, .int .i64 a.n, .slice a1 a.ks.length a2] 26)).alloc (.cells #[.int .i64 gb, .int .i64 b.k, .int .i64 b.n, .slice b1 b.ks.length b2] 26)) (.cells #[.int .i64 gc, .int .i64 c.k, .int .i64 c.n, .slice c1 c.ks.length c2] 26); rw [size_alloc, size_alloc] at this; exact this⟩)
  obtain ⟨P, Z, ka, kb, kc, kB⟩ : ∃ P : World → Prop, Hid (St P (((w.alloc (.cells #[.int .i64 ga, .int .i64 a.k, .int .i64 a.n, .slice a1 a.ks.length a2] 26)).alloc (.cells #[.int .i64 gb, .int .i64 b.k, .int .i64 b.n, .slice b1 b.ks.length b2] 26)).alloc (.cells #[.int .i64 gc, .int .i64 c.k, .int .i64 c.n, .slice c1 c.ks.length c2] 26))) ∧ Hid (∀ W, P W → ∀ j : Nat, W.cell? ⟨w.heap.size, j, none⟩ = [.int .i64 ga, .int .i64 a.k, .int .i64 a.n, .slice a1 a.ks.length a2][j]?) ∧ Hid (∀ W, P W → ∀ j : Nat, W.cell? ⟨w.heap.size + 1, j, none⟩ = [.int .i64 gb, .int .i64 b.k, .int .i64 b.n, .slice b1 b.ks.length b2][j]?) ∧ Hid (∀ W, P W → ∀ j : Nat, W.cell? ⟨w.heap.size + 1 + 1, j, none⟩ = [.int .i64 gc, .int .i64 c.k, .int .i64 c.n, .slice c1 c.ks.length c2][j]?) ∧ Hid (∀ W, P W → Below w.heap.size w W) :=
    ⟨_, Z, fun W h => h.1.1.2.cell, fun W h => h.1.2.cell, fun W h => h.2.cell, fun W h => h.1.1.1⟩
  have m1 : Hid True := trivial
  have m2 : Hid True := trivial
  have m3 : Hid True := trivial
  have m4 : Hid True := trivial
  go_enter Try.func6, Try.ntmps6
  go_wp2_with (first | (go_at_call 24; have := m1; refine (hRS.out _ (kB.out _ Z.out.here)).mono ?_; rintro e w1 ⟨rfl, hb1⟩; have Z1 := hid (Z.out.stays hb1); have x1 := ka.out _ Z1.out.here; have y1 := kb.out _ Z1.out.here; have z1 := kc.out _ Z1.out.here; clear hb1 m1) | (go_at_call 24; have := m2; refine (hRS.out _ (kB.out _ Z1.out.here)).mono ?_; rintro e w2 ⟨rfl, hb2⟩; have Z2 := hid (Z1.out.stays hb2); have x2 := ka.out _ Z2.out.here; have y2 := kb.out _ Z2.out.here; have z2 := kc.out _ Z2.out.here; clear hb2 m2) | (go_at_call 17; have := m3; refine (hAA.out _ (kB.out _ Z2.out.here)).mono ?_; rintro e w3 ⟨rfl, hb3⟩; have Z3 := hid (Z2.out.stays hb3); have x3 := ka.out _ Z3.out.here; have y3 := kb.out _ Z3.out.here; have z3 := kc.out _ Z3.out.here; clear hb3 m3) | (go_at_call 17; have := m4; refine (hAB.out _ (kB.out _ Z3.out.here)).mono ?_; rintro e w4 ⟨rfl, hb4⟩; have Z4 := hid (Z3.out.stays hb4); have x4 := ka.out _ Z4.out.here; have y4 := kb.out _ Z4.out.here; have z4 := kc.out _ Z4.out.here; clear hb4 m4))
  have mkS : Hid (∀ wz, St P wz → (∀ j : Nat, wz.cell? ⟨w.heap.size, j, none⟩ = [.int .i64 ga, .int .i64 a.k, .int .i64 a.n, .slice a1 a.ks.length a2][j]?) ∧ (∀ j : Nat, wz.cell? ⟨w.heap.size + 1, j, none⟩ = [.int .i64 gb, .int .i64 b.k, .int .i64 b.n, .slice b1 b.ks.length b2][j]?) ∧ St P wz) := fun wz h => ⟨ka.out wz h.here, kb.out wz h.here, h⟩
  have hs0 := hid (mkS.out _ (Z4.out.stays (Below.refl _ _).drew))
  clear x1 y1 z1 x2 y2 z2 x3 y3 z3 x4 y4 z4
  refine wp_region_held_drew (S := fun wz => (∀ j : Nat, wz.cell? ⟨w.heap.size, j, none⟩ = [.int .i64 ga, .int .i64 a.k, .int .i64 a.n, .slice a1 a.ks.length a2][j]?) ∧ (∀ j : Nat, wz.cell? ⟨w.heap.size + 1, j, none⟩ = [.int .i64 gb, .int .i64 b.k, .int .i64 b.n, .slice b1 b.ks.length b2][j]?) ∧ St P wz) (by kernel_rfl) (hs0.out) (fun hS => ?_)
  refine wpAnyH_take (i := 0) (v := ?_) rfl (by kernel_rfl) (by kernel_rfl) (by kernel_rfl) (fun _ _ _ h => h) (Or.inl ⟨by rfl, ?_⟩) hS ?_
  rotate_left
  · intro wz hz; obtain ⟨zz0, zz1, zz2⟩ := hz; go_simp; try with_reducible rfl
  try simp only [Act.put, List.setIfInBounds_toArray, List.set_cons_zero, List.set_cons_succ, List.getElem_toArray, List.getElem_cons_succ, List.getElem_cons_zero]
  refine wpAnyH_take (i := 1) (v := ?_) rfl (by kernel_rfl) (by kernel_rfl) (by kernel_rfl) (fun _ _ _ h => h) (Or.inl ⟨by rfl, ?_⟩) hS ?_
  rotate_left
  · intro wz hz; obtain ⟨zz0, zz1, zz2⟩ := hz; go_simp; try with_reducible rfl
  try simp only [Act.put, List.setIfInBounds_toArray, List.set_cons_zero, List.set_cons_succ, List.getElem_toArray, List.getElem_cons_succ, List.getElem_cons_zero]
  refine wpAnyH_take (i := 3) (v := ?_) rfl (by kernel_rfl) (by kernel_rfl) (by kernel_rfl) (fun _ _ _ h => h) (Or.inl ⟨by rfl, ?_⟩) hS ?_
  rotate_left
  · intro wz hz; obtain ⟨zz0, zz1, zz2⟩ := hz; go_simp; try with_reducible rfl
  try simp only [Act.put, List.setIfInBounds_toArray, List.set_cons_zero, List.set_cons_succ, List.getElem_toArray, List.getElem_cons_succ, List.getElem_cons_zero]
  refine wpAnyH_take (i := 4) (v := ?_) rfl (by kernel_rfl) (by kernel_rfl) (by kernel_rfl) (fun _ _ _ h => h) (Or.inl ⟨by rfl, ?_⟩) hS ?_
  rotate_left
  · intro wz hz; obtain ⟨zz0, zz1, zz2⟩ := hz; go_simp; try with_reducible rfl
  try simp only [Act.put, List.setIfInBounds_toArray, List.set_cons_zero, List.set_cons_succ, List.getElem_toArray, List.getElem_cons_succ, List.getElem_cons_zero]
  refine wpAnyH_ready (rs := [2]) (by kernel_rfl) (by simp) (AllReadyH.cons rfl (fun K hK => ?_) AllReadyH.nil)
  go_simp
  refine (hAl.out _ (kB.out _ (st2T hS).here)).mono ?_
  rintro e u2 ⟨rfl, hv2⟩
  have hS2 := mkS.out _ ((st2T hS).stays hv2)
  refine hK.out _ _ (hS2) (fun hSn => ?_)
  clear hK K hS
  have hS := hSn
  clear hSn
  try simp only [Act.put, List.setIfInBounds_toArray, List.set_cons_zero, List.set_cons_succ, List.getElem_toArray, List.getElem_cons_succ, List.getElem_cons_zero]
  refine wpAnyH_ready (rs := [5]) (by kernel_rfl) (by simp) (AllReadyH.cons rfl (fun K hK => ?_) AllReadyH.nil)
  go_simp
  refine (hAB.out _ (kB.out _ (st2T hS).here)).mono ?_
  rintro e u5 ⟨rfl, hv5⟩
  have hS5 := mkS.out _ ((st2T hS).stays hv5)
  refine hK.out _ _ (hS5) (fun hSn => ?_)
  clear hK K hS
  have hS := hSn
  clear hSn
  try simp only [Act.put, List.setIfInBounds_toArray, List.set_cons_zero, List.set_cons_succ, List.getElem_toArray, List.getElem_cons_succ, List.getElem_cons_zero]
  refine wpAnyH_take (i := 6) (v := ?_) rfl (by kernel_rfl) (by kernel_rfl) (by kernel_rfl) (fun _ _ _ h => h) (Or.inl ⟨by rfl, ?_⟩) hS ?_
  rotate_left
  · intro wz hz; go_simp; try with_reducible rfl
  try simp only [Act.put, List.setIfInBounds_toArray, List.set_cons_zero, List.set_cons_succ, List.getElem_toArray, List.getElem_cons_succ, List.getElem_cons_zero]
  refine wpAnyH_take (i := 7) (v := undef) rfl (by kernel_rfl) (by kernel_rfl) (by kernel_rfl) (fun _ _ _ h => h) (Or.inr ⟨by rfl, rfl⟩) hS ?_
  try simp only [Act.put, List.setIfInBounds_toArray, List.set_cons_zero, List.set_cons_succ, List.getElem_toArray, List.getElem_cons_succ, List.getElem_cons_zero]
  refine wpAnyH_take (i := 8) (v := undef) rfl (by kernel_rfl) (by kernel_rfl) (by kernel_rfl) (fun _ _ _ h => h) (Or.inr ⟨by rfl, rfl⟩) hS ?_
  try simp only [Act.put, List.setIfInBounds_toArray, List.set_cons_zero, List.set_cons_succ, List.getElem_toArray, List.getElem_cons_succ, List.getElem_cons_zero]
  refine wpAnyH_take (i := 9) (v := undef) rfl (by kernel_rfl) (by kernel_rfl) (by kernel_rfl) (fun _ _ _ h => h) (Or.inr ⟨by rfl, rfl⟩) hS ?_
  try simp only [Act.put, List.setIfInBounds_toArray, List.set_cons_zero, List.set_cons_succ, List.getElem_toArray, List.getElem_cons_succ, List.getElem_cons_zero]
  refine wpAnyH_take (i := 10) (v := ?_) rfl (by kernel_rfl) (by kernel_rfl) (by kernel_rfl) (fun _ _ _ h => h) (Or.inl ⟨by rfl, ?_⟩) hS ?_
  rotate_left
  · intro wz hz; go_simp; try with_reducible rfl
  try simp only [Act.put, List.setIfInBounds_toArray, List.set_cons_zero, List.set_cons_succ, List.getElem_toArray, List.getElem_cons_succ, List.getElem_cons_zero]
  refine wpAnyH_take (i := 11) (v := ?_) rfl (by kernel_rfl) (by kernel_rfl) (by kernel_rfl) (fun _ _ _ h => h) (Or.inl ⟨by rfl, ?_⟩) hS ?_
  rotate_left
  · intro wz hz; go_simp; try with_reducible rfl
  try simp only [Act.put, List.setIfInBounds_toArray, List.set_cons_zero, List.set_cons_succ, List.getElem_toArray, List.getElem_cons_succ, List.getElem_cons_zero]
  refine wpAnyH_take (i := 12) (v := ?_) rfl (by kernel_rfl) (by kernel_rfl) (by kernel_rfl) (fun _ _ _ h => h) (Or.inl ⟨by rfl, ?_⟩) hS ?_
  rotate_left
  · intro wz hz; go_simp; try with_reducible rfl
  try simp only [Act.put, List.setIfInBounds_toArray, List.set_cons_zero, List.set_cons_succ, List.getElem_toArray, List.getElem_cons_succ, List.getElem_cons_zero]
  refine wpAnyH_take (i := 13) (v := ?_) rfl (by kernel_rfl) (by kernel_rfl) (by kernel_rfl) (fun _ _ _ h => h) (Or.inl ⟨by rfl, ?_⟩) hS ?_
  rotate_left
  · intro wz hz; obtain ⟨zz0, zz1, zz2⟩ := hz; go_simp; try with_reducible rfl
  try simp only [Act.put, List.setIfInBounds_toArray, List.set_cons_zero, List.set_cons_succ, List.getElem_toArray, List.getElem_cons_succ, List.getElem_cons_zero]
  refine wpAnyH_take (i := 14) (v := ?_) rfl (by kernel_rfl) (by kernel_rfl) (by kernel_rfl) (fun _ _ _ h => h) (Or.inl ⟨by rfl, ?_⟩) hS ?_
  rotate_left
  · intro wz hz; obtain ⟨zz0, zz1, zz2⟩ := hz; go_simp; try with_reducible rfl
  try simp only [Act.put, List.setIfInBounds_toArray, List.set_cons_zero, List.set_cons_succ, List.getElem_toArray, List.getElem_cons_succ, List.getElem_cons_zero]
  refine wpAnyH_ready (rs := [15]) (by kernel_rfl) (by simp) (AllReadyH.cons rfl (fun K hK => ?_) AllReadyH.nil)
  go_simp
  refine (hAl.out _ (kB.out _ (st2T hS).here)).mono ?_
  rintro e u15 ⟨rfl, hv15⟩
  have hS15 := mkS.out _ ((st2T hS).stays hv15)
  refine hK.out _ _ (hS15) (fun hSn => ?_)
  clear hK K hS
  have hS := hSn
  clear hSn
  try simp only [Act.put, List.setIfInBounds_toArray, List.set_cons_zero, List.set_cons_succ, List.getElem_toArray, List.getElem_cons_succ, List.getElem_cons_zero]
  refine wpAnyH_take (i := 16) (v := ?_) rfl (by kernel_rfl) (by kernel_rfl) (by kernel_rfl) (fun _ _ _ h => h) (Or.inl ⟨by rfl, ?_⟩) hS ?_
  rotate_left
  · intro wz hz; go_simp; try with_reducible rfl
  try simp only [Act.put, List.setIfInBounds_toArray, List.set_cons_zero, List.set_cons_succ, List.getElem_toArray, List.getElem_cons_succ, List.getElem_cons_zero]
  refine wpAnyH_take (i := 17) (v := undef) rfl (by kernel_rfl) (by kernel_rfl) (by kernel_rfl) (fun _ _ _ h => h) (Or.inr ⟨by rfl, rfl⟩) hS ?_
  try simp only [Act.put, List.setIfInBounds_toArray, List.set_cons_zero, List.set_cons_succ, List.getElem_toArray, List.getElem_cons_succ, List.getElem_cons_zero]
  refine wpAnyH_take (i := 18) (v := undef) rfl (by kernel_rfl) (by kernel_rfl) (by kernel_rfl) (fun _ _ _ h => h) (Or.inr ⟨by rfl, rfl⟩) hS ?_
  try simp only [Act.put, List.setIfInBounds_toArray, List.set_cons_zero, List.set_cons_succ, List.getElem_toArray, List.getElem_cons_succ, List.getElem_cons_zero]
  refine wpAnyH_take (i := 19) (v := undef) rfl (by kernel_rfl) (by kernel_rfl) (by kernel_rfl) (fun _ _ _ h => h) (Or.inr ⟨by rfl, rfl⟩) hS ?_
  try simp only [Act.put, List.setIfInBounds_toArray, List.set_cons_zero, List.set_cons_succ, List.getElem_toArray, List.getElem_cons_succ, List.getElem_cons_zero]
  refine wpAnyH_take (i := 20) (v := undef) rfl (by kernel_rfl) (by kernel_rfl) (by kernel_rfl) (fun _ _ _ h => h) (Or.inr ⟨by rfl, rfl⟩) hS ?_
  try simp only [Act.put, List.setIfInBounds_toArray, List.set_cons_zero, List.set_cons_succ, List.getElem_toArray, List.getElem_cons_succ, List.getElem_cons_zero]
  refine wpAnyH_take (i := 21) (v := undef) rfl (by kernel_rfl) (by kernel_rfl) (by kernel_rfl) (fun _ _ _ h => h) (Or.inr ⟨by rfl, rfl⟩) hS ?_
  try simp only [Act.put, List.setIfInBounds_toArray, List.set_cons_zero, List.set_cons_succ, List.getElem_toArray, List.getElem_cons_succ, List.getElem_cons_zero]
  refine wpAnyH_take (i := 22) (v := undef) rfl (by kernel_rfl) (by kernel_rfl) (by kernel_rfl) (fun _ _ _ h => h) (Or.inr ⟨by rfl, rfl⟩) hS ?_
  try simp only [Act.put, List.setIfInBounds_toArray, List.set_cons_zero, List.set_cons_succ, List.getElem_toArray, List.getElem_cons_succ, List.getElem_cons_zero]
  refine wpAnyH_take (i := 23) (v := ?_) rfl (by kernel_rfl) (by kernel_rfl) (by kernel_rfl) (fun _ _ _ h => h) (Or.inl ⟨by rfl, ?_⟩) hS ?_
  rotate_left
  · intro wz hz; go_simp; try with_reducible rfl
  try simp only [Act.put, List.setIfInBounds_toArray, List.set_cons_zero, List.set_cons_succ, List.getElem_toArray, List.getElem_cons_succ, List.getElem_cons_zero]
  refine wpAnyH_take (i := 24) (v := ?_) rfl (by kernel_rfl) (by kernel_rfl) (by kernel_rfl) (fun _ _ _ h => h) (Or.inl ⟨by rfl, ?_⟩) hS ?_
  rotate_left
  · intro wz hz; go_simp; try with_reducible rfl
  try simp only [Act.put, List.setIfInBounds_toArray, List.set_cons_zero, List.set_cons_succ, List.getElem_toArray, List.getElem_cons_succ, List.getElem_cons_zero]
  refine wpAnyH_done (by kernel_rfl) ?_ _
  have HZ := hid (st2T hS)
  clear hS
  go_wp2_with (go_at_call 13; refine (hLive.out _).mono ?_; rintro e wl ⟨rfl, hbl⟩; have HE := hid (bl_tr (kB.out _ HZ.out.here) hbl); clear hbl)
  go_ret
  exact ⟨rfl, HE.out⟩

set_option maxHeartbeats 8000000 in
set_option maxRecDepth 100000 in
theorem order_tf (w : World) (ga gb gc : Int) (a b c : Tp) (a1 b1 c1 : Option Addr) (a2 b2 c2 : Nat) (hRS : Hid (∀ wz, Below w.heap.size w wz → Calls Try.prog 24 #[.agg #[.int .i64 ga, .int .i64 a.k, .int .i64 a.n, .slice a1 a.ks.length a2]] wz fun e w' => e = .returned (.bool true) ∧ Below wz.heap.size wz w')) (hAA : Hid (∀ wz, Below w.heap.size w wz → Calls Try.prog 17 #[.agg #[.int .i64 ga, .int .i64 a.k, .int .i64 a.n, .slice a1 a.ks.length a2], .agg #[.int .i64 ga, .int .i64 a.k, .int .i64 a.n, .slice a1 a.ks.length a2]] wz fun e w' => e = .returned (.bool true) ∧ Below wz.heap.size wz w')) (hAB : Hid (∀ wz, Below w.heap.size w wz → Calls Try.prog 17 #[.agg #[.int .i64 ga, .int .i64 a.k, .int .i64 a.n, .slice a1 a.ks.length a2], .agg #[.int .i64 gb, .int .i64 b.k, .int .i64 b.n, .slice b1 b.ks.length b2]] wz fun e w' => e = .returned (.bool false) ∧ Below wz.heap.size wz w')) (hAl : Hid (∀ wz, Below w.heap.size w wz → Calls Try.prog 19 #[.agg #[.int .i64 ga, .int .i64 a.k, .int .i64 a.n, .slice a1 a.ks.length a2], .agg #[.int .i64 gb, .int .i64 b.k, .int .i64 b.n, .slice b1 b.ks.length b2]] wz fun e w' => e = .returned (.bool false) ∧ Below wz.heap.size wz w')) (hLive : Hid (∀ wz, Calls Try.prog 13 #[] wz fun e w' => e = .returned (.bool true) ∧ Below wz.heap.size wz w')) :
    Calls Try.prog 6 #[.agg #[.int .i64 ga, .int .i64 a.k, .int .i64 a.n, .slice a1 a.ks.length a2], .agg #[.int .i64 gb, .int .i64 b.k, .int .i64 b.n, .slice b1 b.ks.length b2], .agg #[.int .i64 gc, .int .i64 c.k, .int .i64 c.n, .slice c1 c.ks.length c2]] w fun e w' => e = .returned (.bool true) ∧ Below w.heap.size w w' := by
  have Z := hid ((((st_new w).stays (bl_alloc (bl_alloc (bl_alloc (Below.refl _ _) (.cells #[.int .i64 ga, .int .i64 a.k, .int .i64 a.n, .slice a1 a.ks.length a2] 26)) (.cells #[.int .i64 gb, .int .i64 b.k, .int .i64 b.n, .slice b1 b.ks.length b2] 26)) (.cells #[.int .i64 gc, .int .i64 c.k, .int .i64 c.n, .slice c1 c.ks.length c2] 26))).addA (b := w.heap.size) (T := 26) (cur := [.int .i64 ga, .int .i64 a.k, .int .i64 a.n, .slice a1 a.ks.length a2]) (Arr.stays (Arr.stays ⟨heap_alloc_at _ _⟩ (bl_alloc (Below.refl _ _) _)) (bl_alloc (Below.refl _ _) _))))
  have Z := hid (Z.out.addA (b := w.heap.size + 1) (T := 26) (cur := [.int .i64 gb, .int .i64 b.k, .int .i64 b.n, .slice b1 b.ks.length b2]) (Arr.stays ⟨by have := heap_alloc_at (w.alloc (.cells #[.int .i64 ga, .int .i64 a.k, .int .i64 a.n, .slice a1 a.ks.length a2] 26)) (.cells #[.int .i64 gb, .int .i64 b.k, .int .i64 b.n, .slice b1 b.ks.length b2] 26); rw [size_alloc] at this; exact this⟩ (bl_alloc (Below.refl _ _) _)))
  have Z := hid (Z.out.addA (b := w.heap.size + 1 + 1) (T := 26) (cur := [.int .i64 gc, .int .i64 c.k, .int .i64 c.n, .slice c1 c.ks.length c2]) ⟨by have := heap_alloc_at ((w.alloc (.cells #[.int .i64 ga, .int .i64 a.k, .int .i64 a.n, .slice a1 a.ks.length a2] 26)).alloc (.cells #[.int .i64 gb, .int .i64 b.k, .int .i64 b.n, .slice b1 b.ks.length b2] 26)) (.cells #[.int .i64 gc, .int .i64 c.k, .int .i64 c.n, .slice c1 c.ks.length c2] 26); rw [size_alloc, size_alloc] at this; exact this⟩)
  obtain ⟨P, Z, ka, kb, kc, kB⟩ : ∃ P : World → Prop, Hid (St P (((w.alloc (.cells #[.int .i64 ga, .int .i64 a.k, .int .i64 a.n, .slice a1 a.ks.length a2] 26)).alloc (.cells #[.int .i64 gb, .int .i64 b.k, .int .i64 b.n, .slice b1 b.ks.length b2] 26)).alloc (.cells #[.int .i64 gc, .int .i64 c.k, .int .i64 c.n, .slice c1 c.ks.length c2] 26))) ∧ Hid (∀ W, P W → ∀ j : Nat, W.cell? ⟨w.heap.size, j, none⟩ = [.int .i64 ga, .int .i64 a.k, .int .i64 a.n, .slice a1 a.ks.length a2][j]?) ∧ Hid (∀ W, P W → ∀ j : Nat, W.cell? ⟨w.heap.size + 1, j, none⟩ = [.int .i64 gb, .int .i64 b.k, .int .i64 b.n, .slice b1 b.ks.length b2][j]?) ∧ Hid (∀ W, P W → ∀ j : Nat, W.cell? ⟨w.heap.size + 1 + 1, j, none⟩ = [.int .i64 gc, .int .i64 c.k, .int .i64 c.n, .slice c1 c.ks.length c2][j]?) ∧ Hid (∀ W, P W → Below w.heap.size w W) :=
    ⟨_, Z, fun W h => h.1.1.2.cell, fun W h => h.1.2.cell, fun W h => h.2.cell, fun W h => h.1.1.1⟩
  have m1 : Hid True := trivial
  have m2 : Hid True := trivial
  have m3 : Hid True := trivial
  have m4 : Hid True := trivial
  go_enter Try.func6, Try.ntmps6
  go_wp2_with (first | (go_at_call 24; have := m1; refine (hRS.out _ (kB.out _ Z.out.here)).mono ?_; rintro e w1 ⟨rfl, hb1⟩; have Z1 := hid (Z.out.stays hb1); have x1 := ka.out _ Z1.out.here; have y1 := kb.out _ Z1.out.here; have z1 := kc.out _ Z1.out.here; clear hb1 m1) | (go_at_call 17; have := m2; refine (hAA.out _ (kB.out _ Z1.out.here)).mono ?_; rintro e w2 ⟨rfl, hb2⟩; have Z2 := hid (Z1.out.stays hb2); have x2 := ka.out _ Z2.out.here; have y2 := kb.out _ Z2.out.here; have z2 := kc.out _ Z2.out.here; clear hb2 m2) | (go_at_call 24; have := m3; refine (hRS.out _ (kB.out _ Z2.out.here)).mono ?_; rintro e w3 ⟨rfl, hb3⟩; have Z3 := hid (Z2.out.stays hb3); have x3 := ka.out _ Z3.out.here; have y3 := kb.out _ Z3.out.here; have z3 := kc.out _ Z3.out.here; clear hb3 m3) | (go_at_call 17; have := m4; refine (hAB.out _ (kB.out _ Z3.out.here)).mono ?_; rintro e w4 ⟨rfl, hb4⟩; have Z4 := hid (Z3.out.stays hb4); have x4 := ka.out _ Z4.out.here; have y4 := kb.out _ Z4.out.here; have z4 := kc.out _ Z4.out.here; clear hb4 m4))
  have mkS : Hid (∀ wz, St P wz → (∀ j : Nat, wz.cell? ⟨w.heap.size, j, none⟩ = [.int .i64 ga, .int .i64 a.k, .int .i64 a.n, .slice a1 a.ks.length a2][j]?) ∧ (∀ j : Nat, wz.cell? ⟨w.heap.size + 1, j, none⟩ = [.int .i64 gb, .int .i64 b.k, .int .i64 b.n, .slice b1 b.ks.length b2][j]?) ∧ St P wz) := fun wz h => ⟨ka.out wz h.here, kb.out wz h.here, h⟩
  have hs0 := hid (mkS.out _ (Z4.out.stays (Below.refl _ _).drew))
  clear x1 y1 z1 x2 y2 z2 x3 y3 z3 x4 y4 z4
  refine wp_region_held_drew (S := fun wz => (∀ j : Nat, wz.cell? ⟨w.heap.size, j, none⟩ = [.int .i64 ga, .int .i64 a.k, .int .i64 a.n, .slice a1 a.ks.length a2][j]?) ∧ (∀ j : Nat, wz.cell? ⟨w.heap.size + 1, j, none⟩ = [.int .i64 gb, .int .i64 b.k, .int .i64 b.n, .slice b1 b.ks.length b2][j]?) ∧ St P wz) (by kernel_rfl) (hs0.out) (fun hS => ?_)
  refine wpAnyH_take (i := 0) (v := ?_) rfl (by kernel_rfl) (by kernel_rfl) (by kernel_rfl) (fun _ _ _ h => h) (Or.inl ⟨by rfl, ?_⟩) hS ?_
  rotate_left
  · intro wz hz; obtain ⟨zz0, zz1, zz2⟩ := hz; go_simp; try with_reducible rfl
  try simp only [Act.put, List.setIfInBounds_toArray, List.set_cons_zero, List.set_cons_succ, List.getElem_toArray, List.getElem_cons_succ, List.getElem_cons_zero]
  refine wpAnyH_take (i := 1) (v := ?_) rfl (by kernel_rfl) (by kernel_rfl) (by kernel_rfl) (fun _ _ _ h => h) (Or.inl ⟨by rfl, ?_⟩) hS ?_
  rotate_left
  · intro wz hz; obtain ⟨zz0, zz1, zz2⟩ := hz; go_simp; try with_reducible rfl
  try simp only [Act.put, List.setIfInBounds_toArray, List.set_cons_zero, List.set_cons_succ, List.getElem_toArray, List.getElem_cons_succ, List.getElem_cons_zero]
  refine wpAnyH_take (i := 3) (v := ?_) rfl (by kernel_rfl) (by kernel_rfl) (by kernel_rfl) (fun _ _ _ h => h) (Or.inl ⟨by rfl, ?_⟩) hS ?_
  rotate_left
  · intro wz hz; obtain ⟨zz0, zz1, zz2⟩ := hz; go_simp; try with_reducible rfl
  try simp only [Act.put, List.setIfInBounds_toArray, List.set_cons_zero, List.set_cons_succ, List.getElem_toArray, List.getElem_cons_succ, List.getElem_cons_zero]
  refine wpAnyH_take (i := 4) (v := ?_) rfl (by kernel_rfl) (by kernel_rfl) (by kernel_rfl) (fun _ _ _ h => h) (Or.inl ⟨by rfl, ?_⟩) hS ?_
  rotate_left
  · intro wz hz; obtain ⟨zz0, zz1, zz2⟩ := hz; go_simp; try with_reducible rfl
  try simp only [Act.put, List.setIfInBounds_toArray, List.set_cons_zero, List.set_cons_succ, List.getElem_toArray, List.getElem_cons_succ, List.getElem_cons_zero]
  refine wpAnyH_ready (rs := [2]) (by kernel_rfl) (by simp) (AllReadyH.cons rfl (fun K hK => ?_) AllReadyH.nil)
  go_simp
  refine (hAl.out _ (kB.out _ (st2T hS).here)).mono ?_
  rintro e u2 ⟨rfl, hv2⟩
  have hS2 := mkS.out _ ((st2T hS).stays hv2)
  refine hK.out _ _ (hS2) (fun hSn => ?_)
  clear hK K hS
  have hS := hSn
  clear hSn
  try simp only [Act.put, List.setIfInBounds_toArray, List.set_cons_zero, List.set_cons_succ, List.getElem_toArray, List.getElem_cons_succ, List.getElem_cons_zero]
  refine wpAnyH_ready (rs := [5]) (by kernel_rfl) (by simp) (AllReadyH.cons rfl (fun K hK => ?_) AllReadyH.nil)
  go_simp
  refine (hAB.out _ (kB.out _ (st2T hS).here)).mono ?_
  rintro e u5 ⟨rfl, hv5⟩
  have hS5 := mkS.out _ ((st2T hS).stays hv5)
  refine hK.out _ _ (hS5) (fun hSn => ?_)
  clear hK K hS
  have hS := hSn
  clear hSn
  try simp only [Act.put, List.setIfInBounds_toArray, List.set_cons_zero, List.set_cons_succ, List.getElem_toArray, List.getElem_cons_succ, List.getElem_cons_zero]
  refine wpAnyH_take (i := 6) (v := ?_) rfl (by kernel_rfl) (by kernel_rfl) (by kernel_rfl) (fun _ _ _ h => h) (Or.inl ⟨by rfl, ?_⟩) hS ?_
  rotate_left
  · intro wz hz; go_simp; try with_reducible rfl
  try simp only [Act.put, List.setIfInBounds_toArray, List.set_cons_zero, List.set_cons_succ, List.getElem_toArray, List.getElem_cons_succ, List.getElem_cons_zero]
  refine wpAnyH_take (i := 7) (v := undef) rfl (by kernel_rfl) (by kernel_rfl) (by kernel_rfl) (fun _ _ _ h => h) (Or.inr ⟨by rfl, rfl⟩) hS ?_
  try simp only [Act.put, List.setIfInBounds_toArray, List.set_cons_zero, List.set_cons_succ, List.getElem_toArray, List.getElem_cons_succ, List.getElem_cons_zero]
  refine wpAnyH_take (i := 8) (v := undef) rfl (by kernel_rfl) (by kernel_rfl) (by kernel_rfl) (fun _ _ _ h => h) (Or.inr ⟨by rfl, rfl⟩) hS ?_
  try simp only [Act.put, List.setIfInBounds_toArray, List.set_cons_zero, List.set_cons_succ, List.getElem_toArray, List.getElem_cons_succ, List.getElem_cons_zero]
  refine wpAnyH_take (i := 9) (v := undef) rfl (by kernel_rfl) (by kernel_rfl) (by kernel_rfl) (fun _ _ _ h => h) (Or.inr ⟨by rfl, rfl⟩) hS ?_
  try simp only [Act.put, List.setIfInBounds_toArray, List.set_cons_zero, List.set_cons_succ, List.getElem_toArray, List.getElem_cons_succ, List.getElem_cons_zero]
  refine wpAnyH_take (i := 10) (v := ?_) rfl (by kernel_rfl) (by kernel_rfl) (by kernel_rfl) (fun _ _ _ h => h) (Or.inl ⟨by rfl, ?_⟩) hS ?_
  rotate_left
  · intro wz hz; go_simp; try with_reducible rfl
  try simp only [Act.put, List.setIfInBounds_toArray, List.set_cons_zero, List.set_cons_succ, List.getElem_toArray, List.getElem_cons_succ, List.getElem_cons_zero]
  refine wpAnyH_take (i := 11) (v := ?_) rfl (by kernel_rfl) (by kernel_rfl) (by kernel_rfl) (fun _ _ _ h => h) (Or.inl ⟨by rfl, ?_⟩) hS ?_
  rotate_left
  · intro wz hz; go_simp; try with_reducible rfl
  try simp only [Act.put, List.setIfInBounds_toArray, List.set_cons_zero, List.set_cons_succ, List.getElem_toArray, List.getElem_cons_succ, List.getElem_cons_zero]
  refine wpAnyH_take (i := 12) (v := ?_) rfl (by kernel_rfl) (by kernel_rfl) (by kernel_rfl) (fun _ _ _ h => h) (Or.inl ⟨by rfl, ?_⟩) hS ?_
  rotate_left
  · intro wz hz; go_simp; try with_reducible rfl
  try simp only [Act.put, List.setIfInBounds_toArray, List.set_cons_zero, List.set_cons_succ, List.getElem_toArray, List.getElem_cons_succ, List.getElem_cons_zero]
  refine wpAnyH_take (i := 13) (v := ?_) rfl (by kernel_rfl) (by kernel_rfl) (by kernel_rfl) (fun _ _ _ h => h) (Or.inl ⟨by rfl, ?_⟩) hS ?_
  rotate_left
  · intro wz hz; obtain ⟨zz0, zz1, zz2⟩ := hz; go_simp; try with_reducible rfl
  try simp only [Act.put, List.setIfInBounds_toArray, List.set_cons_zero, List.set_cons_succ, List.getElem_toArray, List.getElem_cons_succ, List.getElem_cons_zero]
  refine wpAnyH_take (i := 14) (v := ?_) rfl (by kernel_rfl) (by kernel_rfl) (by kernel_rfl) (fun _ _ _ h => h) (Or.inl ⟨by rfl, ?_⟩) hS ?_
  rotate_left
  · intro wz hz; obtain ⟨zz0, zz1, zz2⟩ := hz; go_simp; try with_reducible rfl
  try simp only [Act.put, List.setIfInBounds_toArray, List.set_cons_zero, List.set_cons_succ, List.getElem_toArray, List.getElem_cons_succ, List.getElem_cons_zero]
  refine wpAnyH_ready (rs := [15]) (by kernel_rfl) (by simp) (AllReadyH.cons rfl (fun K hK => ?_) AllReadyH.nil)
  go_simp
  refine (hAl.out _ (kB.out _ (st2T hS).here)).mono ?_
  rintro e u15 ⟨rfl, hv15⟩
  have hS15 := mkS.out _ ((st2T hS).stays hv15)
  refine hK.out _ _ (hS15) (fun hSn => ?_)
  clear hK K hS
  have hS := hSn
  clear hSn
  try simp only [Act.put, List.setIfInBounds_toArray, List.set_cons_zero, List.set_cons_succ, List.getElem_toArray, List.getElem_cons_succ, List.getElem_cons_zero]
  refine wpAnyH_take (i := 16) (v := ?_) rfl (by kernel_rfl) (by kernel_rfl) (by kernel_rfl) (fun _ _ _ h => h) (Or.inl ⟨by rfl, ?_⟩) hS ?_
  rotate_left
  · intro wz hz; go_simp; try with_reducible rfl
  try simp only [Act.put, List.setIfInBounds_toArray, List.set_cons_zero, List.set_cons_succ, List.getElem_toArray, List.getElem_cons_succ, List.getElem_cons_zero]
  refine wpAnyH_take (i := 17) (v := undef) rfl (by kernel_rfl) (by kernel_rfl) (by kernel_rfl) (fun _ _ _ h => h) (Or.inr ⟨by rfl, rfl⟩) hS ?_
  try simp only [Act.put, List.setIfInBounds_toArray, List.set_cons_zero, List.set_cons_succ, List.getElem_toArray, List.getElem_cons_succ, List.getElem_cons_zero]
  refine wpAnyH_take (i := 18) (v := undef) rfl (by kernel_rfl) (by kernel_rfl) (by kernel_rfl) (fun _ _ _ h => h) (Or.inr ⟨by rfl, rfl⟩) hS ?_
  try simp only [Act.put, List.setIfInBounds_toArray, List.set_cons_zero, List.set_cons_succ, List.getElem_toArray, List.getElem_cons_succ, List.getElem_cons_zero]
  refine wpAnyH_take (i := 19) (v := undef) rfl (by kernel_rfl) (by kernel_rfl) (by kernel_rfl) (fun _ _ _ h => h) (Or.inr ⟨by rfl, rfl⟩) hS ?_
  try simp only [Act.put, List.setIfInBounds_toArray, List.set_cons_zero, List.set_cons_succ, List.getElem_toArray, List.getElem_cons_succ, List.getElem_cons_zero]
  refine wpAnyH_take (i := 20) (v := undef) rfl (by kernel_rfl) (by kernel_rfl) (by kernel_rfl) (fun _ _ _ h => h) (Or.inr ⟨by rfl, rfl⟩) hS ?_
  try simp only [Act.put, List.setIfInBounds_toArray, List.set_cons_zero, List.set_cons_succ, List.getElem_toArray, List.getElem_cons_succ, List.getElem_cons_zero]
  refine wpAnyH_take (i := 21) (v := undef) rfl (by kernel_rfl) (by kernel_rfl) (by kernel_rfl) (fun _ _ _ h => h) (Or.inr ⟨by rfl, rfl⟩) hS ?_
  try simp only [Act.put, List.setIfInBounds_toArray, List.set_cons_zero, List.set_cons_succ, List.getElem_toArray, List.getElem_cons_succ, List.getElem_cons_zero]
  refine wpAnyH_take (i := 22) (v := undef) rfl (by kernel_rfl) (by kernel_rfl) (by kernel_rfl) (fun _ _ _ h => h) (Or.inr ⟨by rfl, rfl⟩) hS ?_
  try simp only [Act.put, List.setIfInBounds_toArray, List.set_cons_zero, List.set_cons_succ, List.getElem_toArray, List.getElem_cons_succ, List.getElem_cons_zero]
  refine wpAnyH_take (i := 23) (v := ?_) rfl (by kernel_rfl) (by kernel_rfl) (by kernel_rfl) (fun _ _ _ h => h) (Or.inl ⟨by rfl, ?_⟩) hS ?_
  rotate_left
  · intro wz hz; go_simp; try with_reducible rfl
  try simp only [Act.put, List.setIfInBounds_toArray, List.set_cons_zero, List.set_cons_succ, List.getElem_toArray, List.getElem_cons_succ, List.getElem_cons_zero]
  refine wpAnyH_take (i := 24) (v := ?_) rfl (by kernel_rfl) (by kernel_rfl) (by kernel_rfl) (fun _ _ _ h => h) (Or.inl ⟨by rfl, ?_⟩) hS ?_
  rotate_left
  · intro wz hz; go_simp; try with_reducible rfl
  try simp only [Act.put, List.setIfInBounds_toArray, List.set_cons_zero, List.set_cons_succ, List.getElem_toArray, List.getElem_cons_succ, List.getElem_cons_zero]
  refine wpAnyH_done (by kernel_rfl) ?_ _
  have HZ := hid (st2T hS)
  clear hS
  go_wp2_with (go_at_call 13; refine (hLive.out _).mono ?_; rintro e wl ⟨rfl, hbl⟩; have HE := hid (bl_tr (kB.out _ HZ.out.here) hbl); clear hbl)
  go_ret
  exact ⟨rfl, HE.out⟩

set_option maxHeartbeats 8000000 in
set_option maxRecDepth 100000 in
theorem order_tff (w : World) (ga gb gc : Int) (a b c : Tp) (a1 b1 c1 : Option Addr) (a2 b2 c2 : Nat) (hRS : Hid (∀ wz, Below w.heap.size w wz → Calls Try.prog 24 #[.agg #[.int .i64 ga, .int .i64 a.k, .int .i64 a.n, .slice a1 a.ks.length a2]] wz fun e w' => e = .returned (.bool true) ∧ Below wz.heap.size wz w')) (hAA : Hid (∀ wz, Below w.heap.size w wz → Calls Try.prog 17 #[.agg #[.int .i64 ga, .int .i64 a.k, .int .i64 a.n, .slice a1 a.ks.length a2], .agg #[.int .i64 ga, .int .i64 a.k, .int .i64 a.n, .slice a1 a.ks.length a2]] wz fun e w' => e = .returned (.bool true) ∧ Below wz.heap.size wz w')) (hAB : Hid (∀ wz, Below w.heap.size w wz → Calls Try.prog 17 #[.agg #[.int .i64 ga, .int .i64 a.k, .int .i64 a.n, .slice a1 a.ks.length a2], .agg #[.int .i64 gb, .int .i64 b.k, .int .i64 b.n, .slice b1 b.ks.length b2]] wz fun e w' => e = .returned (.bool true) ∧ Below wz.heap.size wz w')) (hBC : Hid (∀ wz, Below w.heap.size w wz → Calls Try.prog 17 #[.agg #[.int .i64 gb, .int .i64 b.k, .int .i64 b.n, .slice b1 b.ks.length b2], .agg #[.int .i64 gc, .int .i64 c.k, .int .i64 c.n, .slice c1 c.ks.length c2]] wz fun e w' => e = .returned (.bool false) ∧ Below wz.heap.size wz w')) (hBA : Hid (∀ wz, Below w.heap.size w wz → Calls Try.prog 17 #[.agg #[.int .i64 gb, .int .i64 b.k, .int .i64 b.n, .slice b1 b.ks.length b2], .agg #[.int .i64 ga, .int .i64 a.k, .int .i64 a.n, .slice a1 a.ks.length a2]] wz fun e w' => e = .returned (.bool false) ∧ Below wz.heap.size wz w')) (hAl : Hid (∀ wz, Below w.heap.size w wz → Calls Try.prog 19 #[.agg #[.int .i64 ga, .int .i64 a.k, .int .i64 a.n, .slice a1 a.ks.length a2], .agg #[.int .i64 gb, .int .i64 b.k, .int .i64 b.n, .slice b1 b.ks.length b2]] wz fun e w' => e = .returned (.bool false) ∧ Below wz.heap.size wz w')) (hLive : Hid (∀ wz, Calls Try.prog 13 #[] wz fun e w' => e = .returned (.bool true) ∧ Below wz.heap.size wz w')) :
    Calls Try.prog 6 #[.agg #[.int .i64 ga, .int .i64 a.k, .int .i64 a.n, .slice a1 a.ks.length a2], .agg #[.int .i64 gb, .int .i64 b.k, .int .i64 b.n, .slice b1 b.ks.length b2], .agg #[.int .i64 gc, .int .i64 c.k, .int .i64 c.n, .slice c1 c.ks.length c2]] w fun e w' => e = .returned (.bool true) ∧ Below w.heap.size w w' := by
  have Z := hid ((((st_new w).stays (bl_alloc (bl_alloc (bl_alloc (Below.refl _ _) (.cells #[.int .i64 ga, .int .i64 a.k, .int .i64 a.n, .slice a1 a.ks.length a2] 26)) (.cells #[.int .i64 gb, .int .i64 b.k, .int .i64 b.n, .slice b1 b.ks.length b2] 26)) (.cells #[.int .i64 gc, .int .i64 c.k, .int .i64 c.n, .slice c1 c.ks.length c2] 26))).addA (b := w.heap.size) (T := 26) (cur := [.int .i64 ga, .int .i64 a.k, .int .i64 a.n, .slice a1 a.ks.length a2]) (Arr.stays (Arr.stays ⟨heap_alloc_at _ _⟩ (bl_alloc (Below.refl _ _) _)) (bl_alloc (Below.refl _ _) _))))
  have Z := hid (Z.out.addA (b := w.heap.size + 1) (T := 26) (cur := [.int .i64 gb, .int .i64 b.k, .int .i64 b.n, .slice b1 b.ks.length b2]) (Arr.stays ⟨by have := heap_alloc_at (w.alloc (.cells #[.int .i64 ga, .int .i64 a.k, .int .i64 a.n, .slice a1 a.ks.length a2] 26)) (.cells #[.int .i64 gb, .int .i64 b.k, .int .i64 b.n, .slice b1 b.ks.length b2] 26); rw [size_alloc] at this; exact this⟩ (bl_alloc (Below.refl _ _) _)))
  have Z := hid (Z.out.addA (b := w.heap.size + 1 + 1) (T := 26) (cur := [.int .i64 gc, .int .i64 c.k, .int .i64 c.n, .slice c1 c.ks.length c2]) ⟨by have := heap_alloc_at ((w.alloc (.cells #[.int .i64 ga, .int .i64 a.k, .int .i64 a.n, .slice a1 a.ks.length a2] 26)).alloc (.cells #[.int .i64 gb, .int .i64 b.k, .int .i64 b.n, .slice b1 b.ks.length b2] 26)) (.cells #[.int .i64 gc, .int .i64 c.k, .int .i64 c.n, .slice c1 c.ks.length c2] 26); rw [size_alloc, size_alloc] at this; exact this⟩)
  obtain ⟨P, Z, ka, kb, kc, kB⟩ : ∃ P : World → Prop, Hid (St P (((w.alloc (.cells #[.int .i64 ga, .int .i64 a.k, .int .i64 a.n, .slice a1 a.ks.length a2] 26)).alloc (.cells #[.int .i64 gb, .int .i64 b.k, .int .i64 b.n, .slice b1 b.ks.length b2] 26)).alloc (.cells #[.int .i64 gc, .int .i64 c.k, .int .i64 c.n, .slice c1 c.ks.length c2] 26))) ∧ Hid (∀ W, P W → ∀ j : Nat, W.cell? ⟨w.heap.size, j, none⟩ = [.int .i64 ga, .int .i64 a.k, .int .i64 a.n, .slice a1 a.ks.length a2][j]?) ∧ Hid (∀ W, P W → ∀ j : Nat, W.cell? ⟨w.heap.size + 1, j, none⟩ = [.int .i64 gb, .int .i64 b.k, .int .i64 b.n, .slice b1 b.ks.length b2][j]?) ∧ Hid (∀ W, P W → ∀ j : Nat, W.cell? ⟨w.heap.size + 1 + 1, j, none⟩ = [.int .i64 gc, .int .i64 c.k, .int .i64 c.n, .slice c1 c.ks.length c2][j]?) ∧ Hid (∀ W, P W → Below w.heap.size w W) :=
    ⟨_, Z, fun W h => h.1.1.2.cell, fun W h => h.1.2.cell, fun W h => h.2.cell, fun W h => h.1.1.1⟩
  have m1 : Hid True := trivial
  have m2 : Hid True := trivial
  have m3 : Hid True := trivial
  have m4 : Hid True := trivial
  have m5 : Hid True := trivial
  go_enter Try.func6, Try.ntmps6
  go_wp2_with (first | (go_at_call 24; have := m1; refine (hRS.out _ (kB.out _ Z.out.here)).mono ?_; rintro e w1 ⟨rfl, hb1⟩; have Z1 := hid (Z.out.stays hb1); have x1 := ka.out _ Z1.out.here; have y1 := kb.out _ Z1.out.here; have z1 := kc.out _ Z1.out.here; clear hb1 m1) | (go_at_call 17; have := m2; refine (hAA.out _ (kB.out _ Z1.out.here)).mono ?_; rintro e w2 ⟨rfl, hb2⟩; have Z2 := hid (Z1.out.stays hb2); have x2 := ka.out _ Z2.out.here; have y2 := kb.out _ Z2.out.here; have z2 := kc.out _ Z2.out.here; clear hb2 m2) | (go_at_call 24; have := m3; refine (hRS.out _ (kB.out _ Z2.out.here)).mono ?_; rintro e w3 ⟨rfl, hb3⟩; have Z3 := hid (Z2.out.stays hb3); have x3 := ka.out _ Z3.out.here; have y3 := kb.out _ Z3.out.here; have z3 := kc.out _ Z3.out.here; clear hb3 m3) | (go_at_call 17; have := m4; refine (hAB.out _ (kB.out _ Z3.out.here)).mono ?_; rintro e w4 ⟨rfl, hb4⟩; have Z4 := hid (Z3.out.stays hb4); have x4 := ka.out _ Z4.out.here; have y4 := kb.out _ Z4.out.here; have z4 := kc.out _ Z4.out.here; clear hb4 m4) | (go_at_call 17; have := m5; refine (hBC.out _ (kB.out _ Z4.out.here)).mono ?_; rintro e w5 ⟨rfl, hb5⟩; have Z5 := hid (Z4.out.stays hb5); have x5 := ka.out _ Z5.out.here; have y5 := kb.out _ Z5.out.here; have z5 := kc.out _ Z5.out.here; clear hb5 m5))
  have mkS : Hid (∀ wz, St P wz → (∀ j : Nat, wz.cell? ⟨w.heap.size, j, none⟩ = [.int .i64 ga, .int .i64 a.k, .int .i64 a.n, .slice a1 a.ks.length a2][j]?) ∧ (∀ j : Nat, wz.cell? ⟨w.heap.size + 1, j, none⟩ = [.int .i64 gb, .int .i64 b.k, .int .i64 b.n, .slice b1 b.ks.length b2][j]?) ∧ St P wz) := fun wz h => ⟨ka.out wz h.here, kb.out wz h.here, h⟩
  have hs0 := hid (mkS.out _ (Z5.out.stays (Below.refl _ _).drew))
  clear x1 y1 z1 x2 y2 z2 x3 y3 z3 x4 y4 z4 x5 y5 z5
  refine wp_region_held_drew (S := fun wz => (∀ j : Nat, wz.cell? ⟨w.heap.size, j, none⟩ = [.int .i64 ga, .int .i64 a.k, .int .i64 a.n, .slice a1 a.ks.length a2][j]?) ∧ (∀ j : Nat, wz.cell? ⟨w.heap.size + 1, j, none⟩ = [.int .i64 gb, .int .i64 b.k, .int .i64 b.n, .slice b1 b.ks.length b2][j]?) ∧ St P wz) (by kernel_rfl) (hs0.out) (fun hS => ?_)
  refine wpAnyH_take (i := 0) (v := ?_) rfl (by kernel_rfl) (by kernel_rfl) (by kernel_rfl) (fun _ _ _ h => h) (Or.inl ⟨by rfl, ?_⟩) hS ?_
  rotate_left
  · intro wz hz; obtain ⟨zz0, zz1, zz2⟩ := hz; go_simp; try with_reducible rfl
  try simp only [Act.put, List.setIfInBounds_toArray, List.set_cons_zero, List.set_cons_succ, List.getElem_toArray, List.getElem_cons_succ, List.getElem_cons_zero]
  refine wpAnyH_take (i := 1) (v := ?_) rfl (by kernel_rfl) (by kernel_rfl) (by kernel_rfl) (fun _ _ _ h => h) (Or.inl ⟨by rfl, ?_⟩) hS ?_
  rotate_left
  · intro wz hz; obtain ⟨zz0, zz1, zz2⟩ := hz; go_simp; try with_reducible rfl
  try simp only [Act.put, List.setIfInBounds_toArray, List.set_cons_zero, List.set_cons_succ, List.getElem_toArray, List.getElem_cons_succ, List.getElem_cons_zero]
  refine wpAnyH_take (i := 3) (v := ?_) rfl (by kernel_rfl) (by kernel_rfl) (by kernel_rfl) (fun _ _ _ h => h) (Or.inl ⟨by rfl, ?_⟩) hS ?_
  rotate_left
  · intro wz hz; obtain ⟨zz0, zz1, zz2⟩ := hz; go_simp; try with_reducible rfl
  try simp only [Act.put, List.setIfInBounds_toArray, List.set_cons_zero, List.set_cons_succ, List.getElem_toArray, List.getElem_cons_succ, List.getElem_cons_zero]
  refine wpAnyH_take (i := 4) (v := ?_) rfl (by kernel_rfl) (by kernel_rfl) (by kernel_rfl) (fun _ _ _ h => h) (Or.inl ⟨by rfl, ?_⟩) hS ?_
  rotate_left
  · intro wz hz; obtain ⟨zz0, zz1, zz2⟩ := hz; go_simp; try with_reducible rfl
  try simp only [Act.put, List.setIfInBounds_toArray, List.set_cons_zero, List.set_cons_succ, List.getElem_toArray, List.getElem_cons_succ, List.getElem_cons_zero]
  refine wpAnyH_ready (rs := [2]) (by kernel_rfl) (by simp) (AllReadyH.cons rfl (fun K hK => ?_) AllReadyH.nil)
  go_simp
  refine (hAl.out _ (kB.out _ (st2T hS).here)).mono ?_
  rintro e u2 ⟨rfl, hv2⟩
  have hS2 := mkS.out _ ((st2T hS).stays hv2)
  refine hK.out _ _ (hS2) (fun hSn => ?_)
  clear hK K hS
  have hS := hSn
  clear hSn
  try simp only [Act.put, List.setIfInBounds_toArray, List.set_cons_zero, List.set_cons_succ, List.getElem_toArray, List.getElem_cons_succ, List.getElem_cons_zero]
  refine wpAnyH_ready (rs := [5]) (by kernel_rfl) (by simp) (AllReadyH.cons rfl (fun K hK => ?_) AllReadyH.nil)
  go_simp
  refine (hAB.out _ (kB.out _ (st2T hS).here)).mono ?_
  rintro e u5 ⟨rfl, hv5⟩
  have hS5 := mkS.out _ ((st2T hS).stays hv5)
  refine hK.out _ _ (hS5) (fun hSn => ?_)
  clear hK K hS
  have hS := hSn
  clear hSn
  try simp only [Act.put, List.setIfInBounds_toArray, List.set_cons_zero, List.set_cons_succ, List.getElem_toArray, List.getElem_cons_succ, List.getElem_cons_zero]
  refine wpAnyH_take (i := 6) (v := ?_) rfl (by kernel_rfl) (by kernel_rfl) (by kernel_rfl) (fun _ _ _ h => h) (Or.inl ⟨by rfl, ?_⟩) hS ?_
  rotate_left
  · intro wz hz; go_simp; try with_reducible rfl
  try simp only [Act.put, List.setIfInBounds_toArray, List.set_cons_zero, List.set_cons_succ, List.getElem_toArray, List.getElem_cons_succ, List.getElem_cons_zero]
  refine wpAnyH_take (i := 7) (v := ?_) rfl (by kernel_rfl) (by kernel_rfl) (by kernel_rfl) (fun _ _ _ h => h) (Or.inl ⟨by rfl, ?_⟩) hS ?_
  rotate_left
  · intro wz hz; obtain ⟨zz0, zz1, zz2⟩ := hz; go_simp; try with_reducible rfl
  try simp only [Act.put, List.setIfInBounds_toArray, List.set_cons_zero, List.set_cons_succ, List.getElem_toArray, List.getElem_cons_succ, List.getElem_cons_zero]
  refine wpAnyH_take (i := 8) (v := ?_) rfl (by kernel_rfl) (by kernel_rfl) (by kernel_rfl) (fun _ _ _ h => h) (Or.inl ⟨by rfl, ?_⟩) hS ?_
  rotate_left
  · intro wz hz; obtain ⟨zz0, zz1, zz2⟩ := hz; go_simp; try with_reducible rfl
  try simp only [Act.put, List.setIfInBounds_toArray, List.set_cons_zero, List.set_cons_succ, List.getElem_toArray, List.getElem_cons_succ, List.getElem_cons_zero]
  refine wpAnyH_ready (rs := [9]) (by kernel_rfl) (by simp) (AllReadyH.cons rfl (fun K hK => ?_) AllReadyH.nil)
  go_simp
  refine (hBA.out _ (kB.out _ (st2T hS).here)).mono ?_
  rintro e u9 ⟨rfl, hv9⟩
  have hS9 := mkS.out _ ((st2T hS).stays hv9)
  refine hK.out _ _ (hS9) (fun hSn => ?_)
  clear hK K hS
  have hS := hSn
  clear hSn
  try simp only [Act.put, List.setIfInBounds_toArray, List.set_cons_zero, List.set_cons_succ, List.getElem_toArray, List.getElem_cons_succ, List.getElem_cons_zero]
  refine wpAnyH_take (i := 10) (v := ?_) rfl (by kernel_rfl) (by kernel_rfl) (by kernel_rfl) (fun _ _ _ h => h) (Or.inl ⟨by rfl, ?_⟩) hS ?_
  rotate_left
  · intro wz hz; go_simp; try with_reducible rfl
  try simp only [Act.put, List.setIfInBounds_toArray, List.set_cons_zero, List.set_cons_succ, List.getElem_toArray, List.getElem_cons_succ, List.getElem_cons_zero]
  refine wpAnyH_take (i := 11) (v := ?_) rfl (by kernel_rfl) (by kernel_rfl) (by kernel_rfl) (fun _ _ _ h => h) (Or.inl ⟨by rfl, ?_⟩) hS ?_
  rotate_left
  · intro wz hz; go_simp; try with_reducible rfl
  try simp only [Act.put, List.setIfInBounds_toArray, List.set_cons_zero, List.set_cons_succ, List.getElem_toArray, List.getElem_cons_succ, List.getElem_cons_zero]
  refine wpAnyH_take (i := 12) (v := ?_) rfl (by kernel_rfl) (by kernel_rfl) (by kernel_rfl) (fun _ _ _ h => h) (Or.inl ⟨by rfl, ?_⟩) hS ?_
  rotate_left
  · intro wz hz; go_simp; try with_reducible rfl
  try simp only [Act.put, List.setIfInBounds_toArray, List.set_cons_zero, List.set_cons_succ, List.getElem_toArray, List.getElem_cons_succ, List.getElem_cons_zero]
  refine wpAnyH_take (i := 13) (v := ?_) rfl (by kernel_rfl) (by kernel_rfl) (by kernel_rfl) (fun _ _ _ h => h) (Or.inl ⟨by rfl, ?_⟩) hS ?_
  rotate_left
  · intro wz hz; obtain ⟨zz0, zz1, zz2⟩ := hz; go_simp; try with_reducible rfl
  try simp only [Act.put, List.setIfInBounds_toArray, List.set_cons_zero, List.set_cons_succ, List.getElem_toArray, List.getElem_cons_succ, List.getElem_cons_zero]
  refine wpAnyH_take (i := 14) (v := ?_) rfl (by kernel_rfl) (by kernel_rfl) (by kernel_rfl) (fun _ _ _ h => h) (Or.inl ⟨by rfl, ?_⟩) hS ?_
  rotate_left
  · intro wz hz; obtain ⟨zz0, zz1, zz2⟩ := hz; go_simp; try with_reducible rfl
  try simp only [Act.put, List.setIfInBounds_toArray, List.set_cons_zero, List.set_cons_succ, List.getElem_toArray, List.getElem_cons_succ, List.getElem_cons_zero]
  refine wpAnyH_ready (rs := [15]) (by kernel_rfl) (by simp) (AllReadyH.cons rfl (fun K hK => ?_) AllReadyH.nil)
  go_simp
  refine (hAl.out _ (kB.out _ (st2T hS).here)).mono ?_
  rintro e u15 ⟨rfl, hv15⟩
  have hS15 := mkS.out _ ((st2T hS).stays hv15)
  refine hK.out _ _ (hS15) (fun hSn => ?_)
  clear hK K hS
  have hS := hSn
  clear hSn
  try simp only [Act.put, List.setIfInBounds_toArray, List.set_cons_zero, List.set_cons_succ, List.getElem_toArray, List.getElem_cons_succ, List.getElem_cons_zero]
  refine wpAnyH_take (i := 16) (v := ?_) rfl (by kernel_rfl) (by kernel_rfl) (by kernel_rfl) (fun _ _ _ h => h) (Or.inl ⟨by rfl, ?_⟩) hS ?_
  rotate_left
  · intro wz hz; go_simp; try with_reducible rfl
  try simp only [Act.put, List.setIfInBounds_toArray, List.set_cons_zero, List.set_cons_succ, List.getElem_toArray, List.getElem_cons_succ, List.getElem_cons_zero]
  refine wpAnyH_take (i := 17) (v := undef) rfl (by kernel_rfl) (by kernel_rfl) (by kernel_rfl) (fun _ _ _ h => h) (Or.inr ⟨by rfl, rfl⟩) hS ?_
  try simp only [Act.put, List.setIfInBounds_toArray, List.set_cons_zero, List.set_cons_succ, List.getElem_toArray, List.getElem_cons_succ, List.getElem_cons_zero]
  refine wpAnyH_take (i := 18) (v := undef) rfl (by kernel_rfl) (by kernel_rfl) (by kernel_rfl) (fun _ _ _ h => h) (Or.inr ⟨by rfl, rfl⟩) hS ?_
  try simp only [Act.put, List.setIfInBounds_toArray, List.set_cons_zero, List.set_cons_succ, List.getElem_toArray, List.getElem_cons_succ, List.getElem_cons_zero]
  refine wpAnyH_take (i := 19) (v := undef) rfl (by kernel_rfl) (by kernel_rfl) (by kernel_rfl) (fun _ _ _ h => h) (Or.inr ⟨by rfl, rfl⟩) hS ?_
  try simp only [Act.put, List.setIfInBounds_toArray, List.set_cons_zero, List.set_cons_succ, List.getElem_toArray, List.getElem_cons_succ, List.getElem_cons_zero]
  refine wpAnyH_take (i := 20) (v := undef) rfl (by kernel_rfl) (by kernel_rfl) (by kernel_rfl) (fun _ _ _ h => h) (Or.inr ⟨by rfl, rfl⟩) hS ?_
  try simp only [Act.put, List.setIfInBounds_toArray, List.set_cons_zero, List.set_cons_succ, List.getElem_toArray, List.getElem_cons_succ, List.getElem_cons_zero]
  refine wpAnyH_take (i := 21) (v := undef) rfl (by kernel_rfl) (by kernel_rfl) (by kernel_rfl) (fun _ _ _ h => h) (Or.inr ⟨by rfl, rfl⟩) hS ?_
  try simp only [Act.put, List.setIfInBounds_toArray, List.set_cons_zero, List.set_cons_succ, List.getElem_toArray, List.getElem_cons_succ, List.getElem_cons_zero]
  refine wpAnyH_take (i := 22) (v := undef) rfl (by kernel_rfl) (by kernel_rfl) (by kernel_rfl) (fun _ _ _ h => h) (Or.inr ⟨by rfl, rfl⟩) hS ?_
  try simp only [Act.put, List.setIfInBounds_toArray, List.set_cons_zero, List.set_cons_succ, List.getElem_toArray, List.getElem_cons_succ, List.getElem_cons_zero]
  refine wpAnyH_take (i := 23) (v := ?_) rfl (by kernel_rfl) (by kernel_rfl) (by kernel_rfl) (fun _ _ _ h => h) (Or.inl ⟨by rfl, ?_⟩) hS ?_
  rotate_left
  · intro wz hz; go_simp; try with_reducible rfl
  try simp only [Act.put, List.setIfInBounds_toArray, List.set_cons_zero, List.set_cons_succ, List.getElem_toArray, List.getElem_cons_succ, List.getElem_cons_zero]
  refine wpAnyH_take (i := 24) (v := ?_) rfl (by kernel_rfl) (by kernel_rfl) (by kernel_rfl) (fun _ _ _ h => h) (Or.inl ⟨by rfl, ?_⟩) hS ?_
  rotate_left
  · intro wz hz; go_simp; try with_reducible rfl
  try simp only [Act.put, List.setIfInBounds_toArray, List.set_cons_zero, List.set_cons_succ, List.getElem_toArray, List.getElem_cons_succ, List.getElem_cons_zero]
  refine wpAnyH_done (by kernel_rfl) ?_ _
  have HZ := hid (st2T hS)
  clear hS
  go_wp2_with (go_at_call 13; refine (hLive.out _).mono ?_; rintro e wl ⟨rfl, hbl⟩; have HE := hid (bl_tr (kB.out _ HZ.out.here) hbl); clear hbl)
  go_ret
  exact ⟨rfl, HE.out⟩

set_option maxHeartbeats 8000000 in
set_option maxRecDepth 100000 in
theorem order_tft (w : World) (ga gb gc : Int) (a b c : Tp) (a1 b1 c1 : Option Addr) (a2 b2 c2 : Nat) (hRS : Hid (∀ wz, Below w.heap.size w wz → Calls Try.prog 24 #[.agg #[.int .i64 ga, .int .i64 a.k, .int .i64 a.n, .slice a1 a.ks.length a2]] wz fun e w' => e = .returned (.bool true) ∧ Below wz.heap.size wz w')) (hAA : Hid (∀ wz, Below w.heap.size w wz → Calls Try.prog 17 #[.agg #[.int .i64 ga, .int .i64 a.k, .int .i64 a.n, .slice a1 a.ks.length a2], .agg #[.int .i64 ga, .int .i64 a.k, .int .i64 a.n, .slice a1 a.ks.length a2]] wz fun e w' => e = .returned (.bool true) ∧ Below wz.heap.size wz w')) (hAB : Hid (∀ wz, Below w.heap.size w wz → Calls Try.prog 17 #[.agg #[.int .i64 ga, .int .i64 a.k, .int .i64 a.n, .slice a1 a.ks.length a2], .agg #[.int .i64 gb, .int .i64 b.k, .int .i64 b.n, .slice b1 b.ks.length b2]] wz fun e w' => e = .returned (.bool true) ∧ Below wz.heap.size wz w')) (hBC : Hid (∀ wz, Below w.heap.size w wz → Calls Try.prog 17 #[.agg #[.int .i64 gb, .int .i64 b.k, .int .i64 b.n, .slice b1 b.ks.length b2], .agg #[.int .i64 gc, .int .i64 c.k, .int .i64 c.n, .slice c1 c.ks.length c2]] wz fun e w' => e = .returned (.bool false) ∧ Below wz.heap.size wz w')) (hBA : Hid (∀ wz, Below w.heap.size w wz → Calls Try.prog 17 #[.agg #[.int .i64 gb, .int .i64 b.k, .int .i64 b.n, .slice b1 b.ks.length b2], .agg #[.int .i64 ga, .int .i64 a.k, .int .i64 a.n, .slice a1 a.ks.length a2]] wz fun e w' => e = .returned (.bool true) ∧ Below wz.heap.size wz w')) (hAl : Hid (∀ wz, Below w.heap.size w wz → Calls Try.prog 19 #[.agg #[.int .i64 ga, .int .i64 a.k, .int .i64 a.n, .slice a1 a.ks.length a2], .agg #[.int .i64 gb, .int .i64 b.k, .int .i64 b.n, .slice b1 b.ks.length b2]] wz fun e w' => e = .returned (.bool true) ∧ Below wz.heap.size wz w')) (hLive : Hid (∀ wz, Calls Try.prog 13 #[] wz fun e w' => e = .returned (.bool true) ∧ Below wz.heap.size wz w')) (m : Nat) (y : Tp) (hCa : Hid (∀ wz, Below w.heap.size w wz → Calls Try.prog 29 #[.agg #[.int .i64 ga, .int .i64 a.k, .int .i64 a.n, .slice a1 a.ks.length a2]] wz fun e w' => ∃ a' n' c', e = .returned (.agg #[.int .i64 (m : Nat), .int .i64 y.k, .int .i64 y.n, .slice a' y.ks.length c']) ∧ TAt w' Any n' [.int .i64 y.k, .int .i64 y.n, .slice a' y.ks.length c'] y ∧ Below wz.heap.size wz w')) (hCb : Hid (∀ wz, Below w.heap.size w wz → Calls Try.prog 29 #[.agg #[.int .i64 gb, .int .i64 b.k, .int .i64 b.n, .slice b1 b.ks.length b2]] wz fun e w' => ∃ a' n' c', e = .returned (.agg #[.int .i64 (m : Nat), .int .i64 y.k, .int .i64 y.n, .slice a' y.ks.length c']) ∧ TAt w' Any n' [.int .i64 y.k, .int .i64 y.n, .slice a' y.ks.length c'] y ∧ Below wz.heap.size wz w')) :
    Calls Try.prog 6 #[.agg #[.int .i64 ga, .int .i64 a.k, .int .i64 a.n, .slice a1 a.ks.length a2], .agg #[.int .i64 gb, .int .i64 b.k, .int .i64 b.n, .slice b1 b.ks.length b2], .agg #[.int .i64 gc, .int .i64 c.k, .int .i64 c.n, .slice c1 c.ks.length c2]] w fun e w' => e = .returned (.bool true) ∧ Below w.heap.size w w' := by
  have Z := hid ((((st_new w).stays (bl_alloc (bl_alloc (bl_alloc (Below.refl _ _) (.cells #[.int .i64 ga, .int .i64 a.k, .int .i64 a.n, .slice a1 a.ks.length a2] 26)) (.cells #[.int .i64 gb, .int .i64 b.k, .int .i64 b.n, .slice b1 b.ks.length b2] 26)) (.cells #[.int .i64 gc, .int .i64 c.k, .int .i64 c.n, .slice c1 c.ks.length c2] 26))).addA (b := w.heap.size) (T := 26) (cur := [.int .i64 ga, .int .i64 a.k, .int .i64 a.n, .slice a1 a.ks.length a2]) (Arr.stays (Arr.stays ⟨heap_alloc_at _ _⟩ (bl_alloc (Below.refl _ _) _)) (bl_alloc (Below.refl _ _) _))))
  have Z := hid (Z.out.addA (b := w.heap.size + 1) (T := 26) (cur := [.int .i64 gb, .int .i64 b.k, .int .i64 b.n, .slice b1 b.ks.length b2]) (Arr.stays ⟨by have := heap_alloc_at (w.alloc (.cells #[.int .i64 ga, .int .i64 a.k, .int .i64 a.n, .slice a1 a.ks.length a2] 26)) (.cells #[.int .i64 gb, .int .i64 b.k, .int .i64 b.n, .slice b1 b.ks.length b2] 26); rw [size_alloc] at this; exact this⟩ (bl_alloc (Below.refl _ _) _)))
  have Z := hid (Z.out.addA (b := w.heap.size + 1 + 1) (T := 26) (cur := [.int .i64 gc, .int .i64 c.k, .int .i64 c.n, .slice c1 c.ks.length c2]) ⟨by have := heap_alloc_at ((w.alloc (.cells #[.int .i64 ga, .int .i64 a.k, .int .i64 a.n, .slice a1 a.ks.length a2] 26)).alloc (.cells #[.int .i64 gb, .int .i64 b.k, .int .i64 b.n, .slice b1 b.ks.length b2] 26)) (.cells #[.int .i64 gc, .int .i64 c.k, .int .i64 c.n, .slice c1 c.ks.length c2] 26); rw [size_alloc, size_alloc] at this; exact this⟩)
  obtain ⟨P, Z, ka, kb, kc, kB⟩ : ∃ P : World → Prop, Hid (St P (((w.alloc (.cells #[.int .i64 ga, .int .i64 a.k, .int .i64 a.n, .slice a1 a.ks.length a2] 26)).alloc (.cells #[.int .i64 gb, .int .i64 b.k, .int .i64 b.n, .slice b1 b.ks.length b2] 26)).alloc (.cells #[.int .i64 gc, .int .i64 c.k, .int .i64 c.n, .slice c1 c.ks.length c2] 26))) ∧ Hid (∀ W, P W → ∀ j : Nat, W.cell? ⟨w.heap.size, j, none⟩ = [.int .i64 ga, .int .i64 a.k, .int .i64 a.n, .slice a1 a.ks.length a2][j]?) ∧ Hid (∀ W, P W → ∀ j : Nat, W.cell? ⟨w.heap.size + 1, j, none⟩ = [.int .i64 gb, .int .i64 b.k, .int .i64 b.n, .slice b1 b.ks.length b2][j]?) ∧ Hid (∀ W, P W → ∀ j : Nat, W.cell? ⟨w.heap.size + 1 + 1, j, none⟩ = [.int .i64 gc, .int .i64 c.k, .int .i64 c.n, .slice c1 c.ks.length c2][j]?) ∧ Hid (∀ W, P W → Below w.heap.size w W) :=
    ⟨_, Z, fun W h => h.1.1.2.cell, fun W h => h.1.2.cell, fun W h => h.2.cell, fun W h => h.1.1.1⟩
  have m1 : Hid True := trivial
  have m2 : Hid True := trivial
  have m3 : Hid True := trivial
  have m4 : Hid True := trivial
  have m5 : Hid True := trivial
  go_enter Try.func6, Try.ntmps6
  go_wp2_with (first | (go_at_call 24; have := m1; refine (hRS.out _ (kB.out _ Z.out.here)).mono ?_; rintro e w1 ⟨rfl, hb1⟩; have Z1 := hid (Z.out.stays hb1); have x1 := ka.out _ Z1.out.here; have y1 := kb.out _ Z1.out.here; have z1 := kc.out _ Z1.out.here; clear hb1 m1) | (go_at_call 17; have := m2; refine (hAA.out _ (kB.out _ Z1.out.here)).mono ?_; rintro e w2 ⟨rfl, hb2⟩; have Z2 := hid (Z1.out.stays hb2); have x2 := ka.out _ Z2.out.here; have y2 := kb.out _ Z2.out.here; have z2 := kc.out _ Z2.out.here; clear hb2 m2) | (go_at_call 24; have := m3; refine (hRS.out _ (kB.out _ Z2.out.here)).mono ?_; rintro e w3 ⟨rfl, hb3⟩; have Z3 := hid (Z2.out.stays hb3); have x3 := ka.out _ Z3.out.here; have y3 := kb.out _ Z3.out.here; have z3 := kc.out _ Z3.out.here; clear hb3 m3) | (go_at_call 17; have := m4; refine (hAB.out _ (kB.out _ Z3.out.here)).mono ?_; rintro e w4 ⟨rfl, hb4⟩; have Z4 := hid (Z3.out.stays hb4); have x4 := ka.out _ Z4.out.here; have y4 := kb.out _ Z4.out.here; have z4 := kc.out _ Z4.out.here; clear hb4 m4) | (go_at_call 17; have := m5; refine (hBC.out _ (kB.out _ Z4.out.here)).mono ?_; rintro e w5 ⟨rfl, hb5⟩; have Z5 := hid (Z4.out.stays hb5); have x5 := ka.out _ Z5.out.here; have y5 := kb.out _ Z5.out.here; have z5 := kc.out _ Z5.out.here; clear hb5 m5))
  have mkS : Hid (∀ wz, St P wz → (∀ j : Nat, wz.cell? ⟨w.heap.size, j, none⟩ = [.int .i64 ga, .int .i64 a.k, .int .i64 a.n, .slice a1 a.ks.length a2][j]?) ∧ (∀ j : Nat, wz.cell? ⟨w.heap.size + 1, j, none⟩ = [.int .i64 gb, .int .i64 b.k, .int .i64 b.n, .slice b1 b.ks.length b2][j]?) ∧ St P wz) := fun wz h => ⟨ka.out wz h.here, kb.out wz h.here, h⟩
  have hs0 := hid (mkS.out _ (Z5.out.stays (Below.refl _ _).drew))
  clear x1 y1 z1 x2 y2 z2 x3 y3 z3 x4 y4 z4 x5 y5 z5
  refine wp_region_held_drew (S := fun wz => (∀ j : Nat, wz.cell? ⟨w.heap.size, j, none⟩ = [.int .i64 ga, .int .i64 a.k, .int .i64 a.n, .slice a1 a.ks.length a2][j]?) ∧ (∀ j : Nat, wz.cell? ⟨w.heap.size + 1, j, none⟩ = [.int .i64 gb, .int .i64 b.k, .int .i64 b.n, .slice b1 b.ks.length b2][j]?) ∧ St P wz) (by kernel_rfl) (hs0.out) (fun hS => ?_)
  refine wpAnyH_take (i := 0) (v := ?_) rfl (by kernel_rfl) (by kernel_rfl) (by kernel_rfl) (fun _ _ _ h => h) (Or.inl ⟨by rfl, ?_⟩) hS ?_
  rotate_left
  · intro wz hz; obtain ⟨zz0, zz1, zz2⟩ := hz; go_simp; try with_reducible rfl
  try simp only [Act.put, List.setIfInBounds_toArray, List.set_cons_zero, List.set_cons_succ, List.getElem_toArray, List.getElem_cons_succ, List.getElem_cons_zero]
  refine wpAnyH_take (i := 1) (v := ?_) rfl (by kernel_rfl) (by kernel_rfl) (by kernel_rfl) (fun _ _ _ h => h) (Or.inl ⟨by rfl, ?_⟩) hS ?_
  rotate_left
  · intro wz hz; obtain ⟨zz0, zz1, zz2⟩ := hz; go_simp; try with_reducible rfl
  try simp only [Act.put, List.setIfInBounds_toArray, List.set_cons_zero, List.set_cons_succ, List.getElem_toArray, List.getElem_cons_succ, List.getElem_cons_zero]
  refine wpAnyH_take (i := 3) (v := ?_) rfl (by kernel_rfl) (by kernel_rfl) (by kernel_rfl) (fun _ _ _ h => h) (Or.inl ⟨by rfl, ?_⟩) hS ?_
  rotate_left
  · intro wz hz; obtain ⟨zz0, zz1, zz2⟩ := hz; go_simp; try with_reducible rfl
  try simp only [Act.put, List.setIfInBounds_toArray, List.set_cons_zero, List.set_cons_succ, List.getElem_toArray, List.getElem_cons_succ, List.getElem_cons_zero]
  refine wpAnyH_take (i := 4) (v := ?_) rfl (by kernel_rfl) (by kernel_rfl) (by kernel_rfl) (fun _ _ _ h => h) (Or.inl ⟨by rfl, ?_⟩) hS ?_
  rotate_left
  · intro wz hz; obtain ⟨zz0, zz1, zz2⟩ := hz; go_simp; try with_reducible rfl
  try simp only [Act.put, List.setIfInBounds_toArray, List.set_cons_zero, List.set_cons_succ, List.getElem_toArray, List.getElem_cons_succ, List.getElem_cons_zero]
  refine wpAnyH_ready (rs := [2]) (by kernel_rfl) (by simp) (AllReadyH.cons rfl (fun K hK => ?_) AllReadyH.nil)
  go_simp
  refine (hAl.out _ (kB.out _ (st2T hS).here)).mono ?_
  rintro e u2 ⟨rfl, hv2⟩
  have hS2 := mkS.out _ ((st2T hS).stays hv2)
  refine hK.out _ _ (hS2) (fun hSn => ?_)
  clear hK K hS
  have hS := hSn
  clear hSn
  try simp only [Act.put, List.setIfInBounds_toArray, List.set_cons_zero, List.set_cons_succ, List.getElem_toArray, List.getElem_cons_succ, List.getElem_cons_zero]
  refine wpAnyH_ready (rs := [5]) (by kernel_rfl) (by simp) (AllReadyH.cons rfl (fun K hK => ?_) AllReadyH.nil)
  go_simp
  refine (hAB.out _ (kB.out _ (st2T hS).here)).mono ?_
  rintro e u5 ⟨rfl, hv5⟩
  have hS5 := mkS.out _ ((st2T hS).stays hv5)
  refine hK.out _ _ (hS5) (fun hSn => ?_)
  clear hK K hS
  have hS := hSn
  clear hSn
  try simp only [Act.put, List.setIfInBounds_toArray, List.set_cons_zero, List.set_cons_succ, List.getElem_toArray, List.getElem_cons_succ, List.getElem_cons_zero]
  refine wpAnyH_take (i := 6) (v := ?_) rfl (by kernel_rfl) (by kernel_rfl) (by kernel_rfl) (fun _ _ _ h => h) (Or.inl ⟨by rfl, ?_⟩) hS ?_
  rotate_left
  · intro wz hz; go_simp; try with_reducible rfl
  try simp only [Act.put, List.setIfInBounds_toArray, List.set_cons_zero, List.set_cons_succ, List.getElem_toArray, List.getElem_cons_succ, List.getElem_cons_zero]
  refine wpAnyH_take (i := 7) (v := ?_) rfl (by kernel_rfl) (by kernel_rfl) (by kernel_rfl) (fun _ _ _ h => h) (Or.inl ⟨by rfl, ?_⟩) hS ?_
  rotate_left
  · intro wz hz; obtain ⟨zz0, zz1, zz2⟩ := hz; go_simp; try with_reducible rfl
  try simp only [Act.put, List.setIfInBounds_toArray, List.set_cons_zero, List.set_cons_succ, List.getElem_toArray, List.getElem_cons_succ, List.getElem_cons_zero]
  refine wpAnyH_take (i := 8) (v := ?_) rfl (by kernel_rfl) (by kernel_rfl) (by kernel_rfl) (fun _ _ _ h => h) (Or.inl ⟨by rfl, ?_⟩) hS ?_
  rotate_left
  · intro wz hz; obtain ⟨zz0, zz1, zz2⟩ := hz; go_simp; try with_reducible rfl
  try simp only [Act.put, List.setIfInBounds_toArray, List.set_cons_zero, List.set_cons_succ, List.getElem_toArray, List.getElem_cons_succ, List.getElem_cons_zero]
  refine wpAnyH_ready (rs := [9]) (by kernel_rfl) (by simp) (AllReadyH.cons rfl (fun K hK => ?_) AllReadyH.nil)
  go_simp
  refine (hBA.out _ (kB.out _ (st2T hS).here)).mono ?_
  rintro e u9 ⟨rfl, hv9⟩
  have hS9 := mkS.out _ ((st2T hS).stays hv9)
  refine hK.out _ _ (hS9) (fun hSn => ?_)
  clear hK K hS
  have hS := hSn
  clear hSn
  try simp only [Act.put, List.setIfInBounds_toArray, List.set_cons_zero, List.set_cons_succ, List.getElem_toArray, List.getElem_cons_succ, List.getElem_cons_zero]
  refine wpAnyH_take (i := 10) (v := ?_) rfl (by kernel_rfl) (by kernel_rfl) (by kernel_rfl) (fun _ _ _ h => h) (Or.inl ⟨by rfl, ?_⟩) hS ?_
  rotate_left
  · intro wz hz; go_simp; try with_reducible rfl
  try simp only [Act.put, List.setIfInBounds_toArray, List.set_cons_zero, List.set_cons_succ, List.getElem_toArray, List.getElem_cons_succ, List.getElem_cons_zero]
  refine wpAnyH_take (i := 11) (v := ?_) rfl (by kernel_rfl) (by kernel_rfl) (by kernel_rfl) (fun _ _ _ h => h) (Or.inl ⟨by rfl, ?_⟩) hS ?_
  rotate_left
  · intro wz hz; go_simp; try with_reducible rfl
  try simp only [Act.put, List.setIfInBounds_toArray, List.set_cons_zero, List.set_cons_succ, List.getElem_toArray, List.getElem_cons_succ, List.getElem_cons_zero]
  refine wpAnyH_take (i := 12) (v := ?_) rfl (by kernel_rfl) (by kernel_rfl) (by kernel_rfl) (fun _ _ _ h => h) (Or.inl ⟨by rfl, ?_⟩) hS ?_
  rotate_left
  · intro wz hz; go_simp; try with_reducible rfl
  try simp only [Act.put, List.setIfInBounds_toArray, List.set_cons_zero, List.set_cons_succ, List.getElem_toArray, List.getElem_cons_succ, List.getElem_cons_zero]
  refine wpAnyH_take (i := 13) (v := ?_) rfl (by kernel_rfl) (by kernel_rfl) (by kernel_rfl) (fun _ _ _ h => h) (Or.inl ⟨by rfl, ?_⟩) hS ?_
  rotate_left
  · intro wz hz; obtain ⟨zz0, zz1, zz2⟩ := hz; go_simp; try with_reducible rfl
  try simp only [Act.put, List.setIfInBounds_toArray, List.set_cons_zero, List.set_cons_succ, List.getElem_toArray, List.getElem_cons_succ, List.getElem_cons_zero]
  refine wpAnyH_take (i := 14) (v := ?_) rfl (by kernel_rfl) (by kernel_rfl) (by kernel_rfl) (fun _ _ _ h => h) (Or.inl ⟨by rfl, ?_⟩) hS ?_
  rotate_left
  · intro wz hz; obtain ⟨zz0, zz1, zz2⟩ := hz; go_simp; try with_reducible rfl
  try simp only [Act.put, List.setIfInBounds_toArray, List.set_cons_zero, List.set_cons_succ, List.getElem_toArray, List.getElem_cons_succ, List.getElem_cons_zero]
  refine wpAnyH_ready (rs := [15]) (by kernel_rfl) (by simp) (AllReadyH.cons rfl (fun K hK => ?_) AllReadyH.nil)
  go_simp
  refine (hAl.out _ (kB.out _ (st2T hS).here)).mono ?_
  rintro e u15 ⟨rfl, hv15⟩
  have hS15 := mkS.out _ ((st2T hS).stays hv15)
  refine hK.out _ _ (hS15) (fun hSn => ?_)
  clear hK K hS
  have hS := hSn
  clear hSn
  try simp only [Act.put, List.setIfInBounds_toArray, List.set_cons_zero, List.set_cons_succ, List.getElem_toArray, List.getElem_cons_succ, List.getElem_cons_zero]
  refine wpAnyH_take (i := 16) (v := ?_) rfl (by kernel_rfl) (by kernel_rfl) (by kernel_rfl) (fun _ _ _ h => h) (Or.inl ⟨by rfl, ?_⟩) hS ?_
  rotate_left
  · intro wz hz; go_simp; try with_reducible rfl
  try simp only [Act.put, List.setIfInBounds_toArray, List.set_cons_zero, List.set_cons_succ, List.getElem_toArray, List.getElem_cons_succ, List.getElem_cons_zero]
  refine wpAnyH_take (i := 17) (v := ?_) rfl (by kernel_rfl) (by kernel_rfl) (by kernel_rfl) (fun _ _ _ h => h) (Or.inl ⟨by rfl, ?_⟩) hS ?_
  rotate_left
  · intro wz hz; obtain ⟨zz0, zz1, zz2⟩ := hz; go_simp; try with_reducible rfl
  try simp only [Act.put, List.setIfInBounds_toArray, List.set_cons_zero, List.set_cons_succ, List.getElem_toArray, List.getElem_cons_succ, List.getElem_cons_zero]
  refine wpAnyH_take (i := 19) (v := ?_) rfl (by kernel_rfl) (by kernel_rfl) (by kernel_rfl) (fun _ _ _ h => h) (Or.inl ⟨by rfl, ?_⟩) hS ?_
  rotate_left
  · intro wz hz; obtain ⟨zz0, zz1, zz2⟩ := hz; go_simp; try with_reducible rfl
  try simp only [Act.put, List.setIfInBounds_toArray, List.set_cons_zero, List.set_cons_succ, List.getElem_toArray, List.getElem_cons_succ, List.getElem_cons_zero]
  refine wpAnyH_ready (rs := [18]) (by kernel_rfl) (by simp) (AllReadyH.cons rfl (fun K hK => ?_) AllReadyH.nil)
  go_simp
  refine (hCa.out _ (kB.out _ (st2T hS).here)).mono ?_
  rintro e u18 ⟨a18, n18, c18, rfl, hT18, hv18⟩
  have HT18 := hid hT18
  have hS18 := mkS.out _ ((st2T hS).stays hv18)
  refine hK.out _ _ (hS18) (fun hSn => ?_)
  clear hK K hS
  have hS := hSn
  clear hSn
  try simp only [Act.put, List.setIfInBounds_toArray, List.set_cons_zero, List.set_cons_succ, List.getElem_toArray, List.getElem_cons_succ, List.getElem_cons_zero]
  refine wpAnyH_ready (rs := [20]) (by kernel_rfl) (by simp) (AllReadyH.cons rfl (fun K hK => ?_) AllReadyH.nil)
  go_simp
  refine (hCb.out _ (kB.out _ (st2T hS).here)).mono ?_
  rintro e u20 ⟨a20, n20, c20, rfl, hT20, hv20⟩
  have HT20 := hid hT20
  have HT18 := hid (HT18.out.below hv20)
  have hS20 := mkS.out _ ((st2T hS).stays hv20)
  refine hK.out _ _ (hS20) (fun hSn => ?_)
  clear hK K hS
  have hS := hSn
  clear hSn
  try simp only [Act.put, List.setIfInBounds_toArray, List.set_cons_zero, List.set_cons_succ, List.getElem_toArray, List.getElem_cons_succ, List.getElem_cons_zero]
  refine wpAnyH_ready (rs := [21]) (by kernel_rfl) (by simp) (AllReadyH.cons rfl (fun K hK => ?_) AllReadyH.nil)
  go_simp
  refine (SameScheme_any _ _ _ m m _ _ y y HT18.out HT20.out).mono ?_
  rintro e u21 ⟨he21, hv21⟩
  rw [cmp_self] at he21
  simp only [beq_self_eq_true, Bool.and_self] at he21
  subst he21
  have hS21 := mkS.out _ ((st2T hS).stays hv21)
  refine hK.out _ _ (hS21) (fun hSn => ?_)
  clear hK K hS
  have hS := hSn
  clear hSn
  try simp only [Act.put, List.setIfInBounds_toArray, List.set_cons_zero, List.set_cons_succ, List.getElem_toArray, List.getElem_cons_succ, List.getElem_cons_zero]
  refine wpAnyH_take (i := 22) (v := ?_) rfl (by kernel_rfl) (by kernel_rfl) (by kernel_rfl) (fun _ _ _ h => h) (Or.inl ⟨by rfl, ?_⟩) hS ?_
  rotate_left
  · intro wz hz; go_simp; try with_reducible rfl
  try simp only [Act.put, List.setIfInBounds_toArray, List.set_cons_zero, List.set_cons_succ, List.getElem_toArray, List.getElem_cons_succ, List.getElem_cons_zero]
  refine wpAnyH_take (i := 23) (v := ?_) rfl (by kernel_rfl) (by kernel_rfl) (by kernel_rfl) (fun _ _ _ h => h) (Or.inl ⟨by rfl, ?_⟩) hS ?_
  rotate_left
  · intro wz hz; go_simp; try with_reducible rfl
  try simp only [Act.put, List.setIfInBounds_toArray, List.set_cons_zero, List.set_cons_succ, List.getElem_toArray, List.getElem_cons_succ, List.getElem_cons_zero]
  refine wpAnyH_take (i := 24) (v := ?_) rfl (by kernel_rfl) (by kernel_rfl) (by kernel_rfl) (fun _ _ _ h => h) (Or.inl ⟨by rfl, ?_⟩) hS ?_
  rotate_left
  · intro wz hz; go_simp; try with_reducible rfl
  try simp only [Act.put, List.setIfInBounds_toArray, List.set_cons_zero, List.set_cons_succ, List.getElem_toArray, List.getElem_cons_succ, List.getElem_cons_zero]
  refine wpAnyH_done (by kernel_rfl) ?_ _
  have HZ := hid (st2T hS)
  clear hS
  go_wp2_with (go_at_call 13; refine (hLive.out _).mono ?_; rintro e wl ⟨rfl, hbl⟩; have HE := hid (bl_tr (kB.out _ HZ.out.here) hbl); clear hbl)
  go_ret
  exact ⟨rfl, HE.out⟩

set_option maxHeartbeats 8000000 in
set_option maxRecDepth 100000 in
theorem order_ttf (w : World) (ga gb gc : Int) (a b c : Tp) (a1 b1 c1 : Option Addr) (a2 b2 c2 : Nat) (hRS : Hid (∀ wz, Below w.heap.size w wz → Calls Try.prog 24 #[.agg #[.int .i64 ga, .int .i64 a.k, .int .i64 a.n, .slice a1 a.ks.length a2]] wz fun e w' => e = .returned (.bool true) ∧ Below wz.heap.size wz w')) (hAA : Hid (∀ wz, Below w.heap.size w wz → Calls Try.prog 17 #[.agg #[.int .i64 ga, .int .i64 a.k, .int .i64 a.n, .slice a1 a.ks.length a2], .agg #[.int .i64 ga, .int .i64 a.k, .int .i64 a.n, .slice a1 a.ks.length a2]] wz fun e w' => e = .returned (.bool true) ∧ Below wz.heap.size wz w')) (hAB : Hid (∀ wz, Below w.heap.size w wz → Calls Try.prog 17 #[.agg #[.int .i64 ga, .int .i64 a.k, .int .i64 a.n, .slice a1 a.ks.length a2], .agg #[.int .i64 gb, .int .i64 b.k, .int .i64 b.n, .slice b1 b.ks.length b2]] wz fun e w' => e = .returned (.bool true) ∧ Below wz.heap.size wz w')) (hBC : Hid (∀ wz, Below w.heap.size w wz → Calls Try.prog 17 #[.agg #[.int .i64 gb, .int .i64 b.k, .int .i64 b.n, .slice b1 b.ks.length b2], .agg #[.int .i64 gc, .int .i64 c.k, .int .i64 c.n, .slice c1 c.ks.length c2]] wz fun e w' => e = .returned (.bool true) ∧ Below wz.heap.size wz w')) (hAC : Hid (∀ wz, Below w.heap.size w wz → Calls Try.prog 17 #[.agg #[.int .i64 ga, .int .i64 a.k, .int .i64 a.n, .slice a1 a.ks.length a2], .agg #[.int .i64 gc, .int .i64 c.k, .int .i64 c.n, .slice c1 c.ks.length c2]] wz fun e w' => e = .returned (.bool true) ∧ Below wz.heap.size wz w')) (hBA : Hid (∀ wz, Below w.heap.size w wz → Calls Try.prog 17 #[.agg #[.int .i64 gb, .int .i64 b.k, .int .i64 b.n, .slice b1 b.ks.length b2], .agg #[.int .i64 ga, .int .i64 a.k, .int .i64 a.n, .slice a1 a.ks.length a2]] wz fun e w' => e = .returned (.bool false) ∧ Below wz.heap.size wz w')) (hAl : Hid (∀ wz, Below w.heap.size w wz → Calls Try.prog 19 #[.agg #[.int .i64 ga, .int .i64 a.k, .int .i64 a.n, .slice a1 a.ks.length a2], .agg #[.int .i64 gb, .int .i64 b.k, .int .i64 b.n, .slice b1 b.ks.length b2]] wz fun e w' => e = .returned (.bool false) ∧ Below wz.heap.size wz w')) (hLive : Hid (∀ wz, Calls Try.prog 13 #[] wz fun e w' => e = .returned (.bool true) ∧ Below wz.heap.size wz w')) :
    Calls Try.prog 6 #[.agg #[.int .i64 ga, .int .i64 a.k, .int .i64 a.n, .slice a1 a.ks.length a2], .agg #[.int .i64 gb, .int .i64 b.k, .int .i64 b.n, .slice b1 b.ks.length b2], .agg #[.int .i64 gc, .int .i64 c.k, .int .i64 c.n, .slice c1 c.ks.length c2]] w fun e w' => e = .returned (.bool true) ∧ Below w.heap.size w w' := by
  have Z := hid ((((st_new w).stays (bl_alloc (bl_alloc (bl_alloc (Below.refl _ _) (.cells #[.int .i64 ga, .int .i64 a.k, .int .i64 a.n, .slice a1 a.ks.length a2] 26)) (.cells #[.int .i64 gb, .int .i64 b.k, .int .i64 b.n, .slice b1 b.ks.length b2] 26)) (.cells #[.int .i64 gc, .int .i64 c.k, .int .i64 c.n, .slice c1 c.ks.length c2] 26))).addA (b := w.heap.size) (T := 26) (cur := [.int .i64 ga, .int .i64 a.k, .int .i64 a.n, .slice a1 a.ks.length a2]) (Arr.stays (Arr.stays ⟨heap_alloc_at _ _⟩ (bl_alloc (Below.refl _ _) _)) (bl_alloc (Below.refl _ _) _))))
  have Z := hid (Z.out.addA (b := w.heap.size + 1) (T := 26) (cur := [.int .i64 gb, .int .i64 b.k, .int .i64 b.n, .slice b1 b.ks.length b2]) (Arr.stays ⟨by have := heap_alloc_at (w.alloc (.cells #[.int .i64 ga, .int .i64 a.k, .int .i64 a.n, .slice a1 a.ks.length a2] 26)) (.cells #[.int .i64 gb, .int .i64 b.k, .int .i64 b.n, .slice b1 b.ks.length b2] 26); rw [size_alloc] at this; exact this⟩ (bl_alloc (Below.refl _ _) _)))
  have Z := hid (Z.out.addA (b := w.heap.size + 1 + 1) (T := 26) (cur := [.int .i64 gc, .int .i64 c.k, .int .i64 c.n, .slice c1 c.ks.length c2]) ⟨by have := heap_alloc_at ((w.alloc (.cells #[.int .i64 ga, .int .i64 a.k, .int .i64 a.n, .slice a1 a.ks.length a2] 26)).alloc (.cells #[.int .i64 gb, .int .i64 b.k, .int .i64 b.n, .slice b1 b.ks.length b2] 26)) (.cells #[.int .i64 gc, .int .i64 c.k, .int .i64 c.n, .slice c1 c.ks.length c2] 26); rw [size_alloc, size_alloc] at this; exact this⟩)
  obtain ⟨P, Z, ka, kb, kc, kB⟩ : ∃ P : World → Prop, Hid (St P (((w.alloc (.cells #[.int .i64 ga, .int .i64 a.k, .int .i64 a.n, .slice a1 a.ks.length a2] 26)).alloc (.cells #[.int .i64 gb, .int .i64 b.k, .int .i64 b.n, .slice b1 b.ks.length b2] 26)).alloc (.cells #[.int .i64 gc, .int .i64 c.k, .int .i64 c.n, .slice c1 c.ks.length c2] 26))) ∧ Hid (∀ W, P W → ∀ j : Nat, W.cell? ⟨w.heap.size, j, none⟩ = [.int .i64 ga, .int .i64 a.k, .int .i64 a.n, .slice a1 a.ks.length a2][j]?) ∧ Hid (∀ W, P W → ∀ j : Nat, W.cell? ⟨w.heap.size + 1, j, none⟩ = [.int .i64 gb, .int .i64 b.k, .int .i64 b.n, .slice b1 b.ks.length b2][j]?) ∧ Hid (∀ W, P W → ∀ j : Nat, W.cell? ⟨w.heap.size + 1 + 1, j, none⟩ = [.int .i64 gc, .int .i64 c.k, .int .i64 c.n, .slice c1 c.ks.length c2][j]?) ∧ Hid (∀ W, P W → Below w.heap.size w W) :=
    ⟨_, Z, fun W h => h.1.1.2.cell, fun W h => h.1.2.cell, fun W h => h.2.cell, fun W h => h.1.1.1⟩
  have m1 : Hid True := trivial
  have m2 : Hid True := trivial
  have m3 : Hid True := trivial
  have m4 : Hid True := trivial
  have m5 : Hid True := trivial
  have m6 : Hid True := trivial
  go_enter Try.func6, Try.ntmps6
  go_wp2_with (first | (go_at_call 24; have := m1; refine (hRS.out _ (kB.out _ Z.out.here)).mono ?_; rintro e w1 ⟨rfl, hb1⟩; have Z1 := hid (Z.out.stays hb1); have x1 := ka.out _ Z1.out.here; have y1 := kb.out _ Z1.out.here; have z1 := kc.out _ Z1.out.here; clear hb1 m1) | (go_at_call 17; have := m2; refine (hAA.out _ (kB.out _ Z1.out.here)).mono ?_; rintro e w2 ⟨rfl, hb2⟩; have Z2 := hid (Z1.out.stays hb2); have x2 := ka.out _ Z2.out.here; have y2 := kb.out _ Z2.out.here; have z2 := kc.out _ Z2.out.here; clear hb2 m2) | (go_at_call 24; have := m3; refine (hRS.out _ (kB.out _ Z2.out.here)).mono ?_; rintro e w3 ⟨rfl, hb3⟩; have Z3 := hid (Z2.out.stays hb3); have x3 := ka.out _ Z3.out.here; have y3 := kb.out _ Z3.out.here; have z3 := kc.out _ Z3.out.here; clear hb3 m3) | (go_at_call 17; have := m4; refine (hAB.out _ (kB.out _ Z3.out.here)).mono ?_; rintro e w4 ⟨rfl, hb4⟩; have Z4 := hid (Z3.out.stays hb4); have x4 := ka.out _ Z4.out.here; have y4 := kb.out _ Z4.out.here; have z4 := kc.out _ Z4.out.here; clear hb4 m4) | (go_at_call 17; have := m5; refine (hBC.out _ (kB.out _ Z4.out.here)).mono ?_; rintro e w5 ⟨rfl, hb5⟩; have Z5 := hid (Z4.out.stays hb5); have x5 := ka.out _ Z5.out.here; have y5 := kb.out _ Z5.out.here; have z5 := kc.out _ Z5.out.here; clear hb5 m5) | (go_at_call 17; have := m6; refine (hAC.out _ (kB.out _ Z5.out.here)).mono ?_; rintro e w6 ⟨rfl, hb6⟩; have Z6 := hid (Z5.out.stays hb6); have x6 := ka.out _ Z6.out.here; have y6 := kb.out _ Z6.out.here; have z6 := kc.out _ Z6.out.here; clear hb6 m6))
  have mkS : Hid (∀ wz, St P wz → (∀ j : Nat, wz.cell? ⟨w.heap.size, j, none⟩ = [.int .i64 ga, .int .i64 a.k, .int .i64 a.n, .slice a1 a.ks.length a2][j]?) ∧ (∀ j : Nat, wz.cell? ⟨w.heap.size + 1, j, none⟩ = [.int .i64 gb, .int .i64 b.k, .int .i64 b.n, .slice b1 b.ks.length b2][j]?) ∧ St P wz) := fun wz h => ⟨ka.out wz h.here, kb.out wz h.here, h⟩
  have hs0 := hid (mkS.out _ (Z6.out.stays (Below.refl _ _).drew))
  clear x1 y1 z1 x2 y2 z2 x3 y3 z3 x4 y4 z4 x5 y5 z5 x6 y6 z6
  refine wp_region_held_drew (S := fun wz => (∀ j : Nat, wz.cell? ⟨w.heap.size, j, none⟩ = [.int .i64 ga, .int .i64 a.k, .int .i64 a.n, .slice a1 a.ks.length a2][j]?) ∧ (∀ j : Nat, wz.cell? ⟨w.heap.size + 1, j, none⟩ = [.int .i64 gb, .int .i64 b.k, .int .i64 b.n, .slice b1 b.ks.length b2][j]?) ∧ St P wz) (by kernel_rfl) (hs0.out) (fun hS => ?_)
  refine wpAnyH_take (i := 0) (v := ?_) rfl (by kernel_rfl) (by kernel_rfl) (by kernel_rfl) (fun _ _ _ h => h) (Or.inl ⟨by rfl, ?_⟩) hS ?_
  rotate_left
  · intro wz hz; obtain ⟨zz0, zz1, zz2⟩ := hz; go_simp; try with_reducible rfl
  try simp only [Act.put, List.setIfInBounds_toArray, List.set_cons_zero, List.set_cons_succ, List.getElem_toArray, List.getElem_cons_succ, List.getElem_cons_zero]
  refine wpAnyH_take (i := 1) (v := ?_) rfl (by kernel_rfl) (by kernel_rfl) (by kernel_rfl) (fun _ _ _ h => h) (Or.inl ⟨by rfl, ?_⟩) hS ?_
  rotate_left
  · intro wz hz; obtain ⟨zz0, zz1, zz2⟩ := hz; go_simp; try with_reducible rfl
  try simp only [Act.put, List.setIfInBounds_toArray, List.set_cons_zero, List.set_cons_succ, List.getElem_toArray, List.getElem_cons_succ, List.getElem_cons_zero]
  refine wpAnyH_take (i := 3) (v := ?_) rfl (by kernel_rfl) (by kernel_rfl) (by kernel_rfl) (fun _ _ _ h => h) (Or.inl ⟨by rfl, ?_⟩) hS ?_
  rotate_left
  · intro wz hz; obtain ⟨zz0, zz1, zz2⟩ := hz; go_simp; try with_reducible rfl
  try simp only [Act.put, List.setIfInBounds_toArray, List.set_cons_zero, List.set_cons_succ, List.getElem_toArray, List.getElem_cons_succ, List.getElem_cons_zero]
  refine wpAnyH_take (i := 4) (v := ?_) rfl (by kernel_rfl) (by kernel_rfl) (by kernel_rfl) (fun _ _ _ h => h) (Or.inl ⟨by rfl, ?_⟩) hS ?_
  rotate_left
  · intro wz hz; obtain ⟨zz0, zz1, zz2⟩ := hz; go_simp; try with_reducible rfl
  try simp only [Act.put, List.setIfInBounds_toArray, List.set_cons_zero, List.set_cons_succ, List.getElem_toArray, List.getElem_cons_succ, List.getElem_cons_zero]
  refine wpAnyH_ready (rs := [2]) (by kernel_rfl) (by simp) (AllReadyH.cons rfl (fun K hK => ?_) AllReadyH.nil)
  go_simp
  refine (hAl.out _ (kB.out _ (st2T hS).here)).mono ?_
  rintro e u2 ⟨rfl, hv2⟩
  have hS2 := mkS.out _ ((st2T hS).stays hv2)
  refine hK.out _ _ (hS2) (fun hSn => ?_)
  clear hK K hS
  have hS := hSn
  clear hSn
  try simp only [Act.put, List.setIfInBounds_toArray, List.set_cons_zero, List.set_cons_succ, List.getElem_toArray, List.getElem_cons_succ, List.getElem_cons_zero]
  refine wpAnyH_ready (rs := [5]) (by kernel_rfl) (by simp) (AllReadyH.cons rfl (fun K hK => ?_) AllReadyH.nil)
  go_simp
  refine (hAB.out _ (kB.out _ (st2T hS).here)).mono ?_
  rintro e u5 ⟨rfl, hv5⟩
  have hS5 := mkS.out _ ((st2T hS).stays hv5)
  refine hK.out _ _ (hS5) (fun hSn => ?_)
  clear hK K hS
  have hS := hSn
  clear hSn
  try simp only [Act.put, List.setIfInBounds_toArray, List.set_cons_zero, List.set_cons_succ, List.getElem_toArray, List.getElem_cons_succ, List.getElem_cons_zero]
  refine wpAnyH_take (i := 6) (v := ?_) rfl (by kernel_rfl) (by kernel_rfl) (by kernel_rfl) (fun _ _ _ h => h) (Or.inl ⟨by rfl, ?_⟩) hS ?_
  rotate_left
  · intro wz hz; go_simp; try with_reducible rfl
  try simp only [Act.put, List.setIfInBounds_toArray, List.set_cons_zero, List.set_cons_succ, List.getElem_toArray, List.getElem_cons_succ, List.getElem_cons_zero]
  refine wpAnyH_take (i := 7) (v := ?_) rfl (by kernel_rfl) (by kernel_rfl) (by kernel_rfl) (fun _ _ _ h => h) (Or.inl ⟨by rfl, ?_⟩) hS ?_
  rotate_left
  · intro wz hz; obtain ⟨zz0, zz1, zz2⟩ := hz; go_simp; try with_reducible rfl
  try simp only [Act.put, List.setIfInBounds_toArray, List.set_cons_zero, List.set_cons_succ, List.getElem_toArray, List.getElem_cons_succ, List.getElem_cons_zero]
  refine wpAnyH_take (i := 8) (v := ?_) rfl (by kernel_rfl) (by kernel_rfl) (by kernel_rfl) (fun _ _ _ h => h) (Or.inl ⟨by rfl, ?_⟩) hS ?_
  rotate_left
  · intro wz hz; obtain ⟨zz0, zz1, zz2⟩ := hz; go_simp; try with_reducible rfl
  try simp only [Act.put, List.setIfInBounds_toArray, List.set_cons_zero, List.set_cons_succ, List.getElem_toArray, List.getElem_cons_succ, List.getElem_cons_zero]
  refine wpAnyH_ready (rs := [9]) (by kernel_rfl) (by simp) (AllReadyH.cons rfl (fun K hK => ?_) AllReadyH.nil)
  go_simp
  refine (hBA.out _ (kB.out _ (st2T hS).here)).mono ?_
  rintro e u9 ⟨rfl, hv9⟩
  have hS9 := mkS.out _ ((st2T hS).stays hv9)
  refine hK.out _ _ (hS9) (fun hSn => ?_)
  clear hK K hS
  have hS := hSn
  clear hSn
  try simp only [Act.put, List.setIfInBounds_toArray, List.set_cons_zero, List.set_cons_succ, List.getElem_toArray, List.getElem_cons_succ, List.getElem_cons_zero]
  refine wpAnyH_take (i := 10) (v := ?_) rfl (by kernel_rfl) (by kernel_rfl) (by kernel_rfl) (fun _ _ _ h => h) (Or.inl ⟨by rfl, ?_⟩) hS ?_
  rotate_left
  · intro wz hz; go_simp; try with_reducible rfl
  try simp only [Act.put, List.setIfInBounds_toArray, List.set_cons_zero, List.set_cons_succ, List.getElem_toArray, List.getElem_cons_succ, List.getElem_cons_zero]
  refine wpAnyH_take (i := 11) (v := ?_) rfl (by kernel_rfl) (by kernel_rfl) (by kernel_rfl) (fun _ _ _ h => h) (Or.inl ⟨by rfl, ?_⟩) hS ?_
  rotate_left
  · intro wz hz; go_simp; try with_reducible rfl
  try simp only [Act.put, List.setIfInBounds_toArray, List.set_cons_zero, List.set_cons_succ, List.getElem_toArray, List.getElem_cons_succ, List.getElem_cons_zero]
  refine wpAnyH_take (i := 12) (v := ?_) rfl (by kernel_rfl) (by kernel_rfl) (by kernel_rfl) (fun _ _ _ h => h) (Or.inl ⟨by rfl, ?_⟩) hS ?_
  rotate_left
  · intro wz hz; go_simp; try with_reducible rfl
  try simp only [Act.put, List.setIfInBounds_toArray, List.set_cons_zero, List.set_cons_succ, List.getElem_toArray, List.getElem_cons_succ, List.getElem_cons_zero]
  refine wpAnyH_take (i := 13) (v := ?_) rfl (by kernel_rfl) (by kernel_rfl) (by kernel_rfl) (fun _ _ _ h => h) (Or.inl ⟨by rfl, ?_⟩) hS ?_
  rotate_left
  · intro wz hz; obtain ⟨zz0, zz1, zz2⟩ := hz; go_simp; try with_reducible rfl
  try simp only [Act.put, List.setIfInBounds_toArray, List.set_cons_zero, List.set_cons_succ, List.getElem_toArray, List.getElem_cons_succ, List.getElem_cons_zero]
  refine wpAnyH_take (i := 14) (v := ?_) rfl (by kernel_rfl) (by kernel_rfl) (by kernel_rfl) (fun _ _ _ h => h) (Or.inl ⟨by rfl, ?_⟩) hS ?_
  rotate_left
  · intro wz hz; obtain ⟨zz0, zz1, zz2⟩ := hz; go_simp; try with_reducible rfl
  try simp only [Act.put, List.setIfInBounds_toArray, List.set_cons_zero, List.set_cons_succ, List.getElem_toArray, List.getElem_cons_succ, List.getElem_cons_zero]
  refine wpAnyH_ready (rs := [15]) (by kernel_rfl) (by simp) (AllReadyH.cons rfl (fun K hK => ?_) AllReadyH.nil)
  go_simp
  refine (hAl.out _ (kB.out _ (st2T hS).here)).mono ?_
  rintro e u15 ⟨rfl, hv15⟩
  have hS15 := mkS.out _ ((st2T hS).stays hv15)
  refine hK.out _ _ (hS15) (fun hSn => ?_)
  clear hK K hS
  have hS := hSn
  clear hSn
  try simp only [Act.put, List.setIfInBounds_toArray, List.set_cons_zero, List.set_cons_succ, List.getElem_toArray, List.getElem_cons_succ, List.getElem_cons_zero]
  refine wpAnyH_take (i := 16) (v := ?_) rfl (by kernel_rfl) (by kernel_rfl) (by kernel_rfl) (fun _ _ _ h => h) (Or.inl ⟨by rfl, ?_⟩) hS ?_
  rotate_left
  · intro wz hz; go_simp; try with_reducible rfl
  try simp only [Act.put, List.setIfInBounds_toArray, List.set_cons_zero, List.set_cons_succ, List.getElem_toArray, List.getElem_cons_succ, List.getElem_cons_zero]
  refine wpAnyH_take (i := 17) (v := undef) rfl (by kernel_rfl) (by kernel_rfl) (by kernel_rfl) (fun _ _ _ h => h) (Or.inr ⟨by rfl, rfl⟩) hS ?_
  try simp only [Act.put, List.setIfInBounds_toArray, List.set_cons_zero, List.set_cons_succ, List.getElem_toArray, List.getElem_cons_succ, List.getElem_cons_zero]
  refine wpAnyH_take (i := 18) (v := undef) rfl (by kernel_rfl) (by kernel_rfl) (by kernel_rfl) (fun _ _ _ h => h) (Or.inr ⟨by rfl, rfl⟩) hS ?_
  try simp only [Act.put, List.setIfInBounds_toArray, List.set_cons_zero, List.set_cons_succ, List.getElem_toArray, List.getElem_cons_succ, List.getElem_cons_zero]
  refine wpAnyH_take (i := 19) (v := undef) rfl (by kernel_rfl) (by kernel_rfl) (by kernel_rfl) (fun _ _ _ h => h) (Or.inr ⟨by rfl, rfl⟩) hS ?_
  try simp only [Act.put, List.setIfInBounds_toArray, List.set_cons_zero, List.set_cons_succ, List.getElem_toArray, List.getElem_cons_succ, List.getElem_cons_zero]
  refine wpAnyH_take (i := 20) (v := undef) rfl (by kernel_rfl) (by kernel_rfl) (by kernel_rfl) (fun _ _ _ h => h) (Or.inr ⟨by rfl, rfl⟩) hS ?_
  try simp only [Act.put, List.setIfInBounds_toArray, List.set_cons_zero, List.set_cons_succ, List.getElem_toArray, List.getElem_cons_succ, List.getElem_cons_zero]
  refine wpAnyH_take (i := 21) (v := undef) rfl (by kernel_rfl) (by kernel_rfl) (by kernel_rfl) (fun _ _ _ h => h) (Or.inr ⟨by rfl, rfl⟩) hS ?_
  try simp only [Act.put, List.setIfInBounds_toArray, List.set_cons_zero, List.set_cons_succ, List.getElem_toArray, List.getElem_cons_succ, List.getElem_cons_zero]
  refine wpAnyH_take (i := 22) (v := undef) rfl (by kernel_rfl) (by kernel_rfl) (by kernel_rfl) (fun _ _ _ h => h) (Or.inr ⟨by rfl, rfl⟩) hS ?_
  try simp only [Act.put, List.setIfInBounds_toArray, List.set_cons_zero, List.set_cons_succ, List.getElem_toArray, List.getElem_cons_succ, List.getElem_cons_zero]
  refine wpAnyH_take (i := 23) (v := ?_) rfl (by kernel_rfl) (by kernel_rfl) (by kernel_rfl) (fun _ _ _ h => h) (Or.inl ⟨by rfl, ?_⟩) hS ?_
  rotate_left
  · intro wz hz; go_simp; try with_reducible rfl
  try simp only [Act.put, List.setIfInBounds_toArray, List.set_cons_zero, List.set_cons_succ, List.getElem_toArray, List.getElem_cons_succ, List.getElem_cons_zero]
  refine wpAnyH_take (i := 24) (v := ?_) rfl (by kernel_rfl) (by kernel_rfl) (by kernel_rfl) (fun _ _ _ h => h) (Or.inl ⟨by rfl, ?_⟩) hS ?_
  rotate_left
  · intro wz hz; go_simp; try with_reducible rfl
  try simp only [Act.put, List.setIfInBounds_toArray, List.set_cons_zero, List.set_cons_succ, List.getElem_toArray, List.getElem_cons_succ, List.getElem_cons_zero]
  refine wpAnyH_done (by kernel_rfl) ?_ _
  have HZ := hid (st2T hS)
  clear hS
  go_wp2_with (go_at_call 13; refine (hLive.out _).mono ?_; rintro e wl ⟨rfl, hbl⟩; have HE := hid (bl_tr (kB.out _ HZ.out.here) hbl); clear hbl)
  go_ret
  exact ⟨rfl, HE.out⟩

set_option maxHeartbeats 8000000 in
set_option maxRecDepth 100000 in
theorem order_ttt (w : World) (ga gb gc : Int) (a b c : Tp) (a1 b1 c1 : Option Addr) (a2 b2 c2 : Nat) (hRS : Hid (∀ wz, Below w.heap.size w wz → Calls Try.prog 24 #[.agg #[.int .i64 ga, .int .i64 a.k, .int .i64 a.n, .slice a1 a.ks.length a2]] wz fun e w' => e = .returned (.bool true) ∧ Below wz.heap.size wz w')) (hAA : Hid (∀ wz, Below w.heap.size w wz → Calls Try.prog 17 #[.agg #[.int .i64 ga, .int .i64 a.k, .int .i64 a.n, .slice a1 a.ks.length a2], .agg #[.int .i64 ga, .int .i64 a.k, .int .i64 a.n, .slice a1 a.ks.length a2]] wz fun e w' => e = .returned (.bool true) ∧ Below wz.heap.size wz w')) (hAB : Hid (∀ wz, Below w.heap.size w wz → Calls Try.prog 17 #[.agg #[.int .i64 ga, .int .i64 a.k, .int .i64 a.n, .slice a1 a.ks.length a2], .agg #[.int .i64 gb, .int .i64 b.k, .int .i64 b.n, .slice b1 b.ks.length b2]] wz fun e w' => e = .returned (.bool true) ∧ Below wz.heap.size wz w')) (hBC : Hid (∀ wz, Below w.heap.size w wz → Calls Try.prog 17 #[.agg #[.int .i64 gb, .int .i64 b.k, .int .i64 b.n, .slice b1 b.ks.length b2], .agg #[.int .i64 gc, .int .i64 c.k, .int .i64 c.n, .slice c1 c.ks.length c2]] wz fun e w' => e = .returned (.bool true) ∧ Below wz.heap.size wz w')) (hAC : Hid (∀ wz, Below w.heap.size w wz → Calls Try.prog 17 #[.agg #[.int .i64 ga, .int .i64 a.k, .int .i64 a.n, .slice a1 a.ks.length a2], .agg #[.int .i64 gc, .int .i64 c.k, .int .i64 c.n, .slice c1 c.ks.length c2]] wz fun e w' => e = .returned (.bool true) ∧ Below wz.heap.size wz w')) (hBA : Hid (∀ wz, Below w.heap.size w wz → Calls Try.prog 17 #[.agg #[.int .i64 gb, .int .i64 b.k, .int .i64 b.n, .slice b1 b.ks.length b2], .agg #[.int .i64 ga, .int .i64 a.k, .int .i64 a.n, .slice a1 a.ks.length a2]] wz fun e w' => e = .returned (.bool true) ∧ Below wz.heap.size wz w')) (hAl : Hid (∀ wz, Below w.heap.size w wz → Calls Try.prog 19 #[.agg #[.int .i64 ga, .int .i64 a.k, .int .i64 a.n, .slice a1 a.ks.length a2], .agg #[.int .i64 gb, .int .i64 b.k, .int .i64 b.n, .slice b1 b.ks.length b2]] wz fun e w' => e = .returned (.bool true) ∧ Below wz.heap.size wz w')) (hLive : Hid (∀ wz, Calls Try.prog 13 #[] wz fun e w' => e = .returned (.bool true) ∧ Below wz.heap.size wz w')) (m : Nat) (y : Tp) (hCa : Hid (∀ wz, Below w.heap.size w wz → Calls Try.prog 29 #[.agg #[.int .i64 ga, .int .i64 a.k, .int .i64 a.n, .slice a1 a.ks.length a2]] wz fun e w' => ∃ a' n' c', e = .returned (.agg #[.int .i64 (m : Nat), .int .i64 y.k, .int .i64 y.n, .slice a' y.ks.length c']) ∧ TAt w' Any n' [.int .i64 y.k, .int .i64 y.n, .slice a' y.ks.length c'] y ∧ Below wz.heap.size wz w')) (hCb : Hid (∀ wz, Below w.heap.size w wz → Calls Try.prog 29 #[.agg #[.int .i64 gb, .int .i64 b.k, .int .i64 b.n, .slice b1 b.ks.length b2]] wz fun e w' => ∃ a' n' c', e = .returned (.agg #[.int .i64 (m : Nat), .int .i64 y.k, .int .i64 y.n, .slice a' y.ks.length c']) ∧ TAt w' Any n' [.int .i64 y.k, .int .i64 y.n, .slice a' y.ks.length c'] y ∧ Below wz.heap.size wz w')) :
    Calls Try.prog 6 #[.agg #[.int .i64 ga, .int .i64 a.k, .int .i64 a.n, .slice a1 a.ks.length a2], .agg #[.int .i64 gb, .int .i64 b.k, .int .i64 b.n, .slice b1 b.ks.length b2], .agg #[.int .i64 gc, .int .i64 c.k, .int .i64 c.n, .slice c1 c.ks.length c2]] w fun e w' => e = .returned (.bool true) ∧ Below w.heap.size w w' := by
  have Z := hid ((((st_new w).stays (bl_alloc (bl_alloc (bl_alloc (Below.refl _ _) (.cells #[.int .i64 ga, .int .i64 a.k, .int .i64 a.n, .slice a1 a.ks.length a2] 26)) (.cells #[.int .i64 gb, .int .i64 b.k, .int .i64 b.n, .slice b1 b.ks.length b2] 26)) (.cells #[.int .i64 gc, .int .i64 c.k, .int .i64 c.n, .slice c1 c.ks.length c2] 26))).addA (b := w.heap.size) (T := 26) (cur := [.int .i64 ga, .int .i64 a.k, .int .i64 a.n, .slice a1 a.ks.length a2]) (Arr.stays (Arr.stays ⟨heap_alloc_at _ _⟩ (bl_alloc (Below.refl _ _) _)) (bl_alloc (Below.refl _ _) _))))
  have Z := hid (Z.out.addA (b := w.heap.size + 1) (T := 26) (cur := [.int .i64 gb, .int .i64 b.k, .int .i64 b.n, .slice b1 b.ks.length b2]) (Arr.stays ⟨by have := heap_alloc_at (w.alloc (.cells #[.int .i64 ga, .int .i64 a.k, .int .i64 a.n, .slice a1 a.ks.length a2] 26)) (.cells #[.int .i64 gb, .int .i64 b.k, .int .i64 b.n, .slice b1 b.ks.length b2] 26); rw [size_alloc] at this; exact this⟩ (bl_alloc (Below.refl _ _) _)))
  have Z := hid (Z.out.addA (b := w.heap.size + 1 + 1) (T := 26) (cur := [.int .i64 gc, .int .i64 c.k, .int .i64 c.n, .slice c1 c.ks.length c2]) ⟨by have := heap_alloc_at ((w.alloc (.cells #[.int .i64 ga, .int .i64 a.k, .int .i64 a.n, .slice a1 a.ks.length a2] 26)).alloc (.cells #[.int .i64 gb, .int .i64 b.k, .int .i64 b.n, .slice b1 b.ks.length b2] 26)) (.cells #[.int .i64 gc, .int .i64 c.k, .int .i64 c.n, .slice c1 c.ks.length c2] 26); rw [size_alloc, size_alloc] at this; exact this⟩)
  obtain ⟨P, Z, ka, kb, kc, kB⟩ : ∃ P : World → Prop, Hid (St P (((w.alloc (.cells #[.int .i64 ga, .int .i64 a.k, .int .i64 a.n, .slice a1 a.ks.length a2] 26)).alloc (.cells #[.int .i64 gb, .int .i64 b.k, .int .i64 b.n, .slice b1 b.ks.length b2] 26)).alloc (.cells #[.int .i64 gc, .int .i64 c.k, .int .i64 c.n, .slice c1 c.ks.length c2] 26))) ∧ Hid (∀ W, P W → ∀ j : Nat, W.cell? ⟨w.heap.size, j, none⟩ = [.int .i64 ga, .int .i64 a.k, .int .i64 a.n, .slice a1 a.ks.length a2][j]?) ∧ Hid (∀ W, P W → ∀ j : Nat, W.cell? ⟨w.heap.size + 1, j, none⟩ = [.int .i64 gb, .int .i64 b.k, .int .i64 b.n, .slice b1 b.ks.length b2][j]?) ∧ Hid (∀ W, P W → ∀ j : Nat, W.cell? ⟨w.heap.size + 1 + 1, j, none⟩ = [.int .i64 gc, .int .i64 c.k, .int .i64 c.n, .slice c1 c.ks.length c2][j]?) ∧ Hid (∀ W, P W → Below w.heap.size w W) :=
    ⟨_, Z, fun W h => h.1.1.2.cell, fun W h => h.1.2.cell, fun W h => h.2.cell, fun W h => h.1.1.1⟩
  have m1 : Hid True := trivial
  have m2 : Hid True := trivial
  have m3 : Hid True := trivial
  have m4 : Hid True := trivial
  have m5 : Hid True := trivial
  have m6 : Hid True := trivial
  go_enter Try.func6, Try.ntmps6
  go_wp2_with (first | (go_at_call 24; have := m1; refine (hRS.out _ (kB.out _ Z.out.here)).mono ?_; rintro e w1 ⟨rfl, hb1⟩; have Z1 := hid (Z.out.stays hb1); have x1 := ka.out _ Z1.out.here; have y1 := kb.out _ Z1.out.here; have z1 := kc.out _ Z1.out.here; clear hb1 m1) | (go_at_call 17; have := m2; refine (hAA.out _ (kB.out _ Z1.out.here)).mono ?_; rintro e w2 ⟨rfl, hb2⟩; have Z2 := hid (Z1.out.stays hb2); have x2 := ka.out _ Z2.out.here; have y2 := kb.out _ Z2.out.here; have z2 := kc.out _ Z2.out.here; clear hb2 m2) | (go_at_call 24; have := m3; refine (hRS.out _ (kB.out _ Z2.out.here)).mono ?_; rintro e w3 ⟨rfl, hb3⟩; have Z3 := hid (Z2.out.stays hb3); have x3 := ka.out _ Z3.out.here; have y3 := kb.out _ Z3.out.here; have z3 := kc.out _ Z3.out.here; clear hb3 m3) | (go_at_call 17; have := m4; refine (hAB.out _ (kB.out _ Z3.out.here)).mono ?_; rintro e w4 ⟨rfl, hb4⟩; have Z4 := hid (Z3.out.stays hb4); have x4 := ka.out _ Z4.out.here; have y4 := kb.out _ Z4.out.here; have z4 := kc.out _ Z4.out.here; clear hb4 m4) | (go_at_call 17; have := m5; refine (hBC.out _ (kB.out _ Z4.out.here)).mono ?_; rintro e w5 ⟨rfl, hb5⟩; have Z5 := hid (Z4.out.stays hb5); have x5 := ka.out _ Z5.out.here; have y5 := kb.out _ Z5.out.here; have z5 := kc.out _ Z5.out.here; clear hb5 m5) | (go_at_call 17; have := m6; refine (hAC.out _ (kB.out _ Z5.out.here)).mono ?_; rintro e w6 ⟨rfl, hb6⟩; have Z6 := hid (Z5.out.stays hb6); have x6 := ka.out _ Z6.out.here; have y6 := kb.out _ Z6.out.here; have z6 := kc.out _ Z6.out.here; clear hb6 m6))
  have mkS : Hid (∀ wz, St P wz → (∀ j : Nat, wz.cell? ⟨w.heap.size, j, none⟩ = [.int .i64 ga, .int .i64 a.k, .int .i64 a.n, .slice a1 a.ks.length a2][j]?) ∧ (∀ j : Nat, wz.cell? ⟨w.heap.size + 1, j, none⟩ = [.int .i64 gb, .int .i64 b.k, .int .i64 b.n, .slice b1 b.ks.length b2][j]?) ∧ St P wz) := fun wz h => ⟨ka.out wz h.here, kb.out wz h.here, h⟩
  have hs0 := hid (mkS.out _ (Z6.out.stays (Below.refl _ _).drew))
  clear x1 y1 z1 x2 y2 z2 x3 y3 z3 x4 y4 z4 x5 y5 z5 x6 y6 z6
  refine wp_region_held_drew (S := fun wz => (∀ j : Nat, wz.cell? ⟨w.heap.size, j, none⟩ = [.int .i64 ga, .int .i64 a.k, .int .i64 a.n, .slice a1 a.ks.length a2][j]?) ∧ (∀ j : Nat, wz.cell? ⟨w.heap.size + 1, j, none⟩ = [.int .i64 gb, .int .i64 b.k, .int .i64 b.n, .slice b1 b.ks.length b2][j]?) ∧ St P wz) (by kernel_rfl) (hs0.out) (fun hS => ?_)
  refine wpAnyH_take (i := 0) (v := ?_) rfl (by kernel_rfl) (by kernel_rfl) (by kernel_rfl) (fun _ _ _ h => h) (Or.inl ⟨by rfl, ?_⟩) hS ?_
  rotate_left
  · intro wz hz; obtain ⟨zz0, zz1, zz2⟩ := hz; go_simp; try with_reducible rfl
  try simp only [Act.put, List.setIfInBounds_toArray, List.set_cons_zero, List.set_cons_succ, List.getElem_toArray, List.getElem_cons_succ, List.getElem_cons_zero]
  refine wpAnyH_take (i := 1) (v := ?_) rfl (by kernel_rfl) (by kernel_rfl) (by kernel_rfl) (fun _ _ _ h => h) (Or.inl ⟨by rfl, ?_⟩) hS ?_
  rotate_left
  · intro wz hz; obtain ⟨zz0, zz1, zz2⟩ := hz; go_simp; try with_reducible rfl
  try simp only [Act.put, List.setIfInBounds_toArray, List.set_cons_zero, List.set_cons_succ, List.getElem_toArray, List.getElem_cons_succ, List.getElem_cons_zero]
  refine wpAnyH_take (i := 3) (v := ?_) rfl (by kernel_rfl) (by kernel_rfl) (by kernel_rfl) (fun _ _ _ h => h) (Or.inl ⟨by rfl, ?_⟩) hS ?_
  rotate_left
  · intro wz hz; obtain ⟨zz0, zz1, zz2⟩ := hz; go_simp; try with_reducible rfl
  try simp only [Act.put, List.setIfInBounds_toArray, List.set_cons_zero, List.set_cons_succ, List.getElem_toArray, List.getElem_cons_succ, List.getElem_cons_zero]
  refine wpAnyH_take (i := 4) (v := ?_) rfl (by kernel_rfl) (by kernel_rfl) (by kernel_rfl) (fun _ _ _ h => h) (Or.inl ⟨by rfl, ?_⟩) hS ?_
  rotate_left
  · intro wz hz; obtain ⟨zz0, zz1, zz2⟩ := hz; go_simp; try with_reducible rfl
  try simp only [Act.put, List.setIfInBounds_toArray, List.set_cons_zero, List.set_cons_succ, List.getElem_toArray, List.getElem_cons_succ, List.getElem_cons_zero]
  refine wpAnyH_ready (rs := [2]) (by kernel_rfl) (by simp) (AllReadyH.cons rfl (fun K hK => ?_) AllReadyH.nil)
  go_simp
  refine (hAl.out _ (kB.out _ (st2T hS).here)).mono ?_
  rintro e u2 ⟨rfl, hv2⟩
  have hS2 := mkS.out _ ((st2T hS).stays hv2)
  refine hK.out _ _ (hS2) (fun hSn => ?_)
  clear hK K hS
  have hS := hSn
  clear hSn
  try simp only [Act.put, List.setIfInBounds_toArray, List.set_cons_zero, List.set_cons_succ, List.getElem_toArray, List.getElem_cons_succ, List.getElem_cons_zero]
  refine wpAnyH_ready (rs := [5]) (by kernel_rfl) (by simp) (AllReadyH.cons rfl (fun K hK => ?_) AllReadyH.nil)
  go_simp
  refine (hAB.out _ (kB.out _ (st2T hS).here)).mono ?_
  rintro e u5 ⟨rfl, hv5⟩
  have hS5 := mkS.out _ ((st2T hS).stays hv5)
  refine hK.out _ _ (hS5) (fun hSn => ?_)
  clear hK K hS
  have hS := hSn
  clear hSn
  try simp only [Act.put, List.setIfInBounds_toArray, List.set_cons_zero, List.set_cons_succ, List.getElem_toArray, List.getElem_cons_succ, List.getElem_cons_zero]
  refine wpAnyH_take (i := 6) (v := ?_) rfl (by kernel_rfl) (by kernel_rfl) (by kernel_rfl) (fun _ _ _ h => h) (Or.inl ⟨by rfl, ?_⟩) hS ?_
  rotate_left
  · intro wz hz; go_simp; try with_reducible rfl
  try simp only [Act.put, List.setIfInBounds_toArray, List.set_cons_zero, List.set_cons_succ, List.getElem_toArray, List.getElem_cons_succ, List.getElem_cons_zero]
  refine wpAnyH_take (i := 7) (v := ?_) rfl (by kernel_rfl) (by kernel_rfl) (by kernel_rfl) (fun _ _ _ h => h) (Or.inl ⟨by rfl, ?_⟩) hS ?_
  rotate_left
  · intro wz hz; obtain ⟨zz0, zz1, zz2⟩ := hz; go_simp; try with_reducible rfl
  try simp only [Act.put, List.setIfInBounds_toArray, List.set_cons_zero, List.set_cons_succ, List.getElem_toArray, List.getElem_cons_succ, List.getElem_cons_zero]
  refine wpAnyH_take (i := 8) (v := ?_) rfl (by kernel_rfl) (by kernel_rfl) (by kernel_rfl) (fun _ _ _ h => h) (Or.inl ⟨by rfl, ?_⟩) hS ?_
  rotate_left
  · intro wz hz; obtain ⟨zz0, zz1, zz2⟩ := hz; go_simp; try with_reducible rfl
  try simp only [Act.put, List.setIfInBounds_toArray, List.set_cons_zero, List.set_cons_succ, List.getElem_toArray, List.getElem_cons_succ, List.getElem_cons_zero]
  refine wpAnyH_ready (rs := [9]) (by kernel_rfl) (by simp) (AllReadyH.cons rfl (fun K hK => ?_) AllReadyH.nil)
  go_simp
  refine (hBA.out _ (kB.out _ (st2T hS).here)).mono ?_
  rintro e u9 ⟨rfl, hv9⟩
  have hS9 := mkS.out _ ((st2T hS).stays hv9)
  refine hK.out _ _ (hS9) (fun hSn => ?_)
  clear hK K hS
  have hS := hSn
  clear hSn
  try simp only [Act.put, List.setIfInBounds_toArray, List.set_cons_zero, List.set_cons_succ, List.getElem_toArray, List.getElem_cons_succ, List.getElem_cons_zero]
  refine wpAnyH_take (i := 10) (v := ?_) rfl (by kernel_rfl) (by kernel_rfl) (by kernel_rfl) (fun _ _ _ h => h) (Or.inl ⟨by rfl, ?_⟩) hS ?_
  rotate_left
  · intro wz hz; go_simp; try with_reducible rfl
  try simp only [Act.put, List.setIfInBounds_toArray, List.set_cons_zero, List.set_cons_succ, List.getElem_toArray, List.getElem_cons_succ, List.getElem_cons_zero]
  refine wpAnyH_take (i := 11) (v := ?_) rfl (by kernel_rfl) (by kernel_rfl) (by kernel_rfl) (fun _ _ _ h => h) (Or.inl ⟨by rfl, ?_⟩) hS ?_
  rotate_left
  · intro wz hz; go_simp; try with_reducible rfl
  try simp only [Act.put, List.setIfInBounds_toArray, List.set_cons_zero, List.set_cons_succ, List.getElem_toArray, List.getElem_cons_succ, List.getElem_cons_zero]
  refine wpAnyH_take (i := 12) (v := ?_) rfl (by kernel_rfl) (by kernel_rfl) (by kernel_rfl) (fun _ _ _ h => h) (Or.inl ⟨by rfl, ?_⟩) hS ?_
  rotate_left
  · intro wz hz; go_simp; try with_reducible rfl
  try simp only [Act.put, List.setIfInBounds_toArray, List.set_cons_zero, List.set_cons_succ, List.getElem_toArray, List.getElem_cons_succ, List.getElem_cons_zero]
  refine wpAnyH_take (i := 13) (v := ?_) rfl (by kernel_rfl) (by kernel_rfl) (by kernel_rfl) (fun _ _ _ h => h) (Or.inl ⟨by rfl, ?_⟩) hS ?_
  rotate_left
  · intro wz hz; obtain ⟨zz0, zz1, zz2⟩ := hz; go_simp; try with_reducible rfl
  try simp only [Act.put, List.setIfInBounds_toArray, List.set_cons_zero, List.set_cons_succ, List.getElem_toArray, List.getElem_cons_succ, List.getElem_cons_zero]
  refine wpAnyH_take (i := 14) (v := ?_) rfl (by kernel_rfl) (by kernel_rfl) (by kernel_rfl) (fun _ _ _ h => h) (Or.inl ⟨by rfl, ?_⟩) hS ?_
  rotate_left
  · intro wz hz; obtain ⟨zz0, zz1, zz2⟩ := hz; go_simp; try with_reducible rfl
  try simp only [Act.put, List.setIfInBounds_toArray, List.set_cons_zero, List.set_cons_succ, List.getElem_toArray, List.getElem_cons_succ, List.getElem_cons_zero]
  refine wpAnyH_ready (rs := [15]) (by kernel_rfl) (by simp) (AllReadyH.cons rfl (fun K hK => ?_) AllReadyH.nil)
  go_simp
  refine (hAl.out _ (kB.out _ (st2T hS).here)).mono ?_
  rintro e u15 ⟨rfl, hv15⟩
  have hS15 := mkS.out _ ((st2T hS).stays hv15)
  refine hK.out _ _ (hS15) (fun hSn => ?_)
  clear hK K hS
  have hS := hSn
  clear hSn
  try simp only [Act.put, List.setIfInBounds_toArray, List.set_cons_zero, List.set_cons_succ, List.getElem_toArray, List.getElem_cons_succ, List.getElem_cons_zero]
  refine wpAnyH_take (i := 16) (v := ?_) rfl (by kernel_rfl) (by kernel_rfl) (by kernel_rfl) (fun _ _ _ h => h) (Or.inl ⟨by rfl, ?_⟩) hS ?_
  rotate_left
  · intro wz hz; go_simp; try with_reducible rfl
  try simp only [Act.put, List.setIfInBounds_toArray, List.set_cons_zero, List.set_cons_succ, List.getElem_toArray, List.getElem_cons_succ, List.getElem_cons_zero]
  refine wpAnyH_take (i := 17) (v := ?_) rfl (by kernel_rfl) (by kernel_rfl) (by kernel_rfl) (fun _ _ _ h => h) (Or.inl ⟨by rfl, ?_⟩) hS ?_
  rotate_left
  · intro wz hz; obtain ⟨zz0, zz1, zz2⟩ := hz; go_simp; try with_reducible rfl
  try simp only [Act.put, List.setIfInBounds_toArray, List.set_cons_zero, List.set_cons_succ, List.getElem_toArray, List.getElem_cons_succ, List.getElem_cons_zero]
  refine wpAnyH_take (i := 19) (v := ?_) rfl (by kernel_rfl) (by kernel_rfl) (by kernel_rfl) (fun _ _ _ h => h) (Or.inl ⟨by rfl, ?_⟩) hS ?_
  rotate_left
  · intro wz hz; obtain ⟨zz0, zz1, zz2⟩ := hz; go_simp; try with_reducible rfl
  try simp only [Act.put, List.setIfInBounds_toArray, List.set_cons_zero, List.set_cons_succ, List.getElem_toArray, List.getElem_cons_succ, List.getElem_cons_zero]
  refine wpAnyH_ready (rs := [18]) (by kernel_rfl) (by simp) (AllReadyH.cons rfl (fun K hK => ?_) AllReadyH.nil)
  go_simp
  refine (hCa.out _ (kB.out _ (st2T hS).here)).mono ?_
  rintro e u18 ⟨a18, n18, c18, rfl, hT18, hv18⟩
  have HT18 := hid hT18
  have hS18 := mkS.out _ ((st2T hS).stays hv18)
  refine hK.out _ _ (hS18) (fun hSn => ?_)
  clear hK K hS
  have hS := hSn
  clear hSn
  try simp only [Act.put, List.setIfInBounds_toArray, List.set_cons_zero, List.set_cons_succ, List.getElem_toArray, List.getElem_cons_succ, List.getElem_cons_zero]
  refine wpAnyH_ready (rs := [20]) (by kernel_rfl) (by simp) (AllReadyH.cons rfl (fun K hK => ?_) AllReadyH.nil)
  go_simp
  refine (hCb.out _ (kB.out _ (st2T hS).here)).mono ?_
  rintro e u20 ⟨a20, n20, c20, rfl, hT20, hv20⟩
  have HT20 := hid hT20
  have HT18 := hid (HT18.out.below hv20)
  have hS20 := mkS.out _ ((st2T hS).stays hv20)
  refine hK.out _ _ (hS20) (fun hSn => ?_)
  clear hK K hS
  have hS := hSn
  clear hSn
  try simp only [Act.put, List.setIfInBounds_toArray, List.set_cons_zero, List.set_cons_succ, List.getElem_toArray, List.getElem_cons_succ, List.getElem_cons_zero]
  refine wpAnyH_ready (rs := [21]) (by kernel_rfl) (by simp) (AllReadyH.cons rfl (fun K hK => ?_) AllReadyH.nil)
  go_simp
  refine (SameScheme_any _ _ _ m m _ _ y y HT18.out HT20.out).mono ?_
  rintro e u21 ⟨he21, hv21⟩
  rw [cmp_self] at he21
  simp only [beq_self_eq_true, Bool.and_self] at he21
  subst he21
  have hS21 := mkS.out _ ((st2T hS).stays hv21)
  refine hK.out _ _ (hS21) (fun hSn => ?_)
  clear hK K hS
  have hS := hSn
  clear hSn
  try simp only [Act.put, List.setIfInBounds_toArray, List.set_cons_zero, List.set_cons_succ, List.getElem_toArray, List.getElem_cons_succ, List.getElem_cons_zero]
  refine wpAnyH_take (i := 22) (v := ?_) rfl (by kernel_rfl) (by kernel_rfl) (by kernel_rfl) (fun _ _ _ h => h) (Or.inl ⟨by rfl, ?_⟩) hS ?_
  rotate_left
  · intro wz hz; go_simp; try with_reducible rfl
  try simp only [Act.put, List.setIfInBounds_toArray, List.set_cons_zero, List.set_cons_succ, List.getElem_toArray, List.getElem_cons_succ, List.getElem_cons_zero]
  refine wpAnyH_take (i := 23) (v := ?_) rfl (by kernel_rfl) (by kernel_rfl) (by kernel_rfl) (fun _ _ _ h => h) (Or.inl ⟨by rfl, ?_⟩) hS ?_
  rotate_left
  · intro wz hz; go_simp; try with_reducible rfl
  try simp only [Act.put, List.setIfInBounds_toArray, List.set_cons_zero, List.set_cons_succ, List.getElem_toArray, List.getElem_cons_succ, List.getElem_cons_zero]
  refine wpAnyH_take (i := 24) (v := ?_) rfl (by kernel_rfl) (by kernel_rfl) (by kernel_rfl) (fun _ _ _ h => h) (Or.inl ⟨by rfl, ?_⟩) hS ?_
  rotate_left
  · intro wz hz; go_simp; try with_reducible rfl
  try simp only [Act.put, List.setIfInBounds_toArray, List.set_cons_zero, List.set_cons_succ, List.getElem_toArray, List.getElem_cons_succ, List.getElem_cons_zero]
  refine wpAnyH_done (by kernel_rfl) ?_ _
  have HZ := hid (st2T hS)
  clear hS
  go_wp2_with (go_at_call 13; refine (hLive.out _).mono ?_; rintro e wl ⟨rfl, hbl⟩; have HE := hid (bl_tr (kB.out _ HZ.out.here) hbl); clear hbl)
  go_ret
  exact ⟨rfl, HE.out⟩

theorem order_walk (w : World) (na nb nc : Nat) (ga gb gc : Int) (va vb vc : List Value) (a b c : Tp) (ha : TAt w Any na va a) (hb : TAt w Any nb vb b) (hc : TAt w Any nc vc c) (hca : a.cnt ≤ 1048576) (hcb : b.cnt ≤ 1048576) (hcc : c.cnt ≤ 1048576) :
    Calls Try.prog 6 #[.agg (.int .i64 ga :: va).toArray, .agg (.int .i64 gb :: vb).toArray, .agg (.int .i64 gc :: vc).toArray] w fun e w' => e = .returned (.bool true) ∧ Below w.heap.size w w' := by
  obtain ⟨a1, a2, rfl⟩ := ha.form
  obtain ⟨b1, b2, rfl⟩ := hb.form
  obtain ⟨c1, c2, rfl⟩ := hc.form
  have AL : ∀ (x y : Tp) (nx ny : Nat) (gx gy : Int) (vx vy : List Value), TAt w Any nx vx x → TAt w Any ny vy y → x.cnt ≤ 1048576 → y.cnt ≤ 1048576 → ∀ r : Bool, (r = true ↔ MatOk gx gy x y) → ∀ wz, Below w.heap.size w wz → Calls Try.prog 17 #[.agg (.int .i64 gx :: vx).toArray, .agg (.int .i64 gy :: vy).toArray] wz fun e w' => e = .returned (.bool r) ∧ Below wz.heap.size wz w' := fun x y nx ny gx gy vx vy hx hy cx cy r hr wz hz => AtLeast_any wz nx ny gx gy vx vy x y (hx.below hz) (hy.below hz) cx cy r hr
  have RS : ∀ r : Bool, Tp.rightS ga a = r → ∀ wz, Below w.heap.size w wz → Calls Try.prog 24 #[.agg #[.int .i64 ga, .int .i64 a.k, .int .i64 a.n, .slice a1 a.ks.length a2]] wz fun e w' => e = .returned (.bool r) ∧ Below wz.heap.size wz w' := fun r hr wz hz => by rw [← hr]; exact RightScheme_any wz na ga _ a (ha.below hz) hca
  have LV : Hid (∀ wz, Calls Try.prog 13 #[] wz fun e w' => e = .returned (.bool true) ∧ Below wz.heap.size wz w') := fun wz => alive12 wz
  have AK : ∀ r1 r2 : Bool, (r1 = true ↔ MatOk ga gb a b) → (r2 = true ↔ MatOk gb ga b a) → ∀ r, (r1 && r2) = r → ∀ wz, Below w.heap.size w wz → Calls Try.prog 19 #[.agg #[.int .i64 ga, .int .i64 a.k, .int .i64 a.n, .slice a1 a.ks.length a2], .agg #[.int .i64 gb, .int .i64 b.k, .int .i64 b.n, .slice b1 b.ks.length b2]] wz fun e w' => e = .returned (.bool r) ∧ Below wz.heap.size wz w' := fun r1 r2 h1 h2 r hr wz hz => by rw [← hr]; exact Alike_any wz na nb ga gb _ _ a b (ha.below hz) (hb.below hz) hca hcb r1 r2 h1 h2
  have no : ∀ {p : Prop}, ¬ p → (false = true ↔ p) := fun hn => ⟨fun h => absurd h Bool.false_ne_true, fun h => absurd h hn⟩
  have yes : ∀ {p : Prop}, p → (true = true ↔ p) := fun hp => ⟨fun _ => hp, fun _ => rfl⟩
  have dec : ∀ p : Prop, ∃ r : Bool, r = true ↔ p := fun p => by
    by_cases h : p
    · exact ⟨true, yes h⟩
    · exact ⟨false, no h⟩
  by_cases hr : Tp.rightS ga a = true
  · by_cases hp : MatOk ga gb a b
    · by_cases hq : MatOk gb gc b c
      · have hac := mat_trans hp hq
        by_cases hp2 : MatOk gb ga b a
        · obtain ⟨hg, hab⟩ := mat_alike hp hp2
          refine order_ttt w ga gb gc a b c a1 b1 c1 a2 b2 c2 (RS true hr) (AL a a na na ga ga _ _ ha ha hca hca true (yes (mat_refl.2 hr))) (AL a b na nb ga gb _ _ ha hb hca hcb true (yes hp)) (AL b c nb nc gb gc _ _ hb hc hcb hcc true (yes hq)) (AL a c na nc ga gc _ _ ha hc hca hcc true (yes hac)) (AL b a nb na gb ga _ _ hb ha hcb hca true (yes hp2)) (AK true true (yes hp) (yes hp2) true rfl) LV (Tp.canL a).length (Tp.ren (plf (Tp.canL a)) a) ?_ ?_
          · intro wz hz
            refine (Canonical_any wz na ga _ a (ha.below hz) hca).mono ?_
            rintro e w' ⟨y, a', n', c', rfl, rfl, h1, h2⟩
            exact ⟨a', n', c', rfl, h1, h2⟩
          · intro wz hz
            refine (Canonical_any wz nb gb _ b (hb.below hz) hcb).mono ?_
            rintro e w' ⟨y, a', n', c', rfl, rfl, h1, h2⟩
            rw [← hab] at h1 ⊢
            exact ⟨a', n', c', rfl, h1, h2⟩
        · exact order_ttf w ga gb gc a b c a1 b1 c1 a2 b2 c2 (RS true hr) (AL a a na na ga ga _ _ ha ha hca hca true (yes (mat_refl.2 hr))) (AL a b na nb ga gb _ _ ha hb hca hcb true (yes hp)) (AL b c nb nc gb gc _ _ hb hc hcb hcc true (yes hq)) (AL a c na nc ga gc _ _ ha hc hca hcc true (yes hac)) (AL b a nb na gb ga _ _ hb ha hcb hca false (no hp2)) (AK true false (yes hp) (no hp2) false rfl) LV
      · by_cases hp2 : MatOk gb ga b a
        · obtain ⟨hg, hab⟩ := mat_alike hp hp2
          refine order_tft w ga gb gc a b c a1 b1 c1 a2 b2 c2 (RS true hr) (AL a a na na ga ga _ _ ha ha hca hca true (yes (mat_refl.2 hr))) (AL a b na nb ga gb _ _ ha hb hca hcb true (yes hp)) (AL b c nb nc gb gc _ _ hb hc hcb hcc false (no hq)) (AL b a nb na gb ga _ _ hb ha hcb hca true (yes hp2)) (AK true true (yes hp) (yes hp2) true rfl) LV (Tp.canL a).length (Tp.ren (plf (Tp.canL a)) a) ?_ ?_
          · intro wz hz
            refine (Canonical_any wz na ga _ a (ha.below hz) hca).mono ?_
            rintro e w' ⟨y, a', n', c', rfl, rfl, h1, h2⟩
            exact ⟨a', n', c', rfl, h1, h2⟩
          · intro wz hz
            refine (Canonical_any wz nb gb _ b (hb.below hz) hcb).mono ?_
            rintro e w' ⟨y, a', n', c', rfl, rfl, h1, h2⟩
            rw [← hab] at h1 ⊢
            exact ⟨a', n', c', rfl, h1, h2⟩
        · exact order_tff w ga gb gc a b c a1 b1 c1 a2 b2 c2 (RS true hr) (AL a a na na ga ga _ _ ha ha hca hca true (yes (mat_refl.2 hr))) (AL a b na nb ga gb _ _ ha hb hca hcb true (yes hp)) (AL b c nb nc gb gc _ _ hb hc hcb hcc false (no hq)) (AL b a nb na gb ga _ _ hb ha hcb hca false (no hp2)) (AK true false (yes hp) (no hp2) false rfl) LV
    · exact order_tf w ga gb gc a b c a1 b1 c1 a2 b2 c2 (RS true hr) (AL a a na na ga ga _ _ ha ha hca hca true (yes (mat_refl.2 hr))) (AL a b na nb ga gb _ _ ha hb hca hcb false (no hp)) (fun wz hz => by obtain ⟨r2, h2⟩ := dec (MatOk gb ga b a); exact AK false r2 (no hp) h2 false (Bool.false_and _) wz hz) LV
  · have hr' : Tp.rightS ga a = false := by simpa using hr
    have hp : ¬ MatOk ga gb a b := fun h => hr h.1
    exact order_ff w ga gb gc a b c a1 b1 c1 a2 b2 c2 (RS false hr') (AL a a na na ga ga _ _ ha ha hca hca false (no (fun h => hr (mat_refl.1 h)))) (AL a b na nb ga gb _ _ ha hb hca hcb false (no hp)) (fun wz hz => by obtain ⟨r2, h2⟩ := dec (MatOk gb ga b a); exact AK false r2 (no hp) h2 false (Bool.false_and _) wz hz) LV

end Go.Proofs.Ythijckdhndbdoaa
