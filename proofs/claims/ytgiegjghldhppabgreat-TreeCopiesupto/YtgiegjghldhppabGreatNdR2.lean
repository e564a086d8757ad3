/- When a node of one sort is right. -/
import Derived.Deep.RegionHeld
import Derived.Test.YtgiegjghldhppabGreatNdQ1
import Derived.BigRegion
namespace Go.Proofs.YtgiegjghldhppabGreat
open Go.RowKit
set_option linter.unusedVariables false
set_option linter.unusedSimpArgs false

set_option maxHeartbeats 4000000 in
set_option maxRecDepth 100000 in
theorem own2 (n : Nat) (qlet : ErrLOf 24 98 Nd.letE n 3) : ErrOf 81 (Nd.ownN 2) (n + 1) 2 := by
  intro w b o vs nd hb hc ha
  obtain ⟨k, op, m, vp, p, vl0, l0, vl1, l1, vl2, l2, vl3, l3, rfl, rfl, -, -, -, ⟨tx, hpx, hpl⟩, kl0, kl1, kl2, kl3⟩ := At.exp ha
  clear ha
  have hp := pn_any
  have TX : Hid (∀ w', Below w.heap.size w w' → Strs w' vp p) := fun w' h' => (tx.move (Keeps.of_below h') (fun _ h => h)).strs
  have RL : Hid (∀ w', Below w.heap.size w w' → Calls Tryz.prog 24 #[vl2, .func (.func 98) #[] #[]] w' fun e w'' => e = outc (Nd.errF Nd.letE l2) ∧ Below w'.heap.size w' w'') := fun w' h' => qlet w' vl2 l2 (kl2.below h')
  obtain ⟨ap, cp, rfl⟩ := tx.form
  clear tx
  obtain ⟨al0, cl0, rfl, -⟩ := kl0.form
  clear kl0
  obtain ⟨al1, cl1, rfl, -⟩ := kl1.form
  clear kl1
  obtain ⟨al2, cl2, rfl, -⟩ := kl2.form
  clear kl2
  obtain ⟨al3, cl3, rfl, -⟩ := kl3.form
  clear kl3
  have d0 : w.cell? ⟨b, o, none⟩ = some (.int .i64 k) := hc 0 _ rfl
  have D0 : Hid (∀ w', Below w.heap.size w w' → w'.cell? ⟨b, o, none⟩ = some (.int .i64 k)) := fun w' h' => (h'.cell hb).trans (hc 0 _ rfl)
  have d1 : w.cell? ⟨b, o + 1, none⟩ = some (.int .i64 op) := hc 1 _ rfl
  have D1 : Hid (∀ w', Below w.heap.size w w' → w'.cell? ⟨b, o + 1, none⟩ = some (.int .i64 op)) := fun w' h' => (h'.cell hb).trans (hc 1 _ rfl)
  have d2 : w.cell? ⟨b, o + 2, none⟩ = some (.int .i64 m) := hc 2 _ rfl
  have D2 : Hid (∀ w', Below w.heap.size w w' → w'.cell? ⟨b, o + 2, none⟩ = some (.int .i64 m)) := fun w' h' => (h'.cell hb).trans (hc 2 _ rfl)
  have d3 : w.cell? ⟨b, o + 3, none⟩ = some (.slice ap p.length cp) := hc 3 _ rfl
  have D3 : Hid (∀ w', Below w.heap.size w w' → w'.cell? ⟨b, o + 3, none⟩ = some (.slice ap p.length cp)) := fun w' h' => (h'.cell hb).trans (hc 3 _ rfl)
  have d4 : w.cell? ⟨b, o + 4, none⟩ = some (.slice al0 l0.length cl0) := hc 4 _ rfl
  have D4 : Hid (∀ w', Below w.heap.size w w' → w'.cell? ⟨b, o + 4, none⟩ = some (.slice al0 l0.length cl0)) := fun w' h' => (h'.cell hb).trans (hc 4 _ rfl)
  have d5 : w.cell? ⟨b, o + 5, none⟩ = some (.slice al1 l1.length cl1) := hc 5 _ rfl
  have D5 : Hid (∀ w', Below w.heap.size w w' → w'.cell? ⟨b, o + 5, none⟩ = some (.slice al1 l1.length cl1)) := fun w' h' => (h'.cell hb).trans (hc 5 _ rfl)
  have d6 : w.cell? ⟨b, o + 6, none⟩ = some (.slice al2 l2.length cl2) := hc 6 _ rfl
  have D6 : Hid (∀ w', Below w.heap.size w w' → w'.cell? ⟨b, o + 6, none⟩ = some (.slice al2 l2.length cl2)) := fun w' h' => (h'.cell hb).trans (hc 6 _ rfl)
  have d7 : w.cell? ⟨b, o + 7, none⟩ = some (.slice al3 l3.length cl3) := hc 7 _ rfl
  have D7 : Hid (∀ w', Below w.heap.size w w' → w'.cell? ⟨b, o + 7, none⟩ = some (.slice al3 l3.length cl3)) := fun w' h' => (h'.cell hb).trans (hc 7 _ rfl)
  have HC : Cells w b o [.int .i64 k, .int .i64 op, .int .i64 m, .slice ap p.length cp, .slice al0 l0.length cl0, .slice al1 l1.length cl1, .slice al2 l2.length cl2, .slice al3 l3.length cl3] := hc
  clear hc qlet
  go_enter Tryz.func81, Tryz.ntmps81
  go_wp2
  have hS0 : Cells w.drew b o [.int .i64 k, .int .i64 op, .int .i64 m, .slice ap p.length cp, .slice al0 l0.length cl0, .slice al1 l1.length cl1, .slice al2 l2.length cl2, .slice al3 l3.length cl3] := HC
  refine wp_region_held_drew (S := fun w' => Cells w' b o [.int .i64 k, .int .i64 op, .int .i64 m, .slice ap p.length cp, .slice al0 l0.length cl0, .slice al1 l1.length cl1, .slice al2 l2.length cl2, .slice al3 l3.length cl3]) follows_mixed hS0 (fun hS => ?_)
  refine wpAnyH_take (i := 0) (v := ?_) rfl (by kernel_rfl) (by kernel_rfl) (by kernel_rfl) (fun _ _ _ h => h) (Or.inl ⟨by rfl, ?_⟩) hS ?_
  rotate_left
  · intro wz hz; have y0 : wz.cell? ⟨b, o, none⟩ = some (.int .i64 k) := hz 0 _ rfl; have y1 := hz 1 _ rfl; have y2 := hz 2 _ rfl; have y3 := hz 3 _ rfl; have y4 := hz 4 _ rfl; have y5 := hz 5 _ rfl; have y6 := hz 6 _ rfl; have y7 := hz 7 _ rfl; clear hz; go_simp; try with_reducible rfl
  try simp only [Act.put, List.setIfInBounds_toArray, List.set_cons_zero, List.set_cons_succ]
  refine wpAnyH_take (i := 1) (v := ?_) rfl (by kernel_rfl) (by kernel_rfl) (by kernel_rfl) (fun _ _ _ h => h) (Or.inl ⟨by rfl, ?_⟩) hS ?_
  rotate_left
  · intro wz hz; have y0 : wz.cell? ⟨b, o, none⟩ = some (.int .i64 k) := hz 0 _ rfl; have y1 := hz 1 _ rfl; have y2 := hz 2 _ rfl; have y3 := hz 3 _ rfl; have y4 := hz 4 _ rfl; have y5 := hz 5 _ rfl; have y6 := hz 6 _ rfl; have y7 := hz 7 _ rfl; clear hz; go_simp; try with_reducible rfl
  try simp only [Act.put, List.setIfInBounds_toArray, List.set_cons_zero, List.set_cons_succ]
  refine wpAnyH_take (i := 2) (v := ?_) rfl (by kernel_rfl) (by kernel_rfl) (by kernel_rfl) (fun _ _ _ h => h) (Or.inl ⟨by rfl, ?_⟩) hS ?_
  rotate_left
  · intro wz hz; have y0 : wz.cell? ⟨b, o, none⟩ = some (.int .i64 k) := hz 0 _ rfl; have y1 := hz 1 _ rfl; have y2 := hz 2 _ rfl; have y3 := hz 3 _ rfl; have y4 := hz 4 _ rfl; have y5 := hz 5 _ rfl; have y6 := hz 6 _ rfl; have y7 := hz 7 _ rfl; clear hz; go_simp; try with_reducible rfl
  try simp only [Act.put, List.setIfInBounds_toArray, List.set_cons_zero, List.set_cons_succ]
  refine wpAnyH_take (i := 3) (v := ?_) rfl (by kernel_rfl) (by kernel_rfl) (by kernel_rfl) (fun _ _ _ h => h) (Or.inl ⟨by rfl, ?_⟩) hS ?_
  rotate_left
  · intro wz hz; have y0 : wz.cell? ⟨b, o, none⟩ = some (.int .i64 k) := hz 0 _ rfl; have y1 := hz 1 _ rfl; have y2 := hz 2 _ rfl; have y3 := hz 3 _ rfl; have y4 := hz 4 _ rfl; have y5 := hz 5 _ rfl; have y6 := hz 6 _ rfl; have y7 := hz 7 _ rfl; clear hz; go_simp; try with_reducible rfl
  try simp only [Act.put, List.setIfInBounds_toArray, List.set_cons_zero, List.set_cons_succ]
  refine wpAnyH_take (i := 4) (v := ?_) rfl (by kernel_rfl) (by kernel_rfl) (by kernel_rfl) (fun _ _ _ h => h) (Or.inl ⟨by rfl, ?_⟩) hS ?_
  rotate_left
  · intro wz hz; have y0 : wz.cell? ⟨b, o, none⟩ = some (.int .i64 k) := hz 0 _ rfl; have y1 := hz 1 _ rfl; have y2 := hz 2 _ rfl; have y3 := hz 3 _ rfl; have y4 := hz 4 _ rfl; have y5 := hz 5 _ rfl; have y6 := hz 6 _ rfl; have y7 := hz 7 _ rfl; clear hz; go_simp; try with_reducible rfl
  try simp only [Act.put, List.setIfInBounds_toArray, List.set_cons_zero, List.set_cons_succ]
  refine wpAnyH_take (i := 5) (v := ?_) rfl (by kernel_rfl) (by kernel_rfl) (by kernel_rfl) (fun _ _ _ h => h) (Or.inl ⟨by rfl, ?_⟩) hS ?_
  rotate_left
  · intro wz hz; have y0 : wz.cell? ⟨b, o, none⟩ = some (.int .i64 k) := hz 0 _ rfl; have y1 := hz 1 _ rfl; have y2 := hz 2 _ rfl; have y3 := hz 3 _ rfl; have y4 := hz 4 _ rfl; have y5 := hz 5 _ rfl; have y6 := hz 6 _ rfl; have y7 := hz 7 _ rfl; clear hz; go_simp; try with_reducible rfl
  try simp only [Act.put, List.setIfInBounds_toArray, List.set_cons_zero, List.set_cons_succ]
  refine wpAnyH_take (i := 6) (v := ?_) rfl (by kernel_rfl) (by kernel_rfl) (by kernel_rfl) (fun _ _ _ h => h) (Or.inl ⟨by rfl, ?_⟩) hS ?_
  rotate_left
  · intro wz hz; have y0 : wz.cell? ⟨b, o, none⟩ = some (.int .i64 k) := hz 0 _ rfl; have y1 := hz 1 _ rfl; have y2 := hz 2 _ rfl; have y3 := hz 3 _ rfl; have y4 := hz 4 _ rfl; have y5 := hz 5 _ rfl; have y6 := hz 6 _ rfl; have y7 := hz 7 _ rfl; clear hz; go_simp; try with_reducible rfl
  try simp only [Act.put, List.setIfInBounds_toArray, List.set_cons_zero, List.set_cons_succ]
  refine wpAnyH_take (i := 7) (v := ?_) rfl (by kernel_rfl) (by kernel_rfl) (by kernel_rfl) (fun _ _ _ h => h) (Or.inl ⟨by rfl, ?_⟩) hS ?_
  rotate_left
  · intro wz hz; have y0 : wz.cell? ⟨b, o, none⟩ = some (.int .i64 k) := hz 0 _ rfl; have y1 := hz 1 _ rfl; have y2 := hz 2 _ rfl; have y3 := hz 3 _ rfl; have y4 := hz 4 _ rfl; have y5 := hz 5 _ rfl; have y6 := hz 6 _ rfl; have y7 := hz 7 _ rfl; clear hz; go_simp; try with_reducible rfl
  try simp only [Act.put, List.setIfInBounds_toArray, List.set_cons_zero, List.set_cons_succ]
  refine wpAnyH_take (i := 8) (v := ?_) rfl (by kernel_rfl) (by kernel_rfl) (by kernel_rfl) (fun _ _ _ h => h) (Or.inl ⟨by rfl, ?_⟩) hS ?_
  rotate_left
  · intro wz hz; have y0 : wz.cell? ⟨b, o, none⟩ = some (.int .i64 k) := hz 0 _ rfl; have y1 := hz 1 _ rfl; have y2 := hz 2 _ rfl; have y3 := hz 3 _ rfl; have y4 := hz 4 _ rfl; have y5 := hz 5 _ rfl; have y6 := hz 6 _ rfl; have y7 := hz 7 _ rfl; clear hz; go_simp; try with_reducible rfl
  try simp only [Act.put, List.setIfInBounds_toArray, List.set_cons_zero, List.set_cons_succ]
  refine wpAnyH_take (i := 9) (v := ?_) rfl (by kernel_rfl) (by kernel_rfl) (by kernel_rfl) (fun _ _ _ h => h) (Or.inl ⟨by rfl, ?_⟩) hS ?_
  rotate_left
  · intro wz hz; have y0 : wz.cell? ⟨b, o, none⟩ = some (.int .i64 k) := hz 0 _ rfl; have y1 := hz 1 _ rfl; have y2 := hz 2 _ rfl; have y3 := hz 3 _ rfl; have y4 := hz 4 _ rfl; have y5 := hz 5 _ rfl; have y6 := hz 6 _ rfl; have y7 := hz 7 _ rfl; clear hz; go_simp; try with_reducible rfl
  try simp only [Act.put, List.setIfInBounds_toArray, List.set_cons_zero, List.set_cons_succ]
  refine wpAnyH_take (i := 10) (v := ?_) rfl (by kernel_rfl) (by kernel_rfl) (by kernel_rfl) (fun _ _ _ h => h) (Or.inl ⟨by rfl, ?_⟩) hS ?_
  rotate_left
  · intro wz hz; have y0 : wz.cell? ⟨b, o, none⟩ = some (.int .i64 k) := hz 0 _ rfl; have y1 := hz 1 _ rfl; have y2 := hz 2 _ rfl; have y3 := hz 3 _ rfl; have y4 := hz 4 _ rfl; have y5 := hz 5 _ rfl; have y6 := hz 6 _ rfl; have y7 := hz 7 _ rfl; clear hz; go_simp; try with_reducible rfl
  try simp only [Act.put, List.setIfInBounds_toArray, List.set_cons_zero, List.set_cons_succ]
  refine wpAnyH_take (i := 11) (v := ?_) rfl (by kernel_rfl) (by kernel_rfl) (by kernel_rfl) (fun _ _ _ h => h) (Or.inl ⟨by rfl, ?_⟩) hS ?_
  rotate_left
  · intro wz hz; have y0 : wz.cell? ⟨b, o, none⟩ = some (.int .i64 k) := hz 0 _ rfl; have y1 := hz 1 _ rfl; have y2 := hz 2 _ rfl; have y3 := hz 3 _ rfl; have y4 := hz 4 _ rfl; have y5 := hz 5 _ rfl; have y6 := hz 6 _ rfl; have y7 := hz 7 _ rfl; clear hz; go_simp; try with_reducible rfl
  try simp only [Act.put, List.setIfInBounds_toArray, List.set_cons_zero, List.set_cons_succ]
  refine wpAnyH_take (i := 12) (v := ?_) rfl (by kernel_rfl) (by kernel_rfl) (by kernel_rfl) (fun _ _ _ h => h) (Or.inl ⟨by rfl, ?_⟩) hS ?_
  rotate_left
  · intro wz hz; have y0 : wz.cell? ⟨b, o, none⟩ = some (.int .i64 k) := hz 0 _ rfl; have y1 := hz 1 _ rfl; have y2 := hz 2 _ rfl; have y3 := hz 3 _ rfl; have y4 := hz 4 _ rfl; have y5 := hz 5 _ rfl; have y6 := hz 6 _ rfl; have y7 := hz 7 _ rfl; clear hz; go_simp; try with_reducible rfl
  try simp only [Act.put, List.setIfInBounds_toArray, List.set_cons_zero, List.set_cons_succ]
  refine wpAnyH_take (i := 13) (v := ?_) rfl (by kernel_rfl) (by kernel_rfl) (by kernel_rfl) (fun _ _ _ h => h) (Or.inl ⟨by rfl, ?_⟩) hS ?_
  rotate_left
  · intro wz hz; have y0 : wz.cell? ⟨b, o, none⟩ = some (.int .i64 k) := hz 0 _ rfl; have y1 := hz 1 _ rfl; have y2 := hz 2 _ rfl; have y3 := hz 3 _ rfl; have y4 := hz 4 _ rfl; have y5 := hz 5 _ rfl; have y6 := hz 6 _ rfl; have y7 := hz 7 _ rfl; clear hz; go_simp; try with_reducible rfl
  try simp only [Act.put, List.setIfInBounds_toArray, List.set_cons_zero, List.set_cons_succ]
  refine wpAnyH_take (i := 14) (v := ?_) rfl (by kernel_rfl) (by kernel_rfl) (by kernel_rfl) (fun _ _ _ h => h) (Or.inl ⟨by rfl, ?_⟩) hS ?_
  rotate_left
  · intro wz hz; have y0 : wz.cell? ⟨b, o, none⟩ = some (.int .i64 k) := hz 0 _ rfl; have y1 := hz 1 _ rfl; have y2 := hz 2 _ rfl; have y3 := hz 3 _ rfl; have y4 := hz 4 _ rfl; have y5 := hz 5 _ rfl; have y6 := hz 6 _ rfl; have y7 := hz 7 _ rfl; clear hz; go_simp; try with_reducible rfl
  try simp only [Act.put, List.setIfInBounds_toArray, List.set_cons_zero, List.set_cons_succ]
  refine wpAnyH_take (i := 15) (v := ?_) rfl (by kernel_rfl) (by kernel_rfl) (by kernel_rfl) (fun _ _ _ h => h) (Or.inl ⟨by rfl, ?_⟩) hS ?_
  rotate_left
  · intro wz hz; have y0 : wz.cell? ⟨b, o, none⟩ = some (.int .i64 k) := hz 0 _ rfl; have y1 := hz 1 _ rfl; have y2 := hz 2 _ rfl; have y3 := hz 3 _ rfl; have y4 := hz 4 _ rfl; have y5 := hz 5 _ rfl; have y6 := hz 6 _ rfl; have y7 := hz 7 _ rfl; clear hz; go_simp; try with_reducible rfl
  try simp only [Act.put, List.setIfInBounds_toArray, List.set_cons_zero, List.set_cons_succ]
  refine wpAnyH_take (i := 16) (v := ?_) rfl (by kernel_rfl) (by kernel_rfl) (by kernel_rfl) (fun _ _ _ h => h) (Or.inl ⟨by rfl, ?_⟩) hS ?_
  rotate_left
  · intro wz hz; have y0 : wz.cell? ⟨b, o, none⟩ = some (.int .i64 k) := hz 0 _ rfl; have y1 := hz 1 _ rfl; have y2 := hz 2 _ rfl; have y3 := hz 3 _ rfl; have y4 := hz 4 _ rfl; have y5 := hz 5 _ rfl; have y6 := hz 6 _ rfl; have y7 := hz 7 _ rfl; clear hz; go_simp; try with_reducible rfl
  try simp only [Act.put, List.setIfInBounds_toArray, List.set_cons_zero, List.set_cons_succ]
  refine wpAnyH_take (i := 17) (v := ?_) rfl (by kernel_rfl) (by kernel_rfl) (by kernel_rfl) (fun _ _ _ h => h) (Or.inl ⟨by rfl, ?_⟩) hS ?_
  rotate_left
  · intro wz hz; have y0 : wz.cell? ⟨b, o, none⟩ = some (.int .i64 k) := hz 0 _ rfl; have y1 := hz 1 _ rfl; have y2 := hz 2 _ rfl; have y3 := hz 3 _ rfl; have y4 := hz 4 _ rfl; have y5 := hz 5 _ rfl; have y6 := hz 6 _ rfl; have y7 := hz 7 _ rfl; clear hz; go_simp; try with_reducible rfl
  try simp only [Act.put, List.setIfInBounds_toArray, List.set_cons_zero, List.set_cons_succ]
  refine wpAnyH_take (i := 18) (v := ?_) rfl (by kernel_rfl) (by kernel_rfl) (by kernel_rfl) (fun _ _ _ h => h) (Or.inl ⟨by rfl, ?_⟩) hS ?_
  rotate_left
  · intro wz hz; have y0 : wz.cell? ⟨b, o, none⟩ = some (.int .i64 k) := hz 0 _ rfl; have y1 := hz 1 _ rfl; have y2 := hz 2 _ rfl; have y3 := hz 3 _ rfl; have y4 := hz 4 _ rfl; have y5 := hz 5 _ rfl; have y6 := hz 6 _ rfl; have y7 := hz 7 _ rfl; clear hz; go_simp; try with_reducible rfl
  try simp only [Act.put, List.setIfInBounds_toArray, List.set_cons_zero, List.set_cons_succ]
  refine wpAnyH_take (i := 19) (v := ?_) rfl (by kernel_rfl) (by kernel_rfl) (by kernel_rfl) (fun _ _ _ h => h) (Or.inl ⟨by rfl, ?_⟩) hS ?_
  rotate_left
  · intro wz hz; have y0 : wz.cell? ⟨b, o, none⟩ = some (.int .i64 k) := hz 0 _ rfl; have y1 := hz 1 _ rfl; have y2 := hz 2 _ rfl; have y3 := hz 3 _ rfl; have y4 := hz 4 _ rfl; have y5 := hz 5 _ rfl; have y6 := hz 6 _ rfl; have y7 := hz 7 _ rfl; clear hz; go_simp; try with_reducible rfl
  try simp only [Act.put, List.setIfInBounds_toArray, List.set_cons_zero, List.set_cons_succ]
  refine wpAnyH_take (i := 20) (v := ?_) rfl (by kernel_rfl) (by kernel_rfl) (by kernel_rfl) (fun _ _ _ h => h) (Or.inl ⟨by rfl, ?_⟩) hS ?_
  rotate_left
  · intro wz hz; have y0 : wz.cell? ⟨b, o, none⟩ = some (.int .i64 k) := hz 0 _ rfl; have y1 := hz 1 _ rfl; have y2 := hz 2 _ rfl; have y3 := hz 3 _ rfl; have y4 := hz 4 _ rfl; have y5 := hz 5 _ rfl; have y6 := hz 6 _ rfl; have y7 := hz 7 _ rfl; clear hz; go_simp; try with_reducible rfl
  try simp only [Act.put, List.setIfInBounds_toArray, List.set_cons_zero, List.set_cons_succ]
  refine wpAnyH_take (i := 21) (v := ?_) rfl (by kernel_rfl) (by kernel_rfl) (by kernel_rfl) (fun _ _ _ h => h) (Or.inl ⟨by rfl, ?_⟩) hS ?_
  rotate_left
  · intro wz hz; have y0 : wz.cell? ⟨b, o, none⟩ = some (.int .i64 k) := hz 0 _ rfl; have y1 := hz 1 _ rfl; have y2 := hz 2 _ rfl; have y3 := hz 3 _ rfl; have y4 := hz 4 _ rfl; have y5 := hz 5 _ rfl; have y6 := hz 6 _ rfl; have y7 := hz 7 _ rfl; clear hz; go_simp; try with_reducible rfl
  try simp only [Act.put, List.setIfInBounds_toArray, List.set_cons_zero, List.set_cons_succ]
  refine wpAnyH_take (i := 22) (v := ?_) rfl (by kernel_rfl) (by kernel_rfl) (by kernel_rfl) (fun _ _ _ h => h) (Or.inl ⟨by rfl, ?_⟩) hS ?_
  rotate_left
  · intro wz hz; have y0 : wz.cell? ⟨b, o, none⟩ = some (.int .i64 k) := hz 0 _ rfl; have y1 := hz 1 _ rfl; have y2 := hz 2 _ rfl; have y3 := hz 3 _ rfl; have y4 := hz 4 _ rfl; have y5 := hz 5 _ rfl; have y6 := hz 6 _ rfl; have y7 := hz 7 _ rfl; clear hz; go_simp; try with_reducible rfl
  try simp only [Act.put, List.setIfInBounds_toArray, List.set_cons_zero, List.set_cons_succ]
  refine wpAnyH_take (i := 23) (v := ?_) rfl (by kernel_rfl) (by kernel_rfl) (by kernel_rfl) (fun _ _ _ h => h) (Or.inl ⟨by rfl, ?_⟩) hS ?_
  rotate_left
  · intro wz hz; have y0 : wz.cell? ⟨b, o, none⟩ = some (.int .i64 k) := hz 0 _ rfl; have y1 := hz 1 _ rfl; have y2 := hz 2 _ rfl; have y3 := hz 3 _ rfl; have y4 := hz 4 _ rfl; have y5 := hz 5 _ rfl; have y6 := hz 6 _ rfl; have y7 := hz 7 _ rfl; clear hz; go_simp; try with_reducible rfl
  try simp only [Act.put, List.setIfInBounds_toArray, List.set_cons_zero, List.set_cons_succ]
  refine wpAnyH_take (i := 24) (v := ?_) rfl (by kernel_rfl) (by kernel_rfl) (by kernel_rfl) (fun _ _ _ h => h) (Or.inl ⟨by rfl, ?_⟩) hS ?_
  rotate_left
  · intro wz hz; have y0 : wz.cell? ⟨b, o, none⟩ = some (.int .i64 k) := hz 0 _ rfl; have y1 := hz 1 _ rfl; have y2 := hz 2 _ rfl; have y3 := hz 3 _ rfl; have y4 := hz 4 _ rfl; have y5 := hz 5 _ rfl; have y6 := hz 6 _ rfl; have y7 := hz 7 _ rfl; clear hz; go_simp; try with_reducible rfl
  try simp only [Act.put, List.setIfInBounds_toArray, List.set_cons_zero, List.set_cons_succ]
  refine wpAnyH_take (i := 25) (v := ?_) rfl (by kernel_rfl) (by kernel_rfl) (by kernel_rfl) (fun _ _ _ h => h) (Or.inl ⟨by rfl, ?_⟩) hS ?_
  rotate_left
  · intro wz hz; have y0 : wz.cell? ⟨b, o, none⟩ = some (.int .i64 k) := hz 0 _ rfl; have y1 := hz 1 _ rfl; have y2 := hz 2 _ rfl; have y3 := hz 3 _ rfl; have y4 := hz 4 _ rfl; have y5 := hz 5 _ rfl; have y6 := hz 6 _ rfl; have y7 := hz 7 _ rfl; clear hz; go_simp; try with_reducible rfl
  try simp only [Act.put, List.setIfInBounds_toArray, List.set_cons_zero, List.set_cons_succ]
  refine wpAnyH_take (i := 26) (v := ?_) rfl (by kernel_rfl) (by kernel_rfl) (by kernel_rfl) (fun _ _ _ h => h) (Or.inl ⟨by rfl, ?_⟩) hS ?_
  rotate_left
  · intro wz hz; have y0 : wz.cell? ⟨b, o, none⟩ = some (.int .i64 k) := hz 0 _ rfl; have y1 := hz 1 _ rfl; have y2 := hz 2 _ rfl; have y3 := hz 3 _ rfl; have y4 := hz 4 _ rfl; have y5 := hz 5 _ rfl; have y6 := hz 6 _ rfl; have y7 := hz 7 _ rfl; clear hz; go_simp; try with_reducible rfl
  try simp only [Act.put, List.setIfInBounds_toArray, List.set_cons_zero, List.set_cons_succ]
  refine wpAnyH_take (i := 27) (v := ?_) rfl (by kernel_rfl) (by kernel_rfl) (by kernel_rfl) (fun _ _ _ h => h) (Or.inl ⟨by rfl, ?_⟩) hS ?_
  rotate_left
  · intro wz hz; have y0 : wz.cell? ⟨b, o, none⟩ = some (.int .i64 k) := hz 0 _ rfl; have y1 := hz 1 _ rfl; have y2 := hz 2 _ rfl; have y3 := hz 3 _ rfl; have y4 := hz 4 _ rfl; have y5 := hz 5 _ rfl; have y6 := hz 6 _ rfl; have y7 := hz 7 _ rfl; clear hz; go_simp; try with_reducible rfl
  try simp only [Act.put, List.setIfInBounds_toArray, List.set_cons_zero, List.set_cons_succ]
  refine wpAnyH_take (i := 28) (v := ?_) rfl (by kernel_rfl) (by kernel_rfl) (by kernel_rfl) (fun _ _ _ h => h) (Or.inl ⟨by rfl, ?_⟩) hS ?_
  rotate_left
  · intro wz hz; have y0 : wz.cell? ⟨b, o, none⟩ = some (.int .i64 k) := hz 0 _ rfl; have y1 := hz 1 _ rfl; have y2 := hz 2 _ rfl; have y3 := hz 3 _ rfl; have y4 := hz 4 _ rfl; have y5 := hz 5 _ rfl; have y6 := hz 6 _ rfl; have y7 := hz 7 _ rfl; clear hz; go_simp; try with_reducible rfl
  try simp only [Act.put, List.setIfInBounds_toArray, List.set_cons_zero, List.set_cons_succ]
  refine wpAnyH_take (i := 29) (v := ?_) rfl (by kernel_rfl) (by kernel_rfl) (by kernel_rfl) (fun _ _ _ h => h) (Or.inl ⟨by rfl, ?_⟩) hS ?_
  rotate_left
  · intro wz hz; have y0 : wz.cell? ⟨b, o, none⟩ = some (.int .i64 k) := hz 0 _ rfl; have y1 := hz 1 _ rfl; have y2 := hz 2 _ rfl; have y3 := hz 3 _ rfl; have y4 := hz 4 _ rfl; have y5 := hz 5 _ rfl; have y6 := hz 6 _ rfl; have y7 := hz 7 _ rfl; clear hz; go_simp; try with_reducible rfl
  try simp only [Act.put, List.setIfInBounds_toArray, List.set_cons_zero, List.set_cons_succ]
  refine wpAnyH_take (i := 30) (v := ?_) rfl (by kernel_rfl) (by kernel_rfl) (by kernel_rfl) (fun _ _ _ h => h) (Or.inl ⟨by rfl, ?_⟩) hS ?_
  rotate_left
  · intro wz hz; have y0 : wz.cell? ⟨b, o, none⟩ = some (.int .i64 k) := hz 0 _ rfl; have y1 := hz 1 _ rfl; have y2 := hz 2 _ rfl; have y3 := hz 3 _ rfl; have y4 := hz 4 _ rfl; have y5 := hz 5 _ rfl; have y6 := hz 6 _ rfl; have y7 := hz 7 _ rfl; clear hz; go_simp; try with_reducible rfl
  try simp only [Act.put, List.setIfInBounds_toArray, List.set_cons_zero, List.set_cons_succ]
  refine wpAnyH_take (i := 31) (v := ?_) rfl (by kernel_rfl) (by kernel_rfl) (by kernel_rfl) (fun _ _ _ h => h) (Or.inl ⟨by rfl, ?_⟩) hS ?_
  rotate_left
  · intro wz hz; have y0 : wz.cell? ⟨b, o, none⟩ = some (.int .i64 k) := hz 0 _ rfl; have y1 := hz 1 _ rfl; have y2 := hz 2 _ rfl; have y3 := hz 3 _ rfl; have y4 := hz 4 _ rfl; have y5 := hz 5 _ rfl; have y6 := hz 6 _ rfl; have y7 := hz 7 _ rfl; clear hz; go_simp; try with_reducible rfl
  try simp only [Act.put, List.setIfInBounds_toArray, List.set_cons_zero, List.set_cons_succ]
  refine wpAnyH_take (i := 32) (v := ?_) rfl (by kernel_rfl) (by kernel_rfl) (by kernel_rfl) (fun _ _ _ h => h) (Or.inl ⟨by rfl, ?_⟩) hS ?_
  rotate_left
  · intro wz hz; have y0 : wz.cell? ⟨b, o, none⟩ = some (.int .i64 k) := hz 0 _ rfl; have y1 := hz 1 _ rfl; have y2 := hz 2 _ rfl; have y3 := hz 3 _ rfl; have y4 := hz 4 _ rfl; have y5 := hz 5 _ rfl; have y6 := hz 6 _ rfl; have y7 := hz 7 _ rfl; clear hz; go_simp; try with_reducible rfl
  try simp only [Act.put, List.setIfInBounds_toArray, List.set_cons_zero, List.set_cons_succ]
  refine wpAnyH_take (i := 33) (v := ?_) rfl (by kernel_rfl) (by kernel_rfl) (by kernel_rfl) (fun _ _ _ h => h) (Or.inl ⟨by rfl, ?_⟩) hS ?_
  rotate_left
  · intro wz hz; have y0 : wz.cell? ⟨b, o, none⟩ = some (.int .i64 k) := hz 0 _ rfl; have y1 := hz 1 _ rfl; have y2 := hz 2 _ rfl; have y3 := hz 3 _ rfl; have y4 := hz 4 _ rfl; have y5 := hz 5 _ rfl; have y6 := hz 6 _ rfl; have y7 := hz 7 _ rfl; clear hz; go_simp; try with_reducible rfl
  try simp only [Act.put, List.setIfInBounds_toArray, List.set_cons_zero, List.set_cons_succ]
  refine wpAnyH_ready (rs := [34]) (by kernel_rfl) (by simp) (AllReadyH.cons rfl (fun K hK => ?_) AllReadyH.nil)
  go_simp
  refine hK.out _ _ (hS.move (K := Any) trivial (Keeps.of_below (bl_alloc (Below.refl _ _) _))) (fun hS2 => ?_)
  clear hK K
  try simp only [Act.put, List.setIfInBounds_toArray, List.set_cons_zero, List.set_cons_succ]
  refine wpAnyH_ready (rs := [35]) (by kernel_rfl) (by simp) (AllReadyH.cons rfl (fun K hK => ?_) AllReadyH.nil)
  go_simp
  refine hK.out _ _ (hS.move (K := Any) trivial (Keeps.of_below (bl_alloc (Below.refl _ _) _))) (fun hS3 => ?_)
  clear hK K
  try simp only [Act.put, List.setIfInBounds_toArray, List.set_cons_zero, List.set_cons_succ]
  refine wpAnyH_done (by kernel_rfl) ?_ _
  clear hS hS2 hS3 hS0 HC
  by_cases hk1 : k = 1
  · subst hk1
    have HE0 : Hid ((Nd.ownN 2) (.mk [.int 1, .int op, .int m, .strs p] [l0, l1, l2, l3]) = Nd.fitE { op := op, n := m, path := (p.length : Int), pats := (l0.length : Int), kids := (l1.length : Int), decs := (l2.length : Int), tys := (l3.length : Int) } { n := max m 0 }) := by
      show _ = _
      show Nd.ownExp 1 op m p l0 l1 l2 l3 = _
      rw [Nd.ownExp, if_pos (by omega)]
    go_wp2_with (first | (go_at_call 84; refine (fit_any { op := op, n := m, path := (p.length : Int), pats := (l0.length : Int), kids := (l1.length : Int), decs := (l2.length : Int), tys := (l3.length : Int) } { n := max m 0 } _).mono ?_; rintro e w1 ⟨rfl, hb1⟩; have hB1 : Below w.heap.size w w1 := (by refine bl_tr ?_ hb1; first | exact (bl_alloc (Below.refl _ _) _).drew | exact bl_alloc (Below.refl _ _) _ | exact bl_alloc (Below.refl _ _).drew _); clear hb1; refine (outc_cases (Nd.fitE { op := op, n := m, path := (p.length : Int), pats := (l0.length : Int), kids := (l1.length : Int), decs := (l2.length : Int), tys := (l3.length : Int) } { n := max m 0 })).elim (fun ⟨hz, he⟩ => ?_) (fun ⟨hz, he⟩ => by rw [he]; exact ⟨rfl, (by rw [HE0.out]; exact he.symm), hB1⟩); rw [he]; have HE1 : Hid (outc ((Nd.ownN 2) (.mk [.int 1, .int op, .int m, .strs p] [l0, l1, l2, l3])) = .returned (.tuple #[])) := (by show _ = _; rw [HE0.out]; exact he); clear HE0 hz he; have f0_1 := D0.out _ hB1; have f1_1 := D1.out _ hB1; have f2_1 := D2.out _ hB1; have f3_1 := D3.out _ hB1; have f4_1 := D4.out _ hB1; have f5_1 := D5.out _ hB1; have f6_1 := D6.out _ hB1; have f7_1 := D7.out _ hB1; skip))
    first | go_end0 | refine bodyPost_ret (results_none rfl _ _ _) rfl ?_
    exact ⟨HE1.out.symm, hB1⟩
  by_cases hk2 : k = 2
  · subst hk2
    have HE0 : Hid ((Nd.ownN 2) (.mk [.int 2, .int op, .int m, .strs p] [l0, l1, l2, l3]) = Nd.fitE { op := op, n := m, path := (p.length : Int), pats := (l0.length : Int), kids := (l1.length : Int), decs := (l2.length : Int), tys := (l3.length : Int) } {}) := by
      show _ = _
      show Nd.ownExp 2 op m p l0 l1 l2 l3 = _
      rw [Nd.ownExp, if_neg (by omega), if_pos (by omega)]
    go_wp2_with (first | (go_at_call 84; refine (fit_any { op := op, n := m, path := (p.length : Int), pats := (l0.length : Int), kids := (l1.length : Int), decs := (l2.length : Int), tys := (l3.length : Int) } {} _).mono ?_; rintro e w1 ⟨rfl, hb1⟩; have hB1 : Below w.heap.size w w1 := (by refine bl_tr ?_ hb1; first | exact (bl_alloc (Below.refl _ _) _).drew | exact bl_alloc (Below.refl _ _) _ | exact bl_alloc (Below.refl _ _).drew _); clear hb1; refine (outc_cases (Nd.fitE { op := op, n := m, path := (p.length : Int), pats := (l0.length : Int), kids := (l1.length : Int), decs := (l2.length : Int), tys := (l3.length : Int) } {})).elim (fun ⟨hz, he⟩ => ?_) (fun ⟨hz, he⟩ => by rw [he]; exact ⟨rfl, (by rw [HE0.out]; exact he.symm), hB1⟩); rw [he]; have HE1 : Hid (outc ((Nd.ownN 2) (.mk [.int 2, .int op, .int m, .strs p] [l0, l1, l2, l3])) = .returned (.tuple #[])) := (by show _ = _; rw [HE0.out]; exact he); clear HE0 hz he; have f0_1 := D0.out _ hB1; have f1_1 := D1.out _ hB1; have f2_1 := D2.out _ hB1; have f3_1 := D3.out _ hB1; have f4_1 := D4.out _ hB1; have f5_1 := D5.out _ hB1; have f6_1 := D6.out _ hB1; have f7_1 := D7.out _ hB1; skip))
    first | go_end0 | refine bodyPost_ret (results_none rfl _ _ _) rfl ?_
    exact ⟨HE1.out.symm, hB1⟩
  by_cases hk3 : k = 3
  · subst hk3
    have HE0 : Hid ((Nd.ownN 2) (.mk [.int 3, .int op, .int m, .strs p] [l0, l1, l2, l3]) = Nd.fitE { op := op, n := m, path := (p.length : Int), pats := (l0.length : Int), kids := (l1.length : Int), decs := (l2.length : Int), tys := (l3.length : Int) } {}) := by
      show _ = _
      show Nd.ownExp 3 op m p l0 l1 l2 l3 = _
      rw [Nd.ownExp, if_neg (by omega), if_pos (by omega)]
    go_wp2_with (first | (go_at_call 84; refine (fit_any { op := op, n := m, path := (p.length : Int), pats := (l0.length : Int), kids := (l1.length : Int), decs := (l2.length : Int), tys := (l3.length : Int) } {} _).mono ?_; rintro e w1 ⟨rfl, hb1⟩; have hB1 : Below w.heap.size w w1 := (by refine bl_tr ?_ hb1; first | exact (bl_alloc (Below.refl _ _) _).drew | exact bl_alloc (Below.refl _ _) _ | exact bl_alloc (Below.refl _ _).drew _); clear hb1; refine (outc_cases (Nd.fitE { op := op, n := m, path := (p.length : Int), pats := (l0.length : Int), kids := (l1.length : Int), decs := (l2.length : Int), tys := (l3.length : Int) } {})).elim (fun ⟨hz, he⟩ => ?_) (fun ⟨hz, he⟩ => by rw [he]; exact ⟨rfl, (by rw [HE0.out]; exact he.symm), hB1⟩); rw [he]; have HE1 : Hid (outc ((Nd.ownN 2) (.mk [.int 3, .int op, .int m, .strs p] [l0, l1, l2, l3])) = .returned (.tuple #[])) := (by show _ = _; rw [HE0.out]; exact he); clear HE0 hz he; have f0_1 := D0.out _ hB1; have f1_1 := D1.out _ hB1; have f2_1 := D2.out _ hB1; have f3_1 := D3.out _ hB1; have f4_1 := D4.out _ hB1; have f5_1 := D5.out _ hB1; have f6_1 := D6.out _ hB1; have f7_1 := D7.out _ hB1; skip))
    first | go_end0 | refine bodyPost_ret (results_none rfl _ _ _) rfl ?_
    exact ⟨HE1.out.symm, hB1⟩
  by_cases hk4 : k = 4
  · subst hk4
    have HE0 : Hid ((Nd.ownN 2) (.mk [.int 4, .int op, .int m, .strs p] [l0, l1, l2, l3]) = Nd.fitE { op := op, n := m, path := (p.length : Int), pats := (l0.length : Int), kids := (l1.length : Int), decs := (l2.length : Int), tys := (l3.length : Int) } {}) := by
      show _ = _
      show Nd.ownExp 4 op m p l0 l1 l2 l3 = _
      rw [Nd.ownExp, if_neg (by omega), if_pos (by omega)]
    go_wp2_with (first | (go_at_call 84; refine (fit_any { op := op, n := m, path := (p.length : Int), pats := (l0.length : Int), kids := (l1.length : Int), decs := (l2.length : Int), tys := (l3.length : Int) } {} _).mono ?_; rintro e w1 ⟨rfl, hb1⟩; have hB1 : Below w.heap.size w w1 := (by refine bl_tr ?_ hb1; first | exact (bl_alloc (Below.refl _ _) _).drew | exact bl_alloc (Below.refl _ _) _ | exact bl_alloc (Below.refl _ _).drew _); clear hb1; refine (outc_cases (Nd.fitE { op := op, n := m, path := (p.length : Int), pats := (l0.length : Int), kids := (l1.length : Int), decs := (l2.length : Int), tys := (l3.length : Int) } {})).elim (fun ⟨hz, he⟩ => ?_) (fun ⟨hz, he⟩ => by rw [he]; exact ⟨rfl, (by rw [HE0.out]; exact he.symm), hB1⟩); rw [he]; have HE1 : Hid (outc ((Nd.ownN 2) (.mk [.int 4, .int op, .int m, .strs p] [l0, l1, l2, l3])) = .returned (.tuple #[])) := (by show _ = _; rw [HE0.out]; exact he); clear HE0 hz he; have f0_1 := D0.out _ hB1; have f1_1 := D1.out _ hB1; have f2_1 := D2.out _ hB1; have f3_1 := D3.out _ hB1; have f4_1 := D4.out _ hB1; have f5_1 := D5.out _ hB1; have f6_1 := D6.out _ hB1; have f7_1 := D7.out _ hB1; skip))
    first | go_end0 | refine bodyPost_ret (results_none rfl _ _ _) rfl ?_
    exact ⟨HE1.out.symm, hB1⟩
  by_cases hk5 : k = 5
  · subst hk5
    have HE0 : Hid ((Nd.ownN 2) (.mk [.int 5, .int op, .int m, .strs p] [l0, l1, l2, l3]) = Nd.firstE (Nd.fitE { op := op, n := m, path := (p.length : Int), pats := (l0.length : Int), kids := (l1.length : Int), decs := (l2.length : Int), tys := (l3.length : Int) } { path := (p.length : Int) }) (Nd.pathE p Nm.lower)) := by
      show _ = _
      show Nd.ownExp 5 op m p l0 l1 l2 l3 = _
      rw [Nd.ownExp, if_neg (by omega), if_neg (by omega), if_pos (by omega)]
    go_wp2_with (first | (go_at_call 89; refine (pathed_any _ p _ (TX.out _ hB1) hpx hpl 83 Nm.lower sort_lower).mono ?_; rintro e w2 ⟨rfl, hw⟩; rw [hw]; clear hw w2; refine (outc_cases (Nd.pathE p Nm.lower)).elim (fun ⟨hz, he⟩ => ?_) (fun ⟨hz, he⟩ => by rw [he]; exact ⟨rfl, (by rw [HE1.out]; exact he.symm), hB1⟩); rw [he]; have HE2 : Hid (outc ((Nd.ownN 2) (.mk [.int 5, .int op, .int m, .strs p] [l0, l1, l2, l3])) = .returned (.tuple #[])) := (by show _ = _; rw [HE1.out]; exact he); clear HE1 hz he) | (go_at_call 84; refine (fit_any { op := op, n := m, path := (p.length : Int), pats := (l0.length : Int), kids := (l1.length : Int), decs := (l2.length : Int), tys := (l3.length : Int) } { path := (p.length : Int) } _).mono ?_; rintro e w1 ⟨rfl, hb1⟩; have hB1 : Below w.heap.size w w1 := (by refine bl_tr ?_ hb1; first | exact (bl_alloc (Below.refl _ _) _).drew | exact bl_alloc (Below.refl _ _) _ | exact bl_alloc (Below.refl _ _).drew _); clear hb1; refine (outc_cases (Nd.fitE { op := op, n := m, path := (p.length : Int), pats := (l0.length : Int), kids := (l1.length : Int), decs := (l2.length : Int), tys := (l3.length : Int) } { path := (p.length : Int) })).elim (fun ⟨hz, he⟩ => ?_) (fun ⟨hz, he⟩ => by rw [he]; exact ⟨rfl, (by rw [HE0.out, Nd.firstE_ne hz]; exact he.symm), hB1⟩); rw [he]; have HE1 := HE0.out.trans (Nd.firstE_zero hz); replace HE1 : Hid ((Nd.ownN 2) (.mk [.int 5, .int op, .int m, .strs p] [l0, l1, l2, l3]) = Nd.pathE p Nm.lower) := HE1; clear HE0 hz he; have f0_1 := D0.out _ hB1; have f1_1 := D1.out _ hB1; have f2_1 := D2.out _ hB1; have f3_1 := D3.out _ hB1; have f4_1 := D4.out _ hB1; have f5_1 := D5.out _ hB1; have f6_1 := D6.out _ hB1; have f7_1 := D7.out _ hB1; skip))
    first | go_end0 | refine bodyPost_ret (results_none rfl _ _ _) rfl ?_
    exact ⟨HE2.out.symm, hB1⟩
  by_cases hk6 : k = 6
  · subst hk6
    have HE0 : Hid ((Nd.ownN 2) (.mk [.int 6, .int op, .int m, .strs p] [l0, l1, l2, l3]) = Nd.firstE (Nd.fitE { op := op, n := m, path := (p.length : Int), pats := (l0.length : Int), kids := (l1.length : Int), decs := (l2.length : Int), tys := (l3.length : Int) } { path := (p.length : Int) }) (Nd.pathE p Nm.upper)) := by
      show _ = _
      show Nd.ownExp 6 op m p l0 l1 l2 l3 = _
      rw [Nd.ownExp, if_neg (by omega), if_neg (by omega), if_neg (by omega), if_pos (by omega)]
    go_wp2_with (first | (go_at_call 89; refine (pathed_any _ p _ (TX.out _ hB1) hpx hpl 85 Nm.upper sort_upper).mono ?_; rintro e w2 ⟨rfl, hw⟩; rw [hw]; clear hw w2; refine (outc_cases (Nd.pathE p Nm.upper)).elim (fun ⟨hz, he⟩ => ?_) (fun ⟨hz, he⟩ => by rw [he]; exact ⟨rfl, (by rw [HE1.out]; exact he.symm), hB1⟩); rw [he]; have HE2 : Hid (outc ((Nd.ownN 2) (.mk [.int 6, .int op, .int m, .strs p] [l0, l1, l2, l3])) = .returned (.tuple #[])) := (by show _ = _; rw [HE1.out]; exact he); clear HE1 hz he) | (go_at_call 84; refine (fit_any { op := op, n := m, path := (p.length : Int), pats := (l0.length : Int), kids := (l1.length : Int), decs := (l2.length : Int), tys := (l3.length : Int) } { path := (p.length : Int) } _).mono ?_; rintro e w1 ⟨rfl, hb1⟩; have hB1 : Below w.heap.size w w1 := (by refine bl_tr ?_ hb1; first | exact (bl_alloc (Below.refl _ _) _).drew | exact bl_alloc (Below.refl _ _) _ | exact bl_alloc (Below.refl _ _).drew _); clear hb1; refine (outc_cases (Nd.fitE { op := op, n := m, path := (p.length : Int), pats := (l0.length : Int), kids := (l1.length : Int), decs := (l2.length : Int), tys := (l3.length : Int) } { path := (p.length : Int) })).elim (fun ⟨hz, he⟩ => ?_) (fun ⟨hz, he⟩ => by rw [he]; exact ⟨rfl, (by rw [HE0.out, Nd.firstE_ne hz]; exact he.symm), hB1⟩); rw [he]; have HE1 := HE0.out.trans (Nd.firstE_zero hz); replace HE1 : Hid ((Nd.ownN 2) (.mk [.int 6, .int op, .int m, .strs p] [l0, l1, l2, l3]) = Nd.pathE p Nm.upper) := HE1; clear HE0 hz he; have f0_1 := D0.out _ hB1; have f1_1 := D1.out _ hB1; have f2_1 := D2.out _ hB1; have f3_1 := D3.out _ hB1; have f4_1 := D4.out _ hB1; have f5_1 := D5.out _ hB1; have f6_1 := D6.out _ hB1; have f7_1 := D7.out _ hB1; skip))
    first | go_end0 | refine bodyPost_ret (results_none rfl _ _ _) rfl ?_
    exact ⟨HE2.out.symm, hB1⟩
  by_cases hk7 : k = 7
  · subst hk7
    have HE0 : Hid ((Nd.ownN 2) (.mk [.int 7, .int op, .int m, .strs p] [l0, l1, l2, l3]) = Nd.fitE { op := op, n := m, path := (p.length : Int), pats := (l0.length : Int), kids := (l1.length : Int), decs := (l2.length : Int), tys := (l3.length : Int) } { pats := 1, kids := 1 }) := by
      show _ = _
      show Nd.ownExp 7 op m p l0 l1 l2 l3 = _
      rw [Nd.ownExp, if_neg (by omega), if_neg (by omega), if_neg (by omega), if_neg (by omega), if_pos (by omega)]
    go_wp2_with (first | (go_at_call 84; refine (fit_any { op := op, n := m, path := (p.length : Int), pats := (l0.length : Int), kids := (l1.length : Int), decs := (l2.length : Int), tys := (l3.length : Int) } { pats := 1, kids := 1 } _).mono ?_; rintro e w1 ⟨rfl, hb1⟩; have hB1 : Below w.heap.size w w1 := (by refine bl_tr ?_ hb1; first | exact (bl_alloc (Below.refl _ _) _).drew | exact bl_alloc (Below.refl _ _) _ | exact bl_alloc (Below.refl _ _).drew _); clear hb1; refine (outc_cases (Nd.fitE { op := op, n := m, path := (p.length : Int), pats := (l0.length : Int), kids := (l1.length : Int), decs := (l2.length : Int), tys := (l3.length : Int) } { pats := 1, kids := 1 })).elim (fun ⟨hz, he⟩ => ?_) (fun ⟨hz, he⟩ => by rw [he]; exact ⟨rfl, (by rw [HE0.out]; exact he.symm), hB1⟩); rw [he]; have HE1 : Hid (outc ((Nd.ownN 2) (.mk [.int 7, .int op, .int m, .strs p] [l0, l1, l2, l3])) = .returned (.tuple #[])) := (by show _ = _; rw [HE0.out]; exact he); clear HE0 hz he; have f0_1 := D0.out _ hB1; have f1_1 := D1.out _ hB1; have f2_1 := D2.out _ hB1; have f3_1 := D3.out _ hB1; have f4_1 := D4.out _ hB1; have f5_1 := D5.out _ hB1; have f6_1 := D6.out _ hB1; have f7_1 := D7.out _ hB1; skip))
    first | go_end0 | refine bodyPost_ret (results_none rfl _ _ _) rfl ?_
    exact ⟨HE1.out.symm, hB1⟩
  by_cases hk8 : k = 8
  · subst hk8
    have HE0 : Hid ((Nd.ownN 2) (.mk [.int 8, .int op, .int m, .strs p] [l0, l1, l2, l3]) = Nd.fitE { op := op, n := m, path := (p.length : Int), pats := (l0.length : Int), kids := (l1.length : Int), decs := (l2.length : Int), tys := (l3.length : Int) } { kids := 2 }) := by
      show _ = _
      show Nd.ownExp 8 op m p l0 l1 l2 l3 = _
      rw [Nd.ownExp, if_neg (by omega), if_neg (by omega), if_neg (by omega), if_neg (by omega), if_neg (by omega), if_pos (by omega)]
    go_wp2_with (first | (go_at_call 84; refine (fit_any { op := op, n := m, path := (p.length : Int), pats := (l0.length : Int), kids := (l1.length : Int), decs := (l2.length : Int), tys := (l3.length : Int) } { kids := 2 } _).mono ?_; rintro e w1 ⟨rfl, hb1⟩; have hB1 : Below w.heap.size w w1 := (by refine bl_tr ?_ hb1; first | exact (bl_alloc (Below.refl _ _) _).drew | exact bl_alloc (Below.refl _ _) _ | exact bl_alloc (Below.refl _ _).drew _); clear hb1; refine (outc_cases (Nd.fitE { op := op, n := m, path := (p.length : Int), pats := (l0.length : Int), kids := (l1.length : Int), decs := (l2.length : Int), tys := (l3.length : Int) } { kids := 2 })).elim (fun ⟨hz, he⟩ => ?_) (fun ⟨hz, he⟩ => by rw [he]; exact ⟨rfl, (by rw [HE0.out]; exact he.symm), hB1⟩); rw [he]; have HE1 : Hid (outc ((Nd.ownN 2) (.mk [.int 8, .int op, .int m, .strs p] [l0, l1, l2, l3])) = .returned (.tuple #[])) := (by show _ = _; rw [HE0.out]; exact he); clear HE0 hz he; have f0_1 := D0.out _ hB1; have f1_1 := D1.out _ hB1; have f2_1 := D2.out _ hB1; have f3_1 := D3.out _ hB1; have f4_1 := D4.out _ hB1; have f5_1 := D5.out _ hB1; have f6_1 := D6.out _ hB1; have f7_1 := D7.out _ hB1; skip))
    first | go_end0 | refine bodyPost_ret (results_none rfl _ _ _) rfl ?_
    exact ⟨HE1.out.symm, hB1⟩
  by_cases hk9 : k = 9
  · subst hk9
    have HE0 : Hid ((Nd.ownN 2) (.mk [.int 9, .int op, .int m, .strs p] [l0, l1, l2, l3]) = Nd.fitE { op := op, n := m, path := (p.length : Int), pats := (l0.length : Int), kids := (l1.length : Int), decs := (l2.length : Int), tys := (l3.length : Int) } { kids := 2 }) := by
      show _ = _
      show Nd.ownExp 9 op m p l0 l1 l2 l3 = _
      rw [Nd.ownExp, if_neg (by omega), if_neg (by omega), if_neg (by omega), if_neg (by omega), if_neg (by omega), if_pos (by omega)]
    go_wp2_with (first | (go_at_call 84; refine (fit_any { op := op, n := m, path := (p.length : Int), pats := (l0.length : Int), kids := (l1.length : Int), decs := (l2.length : Int), tys := (l3.length : Int) } { kids := 2 } _).mono ?_; rintro e w1 ⟨rfl, hb1⟩; have hB1 : Below w.heap.size w w1 := (by refine bl_tr ?_ hb1; first | exact (bl_alloc (Below.refl _ _) _).drew | exact bl_alloc (Below.refl _ _) _ | exact bl_alloc (Below.refl _ _).drew _); clear hb1; refine (outc_cases (Nd.fitE { op := op, n := m, path := (p.length : Int), pats := (l0.length : Int), kids := (l1.length : Int), decs := (l2.length : Int), tys := (l3.length : Int) } { kids := 2 })).elim (fun ⟨hz, he⟩ => ?_) (fun ⟨hz, he⟩ => by rw [he]; exact ⟨rfl, (by rw [HE0.out]; exact he.symm), hB1⟩); rw [he]; have HE1 : Hid (outc ((Nd.ownN 2) (.mk [.int 9, .int op, .int m, .strs p] [l0, l1, l2, l3])) = .returned (.tuple #[])) := (by show _ = _; rw [HE0.out]; exact he); clear HE0 hz he; have f0_1 := D0.out _ hB1; have f1_1 := D1.out _ hB1; have f2_1 := D2.out _ hB1; have f3_1 := D3.out _ hB1; have f4_1 := D4.out _ hB1; have f5_1 := D5.out _ hB1; have f6_1 := D6.out _ hB1; have f7_1 := D7.out _ hB1; skip))
    first | go_end0 | refine bodyPost_ret (results_none rfl _ _ _) rfl ?_
    exact ⟨HE1.out.symm, hB1⟩
  by_cases hk10 : k = 10
  · subst hk10
    have HE0 : Hid ((Nd.ownN 2) (.mk [.int 10, .int op, .int m, .strs p] [l0, l1, l2, l3]) = Nd.firstE (Nd.fitE { op := op, n := m, path := (p.length : Int), pats := (l0.length : Int), kids := (l1.length : Int), decs := (l2.length : Int), tys := (l3.length : Int) } { kids := 1, decs := (l2.length : Int) }) (Nd.errF Nd.letE l2)) := by
      show _ = _
      show Nd.ownExp 10 op m p l0 l1 l2 l3 = _
      rw [Nd.ownExp, if_neg (by omega), if_neg (by omega), if_neg (by omega), if_neg (by omega), if_neg (by omega), if_neg (by omega), if_pos (by omega)]
    go_wp2_with (first | (go_at_call 24; refine (RL.out _ hB1).mono ?_; rintro e w2 ⟨rfl, hb⟩; have hB2 := bl_tr hB1 hb; clear hb; refine (outc_cases (Nd.errF Nd.letE l2)).elim (fun ⟨hz, he⟩ => ?_) (fun ⟨hz, he⟩ => by rw [he]; exact ⟨rfl, (by rw [HE1.out]; exact he.symm), hB2⟩); rw [he]; have HE2 : Hid (outc ((Nd.ownN 2) (.mk [.int 10, .int op, .int m, .strs p] [l0, l1, l2, l3])) = .returned (.tuple #[])) := (by show _ = _; rw [HE1.out]; exact he); clear HE1 hz he) | (go_at_call 84; refine (fit_any { op := op, n := m, path := (p.length : Int), pats := (l0.length : Int), kids := (l1.length : Int), decs := (l2.length : Int), tys := (l3.length : Int) } { kids := 1, decs := (l2.length : Int) } _).mono ?_; rintro e w1 ⟨rfl, hb1⟩; have hB1 : Below w.heap.size w w1 := (by refine bl_tr ?_ hb1; first | exact (bl_alloc (Below.refl _ _) _).drew | exact bl_alloc (Below.refl _ _) _ | exact bl_alloc (Below.refl _ _).drew _); clear hb1; refine (outc_cases (Nd.fitE { op := op, n := m, path := (p.length : Int), pats := (l0.length : Int), kids := (l1.length : Int), decs := (l2.length : Int), tys := (l3.length : Int) } { kids := 1, decs := (l2.length : Int) })).elim (fun ⟨hz, he⟩ => ?_) (fun ⟨hz, he⟩ => by rw [he]; exact ⟨rfl, (by rw [HE0.out, Nd.firstE_ne hz]; exact he.symm), hB1⟩); rw [he]; have HE1 := HE0.out.trans (Nd.firstE_zero hz); replace HE1 : Hid ((Nd.ownN 2) (.mk [.int 10, .int op, .int m, .strs p] [l0, l1, l2, l3]) = Nd.errF Nd.letE l2) := HE1; clear HE0 hz he; have f0_1 := D0.out _ hB1; have f1_1 := D1.out _ hB1; have f2_1 := D2.out _ hB1; have f3_1 := D3.out _ hB1; have f4_1 := D4.out _ hB1; have f5_1 := D5.out _ hB1; have f6_1 := D6.out _ hB1; have f7_1 := D7.out _ hB1; skip))
    first | go_end0 | refine bodyPost_ret (results_none rfl _ _ _) rfl ?_
    exact ⟨HE2.out.symm, hB2⟩
  by_cases hk11 : k = 11
  · subst hk11
    have HE0 : Hid ((Nd.ownN 2) (.mk [.int 11, .int op, .int m, .strs p] [l0, l1, l2, l3]) = Nd.fitE { op := op, n := m, path := (p.length : Int), pats := (l0.length : Int), kids := (l1.length : Int), decs := (l2.length : Int), tys := (l3.length : Int) } { kids := 3 }) := by
      show _ = _
      show Nd.ownExp 11 op m p l0 l1 l2 l3 = _
      rw [Nd.ownExp, if_neg (by omega), if_neg (by omega), if_neg (by omega), if_neg (by omega), if_neg (by omega), if_neg (by omega), if_neg (by omega), if_pos (by omega)]
    go_wp2_with (first | (go_at_call 84; refine (fit_any { op := op, n := m, path := (p.length : Int), pats := (l0.length : Int), kids := (l1.length : Int), decs := (l2.length : Int), tys := (l3.length : Int) } { kids := 3 } _).mono ?_; rintro e w1 ⟨rfl, hb1⟩; have hB1 : Below w.heap.size w w1 := (by refine bl_tr ?_ hb1; first | exact (bl_alloc (Below.refl _ _) _).drew | exact bl_alloc (Below.refl _ _) _ | exact bl_alloc (Below.refl _ _).drew _); clear hb1; refine (outc_cases (Nd.fitE { op := op, n := m, path := (p.length : Int), pats := (l0.length : Int), kids := (l1.length : Int), decs := (l2.length : Int), tys := (l3.length : Int) } { kids := 3 })).elim (fun ⟨hz, he⟩ => ?_) (fun ⟨hz, he⟩ => by rw [he]; exact ⟨rfl, (by rw [HE0.out]; exact he.symm), hB1⟩); rw [he]; have HE1 : Hid (outc ((Nd.ownN 2) (.mk [.int 11, .int op, .int m, .strs p] [l0, l1, l2, l3])) = .returned (.tuple #[])) := (by show _ = _; rw [HE0.out]; exact he); clear HE0 hz he; have f0_1 := D0.out _ hB1; have f1_1 := D1.out _ hB1; have f2_1 := D2.out _ hB1; have f3_1 := D3.out _ hB1; have f4_1 := D4.out _ hB1; have f5_1 := D5.out _ hB1; have f6_1 := D6.out _ hB1; have f7_1 := D7.out _ hB1; skip))
    first | go_end0 | refine bodyPost_ret (results_none rfl _ _ _) rfl ?_
    exact ⟨HE1.out.symm, hB1⟩
  by_cases hk12 : k = 12
  · subst hk12
    have HE0 : Hid ((Nd.ownN 2) (.mk [.int 12, .int op, .int m, .strs p] [l0, l1, l2, l3]) = Nd.fitE { op := op, n := m, path := (p.length : Int), pats := (l0.length : Int), kids := (l1.length : Int), decs := (l2.length : Int), tys := (l3.length : Int) } { pats := max (l0.length : Int) 1, kids := wrap64 ((l0.length : Int) + 1) }) := by
      show _ = _
      show Nd.ownExp 12 op m p l0 l1 l2 l3 = _
      rw [Nd.ownExp, if_neg (by omega), if_neg (by omega), if_neg (by omega), if_neg (by omega), if_neg (by omega), if_neg (by omega), if_neg (by omega), if_neg (by omega), if_pos (by omega)]
    go_wp2_with (first | (go_at_call 84; refine (fit_any { op := op, n := m, path := (p.length : Int), pats := (l0.length : Int), kids := (l1.length : Int), decs := (l2.length : Int), tys := (l3.length : Int) } { pats := max (l0.length : Int) 1, kids := wrap64 ((l0.length : Int) + 1) } _).mono ?_; rintro e w1 ⟨rfl, hb1⟩; have hB1 : Below w.heap.size w w1 := (by refine bl_tr ?_ hb1; first | exact (bl_alloc (Below.refl _ _) _).drew | exact bl_alloc (Below.refl _ _) _ | exact bl_alloc (Below.refl _ _).drew _); clear hb1; refine (outc_cases (Nd.fitE { op := op, n := m, path := (p.length : Int), pats := (l0.length : Int), kids := (l1.length : Int), decs := (l2.length : Int), tys := (l3.length : Int) } { pats := max (l0.length : Int) 1, kids := wrap64 ((l0.length : Int) + 1) })).elim (fun ⟨hz, he⟩ => ?_) (fun ⟨hz, he⟩ => by rw [he]; exact ⟨rfl, (by rw [HE0.out]; exact he.symm), hB1⟩); rw [he]; have HE1 : Hid (outc ((Nd.ownN 2) (.mk [.int 12, .int op, .int m, .strs p] [l0, l1, l2, l3])) = .returned (.tuple #[])) := (by show _ = _; rw [HE0.out]; exact he); clear HE0 hz he; have f0_1 := D0.out _ hB1; have f1_1 := D1.out _ hB1; have f2_1 := D2.out _ hB1; have f3_1 := D3.out _ hB1; have f4_1 := D4.out _ hB1; have f5_1 := D5.out _ hB1; have f6_1 := D6.out _ hB1; have f7_1 := D7.out _ hB1; skip))
    first | go_end0 | refine bodyPost_ret (results_none rfl _ _ _) rfl ?_
    exact ⟨HE1.out.symm, hB1⟩
  by_cases hk13 : k = 13
  · subst hk13
    have HE0 : Hid ((Nd.ownN 2) (.mk [.int 13, .int op, .int m, .strs p] [l0, l1, l2, l3]) = Nd.fitE { op := op, n := m, path := (p.length : Int), pats := (l0.length : Int), kids := (l1.length : Int), decs := (l2.length : Int), tys := (l3.length : Int) } { op := min (max op 1) 6, kids := 2 }) := by
      show _ = _
      show Nd.ownExp 13 op m p l0 l1 l2 l3 = _
      rw [Nd.ownExp, if_neg (by omega), if_neg (by omega), if_neg (by omega), if_neg (by omega), if_neg (by omega), if_neg (by omega), if_neg (by omega), if_neg (by omega), if_neg (by omega), if_pos (by omega)]
    go_wp2_with (first | (go_at_call 84; refine (fit_any { op := op, n := m, path := (p.length : Int), pats := (l0.length : Int), kids := (l1.length : Int), decs := (l2.length : Int), tys := (l3.length : Int) } { op := min (max op 1) 6, kids := 2 } _).mono ?_; rintro e w1 ⟨rfl, hb1⟩; have hB1 : Below w.heap.size w w1 := (by refine bl_tr ?_ hb1; first | exact (bl_alloc (Below.refl _ _) _).drew | exact bl_alloc (Below.refl _ _) _ | exact bl_alloc (Below.refl _ _).drew _); clear hb1; refine (outc_cases (Nd.fitE { op := op, n := m, path := (p.length : Int), pats := (l0.length : Int), kids := (l1.length : Int), decs := (l2.length : Int), tys := (l3.length : Int) } { op := min (max op 1) 6, kids := 2 })).elim (fun ⟨hz, he⟩ => ?_) (fun ⟨hz, he⟩ => by rw [he]; exact ⟨rfl, (by rw [HE0.out]; exact he.symm), hB1⟩); rw [he]; have HE1 : Hid (outc ((Nd.ownN 2) (.mk [.int 13, .int op, .int m, .strs p] [l0, l1, l2, l3])) = .returned (.tuple #[])) := (by show _ = _; rw [HE0.out]; exact he); clear HE0 hz he; have f0_1 := D0.out _ hB1; have f1_1 := D1.out _ hB1; have f2_1 := D2.out _ hB1; have f3_1 := D3.out _ hB1; have f4_1 := D4.out _ hB1; have f5_1 := D5.out _ hB1; have f6_1 := D6.out _ hB1; have f7_1 := D7.out _ hB1; skip))
    first | go_end0 | refine bodyPost_ret (results_none rfl _ _ _) rfl ?_
    exact ⟨HE1.out.symm, hB1⟩
  by_cases hk14 : k = 14
  · subst hk14
    have HE0 : Hid ((Nd.ownN 2) (.mk [.int 14, .int op, .int m, .strs p] [l0, l1, l2, l3]) = Nd.fitE { op := op, n := m, path := (p.length : Int), pats := (l0.length : Int), kids := (l1.length : Int), decs := (l2.length : Int), tys := (l3.length : Int) } { kids := 1, tys := 1 }) := by
      show _ = _
      show Nd.ownExp 14 op m p l0 l1 l2 l3 = _
      rw [Nd.ownExp, if_neg (by omega), if_neg (by omega), if_neg (by omega), if_neg (by omega), if_neg (by omega), if_neg (by omega), if_neg (by omega), if_neg (by omega), if_neg (by omega), if_neg (by omega), if_pos (by omega)]
    go_wp2_with (first | (go_at_call 84; refine (fit_any { op := op, n := m, path := (p.length : Int), pats := (l0.length : Int), kids := (l1.length : Int), decs := (l2.length : Int), tys := (l3.length : Int) } { kids := 1, tys := 1 } _).mono ?_; rintro e w1 ⟨rfl, hb1⟩; have hB1 : Below w.heap.size w w1 := (by refine bl_tr ?_ hb1; first | exact (bl_alloc (Below.refl _ _) _).drew | exact bl_alloc (Below.refl _ _) _ | exact bl_alloc (Below.refl _ _).drew _); clear hb1; refine (outc_cases (Nd.fitE { op := op, n := m, path := (p.length : Int), pats := (l0.length : Int), kids := (l1.length : Int), decs := (l2.length : Int), tys := (l3.length : Int) } { kids := 1, tys := 1 })).elim (fun ⟨hz, he⟩ => ?_) (fun ⟨hz, he⟩ => by rw [he]; exact ⟨rfl, (by rw [HE0.out]; exact he.symm), hB1⟩); rw [he]; have HE1 : Hid (outc ((Nd.ownN 2) (.mk [.int 14, .int op, .int m, .strs p] [l0, l1, l2, l3])) = .returned (.tuple #[])) := (by show _ = _; rw [HE0.out]; exact he); clear HE0 hz he; have f0_1 := D0.out _ hB1; have f1_1 := D1.out _ hB1; have f2_1 := D2.out _ hB1; have f3_1 := D3.out _ hB1; have f4_1 := D4.out _ hB1; have f5_1 := D5.out _ hB1; have f6_1 := D6.out _ hB1; have f7_1 := D7.out _ hB1; skip))
    first | go_end0 | refine bodyPost_ret (results_none rfl _ _ _) rfl ?_
    exact ⟨HE1.out.symm, hB1⟩
  have HE : Hid (outc ((Nd.ownN 2) (.mk [.int k, .int op, .int m, .strs p] [l0, l1, l2, l3])) = .panicked [{ v := .iface 36 (.int .i64 1), recovered := false }]) := by
    show _ = _
    show outc (Nd.ownExp k op m p l0 l1 l2 l3) = _
    rw [Nd.ownExp, if_neg (by omega), if_neg (by omega), if_neg (by omega), if_neg (by omega), if_neg (by omega), if_neg (by omega), if_neg (by omega), if_neg (by omega), if_neg (by omega), if_neg (by omega), if_neg (by omega)]
    exact outc_err (by decide)
  replace hk1 : (k == 1) = false := by rw [beq_eq_false_iff_ne]; exact hk1
  replace hk2 : (k == 2) = false := by rw [beq_eq_false_iff_ne]; exact hk2
  replace hk3 : (k == 3) = false := by rw [beq_eq_false_iff_ne]; exact hk3
  replace hk4 : (k == 4) = false := by rw [beq_eq_false_iff_ne]; exact hk4
  replace hk5 : (k == 5) = false := by rw [beq_eq_false_iff_ne]; exact hk5
  replace hk6 : (k == 6) = false := by rw [beq_eq_false_iff_ne]; exact hk6
  replace hk7 : (k == 7) = false := by rw [beq_eq_false_iff_ne]; exact hk7
  replace hk8 : (k == 8) = false := by rw [beq_eq_false_iff_ne]; exact hk8
  replace hk9 : (k == 9) = false := by rw [beq_eq_false_iff_ne]; exact hk9
  replace hk10 : (k == 10) = false := by rw [beq_eq_false_iff_ne]; exact hk10
  replace hk11 : (k == 11) = false := by rw [beq_eq_false_iff_ne]; exact hk11
  replace hk12 : (k == 12) = false := by rw [beq_eq_false_iff_ne]; exact hk12
  replace hk13 : (k == 13) = false := by rw [beq_eq_false_iff_ne]; exact hk13
  replace hk14 : (k == 14) = false := by rw [beq_eq_false_iff_ne]; exact hk14
  go_wp2
  exact ⟨rfl, HE.out.symm, (by first | exact (bl_alloc (Below.refl _ _) _).drew | exact bl_alloc (Below.refl _ _) _ | exact bl_alloc (Below.refl _ _).drew _)⟩

end Go.Proofs.YtgiegjghldhppabGreat
