/- When a node of one sort is right. -/
import Derived.Deep.RegionHeld
import Derived.Test.YtgiegjghldhppabGreatNdQ1
import Derived.BigRegion
namespace Go.Proofs.YtgiegjghldhppabGreat
open Go.RowKit
set_option linter.unusedVariables false
set_option linter.unusedSimpArgs false

set_option maxHeartbeats 4000000 in
set_option maxRecDepth 100000 in
theorem own3 (n : Nat)  : ErrOf 51 (Nd.ownN 3) (n + 1) 3 := by
  intro w b o vs nd hb hc ha
  obtain ⟨k, pl, s, vp, p, vl0, l0, vl1, l1, vl2, l2, vl3, l3, vl4, l4, rfl, rfl, -, -, hs, ⟨tx, hpx, hpl⟩, kl0, kl1, kl2, kl3, kl4⟩ := At.dec ha
  clear ha
  have hp := pn_any
  have TX : Hid (∀ w', Below w.heap.size w w' → Strs w' vp p) := fun w' h' => (tx.move (Keeps.of_below h') (fun _ h => h)).strs
  obtain ⟨ap, cp, rfl⟩ := tx.form
  clear tx
  obtain ⟨al0, cl0, rfl, -⟩ := kl0.form
  clear kl0
  obtain ⟨al1, cl1, rfl, -⟩ := kl1.form
  clear kl1
  obtain ⟨al2, cl2, rfl, -⟩ := kl2.form
  clear kl2
  obtain ⟨al3, cl3, rfl, -⟩ := kl3.form
  clear kl3
  obtain ⟨al4, cl4, rfl, -⟩ := kl4.form
  clear kl4
  have d0 : w.cell? ⟨b, o, none⟩ = some (.int .i64 k) := hc 0 _ rfl
  have D0 : Hid (∀ w', Below w.heap.size w w' → w'.cell? ⟨b, o, none⟩ = some (.int .i64 k)) := fun w' h' => (h'.cell hb).trans (hc 0 _ rfl)
  have d1 : w.cell? ⟨b, o + 1, none⟩ = some (.int .i64 pl) := hc 1 _ rfl
  have D1 : Hid (∀ w', Below w.heap.size w w' → w'.cell? ⟨b, o + 1, none⟩ = some (.int .i64 pl)) := fun w' h' => (h'.cell hb).trans (hc 1 _ rfl)
  have d2 : w.cell? ⟨b, o + 2, none⟩ = some (.string s) := hc 2 _ rfl
  have D2 : Hid (∀ w', Below w.heap.size w w' → w'.cell? ⟨b, o + 2, none⟩ = some (.string s)) := fun w' h' => (h'.cell hb).trans (hc 2 _ rfl)
  have d3 : w.cell? ⟨b, o + 3, none⟩ = some (.slice ap p.length cp) := hc 3 _ rfl
  have D3 : Hid (∀ w', Below w.heap.size w w' → w'.cell? ⟨b, o + 3, none⟩ = some (.slice ap p.length cp)) := fun w' h' => (h'.cell hb).trans (hc 3 _ rfl)
  have d4 : w.cell? ⟨b, o + 4, none⟩ = some (.slice al0 l0.length cl0) := hc 4 _ rfl
  have D4 : Hid (∀ w', Below w.heap.size w w' → w'.cell? ⟨b, o + 4, none⟩ = some (.slice al0 l0.length cl0)) := fun w' h' => (h'.cell hb).trans (hc 4 _ rfl)
  have d5 : w.cell? ⟨b, o + 5, none⟩ = some (.slice al1 l1.length cl1) := hc 5 _ rfl
  have D5 : Hid (∀ w', Below w.heap.size w w' → w'.cell? ⟨b, o + 5, none⟩ = some (.slice al1 l1.length cl1)) := fun w' h' => (h'.cell hb).trans (hc 5 _ rfl)
  have d6 : w.cell? ⟨b, o + 6, none⟩ = some (.slice al2 l2.length cl2) := hc 6 _ rfl
  have D6 : Hid (∀ w', Below w.heap.size w w' → w'.cell? ⟨b, o + 6, none⟩ = some (.slice al2 l2.length cl2)) := fun w' h' => (h'.cell hb).trans (hc 6 _ rfl)
  have d7 : w.cell? ⟨b, o + 7, none⟩ = some (.slice al3 l3.length cl3) := hc 7 _ rfl
  have D7 : Hid (∀ w', Below w.heap.size w w' → w'.cell? ⟨b, o + 7, none⟩ = some (.slice al3 l3.length cl3)) := fun w' h' => (h'.cell hb).trans (hc 7 _ rfl)
  have d8 : w.cell? ⟨b, o + 8, none⟩ = some (.slice al4 l4.length cl4) := hc 8 _ rfl
  have D8 : Hid (∀ w', Below w.heap.size w w' → w'.cell? ⟨b, o + 8, none⟩ = some (.slice al4 l4.length cl4)) := fun w' h' => (h'.cell hb).trans (hc 8 _ rfl)
  have HC : Cells w b o [.int .i64 k, .int .i64 pl, .string s, .slice ap p.length cp, .slice al0 l0.length cl0, .slice al1 l1.length cl1, .slice al2 l2.length cl2, .slice al3 l3.length cl3, .slice al4 l4.length cl4] := hc
  clear hc 
  go_enter Tryz.func51, Tryz.ntmps51
  go_wp2
  have hS0 : Cells w.drew b o [.int .i64 k, .int .i64 pl, .string s, .slice ap p.length cp, .slice al0 l0.length cl0, .slice al1 l1.length cl1, .slice al2 l2.length cl2, .slice al3 l3.length cl3, .slice al4 l4.length cl4] := HC
  refine wp_region_held_drew (S := fun w' => Cells w' b o [.int .i64 k, .int .i64 pl, .string s, .slice ap p.length cp, .slice al0 l0.length cl0, .slice al1 l1.length cl1, .slice al2 l2.length cl2, .slice al3 l3.length cl3, .slice al4 l4.length cl4]) follows_mixed hS0 (fun hS => ?_)
  refine wpAnyH_take (i := 0) (v := ?_) rfl (by kernel_rfl) (by kernel_rfl) (by kernel_rfl) (fun _ _ _ h => h) (Or.inl ⟨by rfl, ?_⟩) hS ?_
  rotate_left
  · intro wz hz; have y0 : wz.cell? ⟨b, o, none⟩ = some (.int .i64 k) := hz 0 _ rfl; have y1 := hz 1 _ rfl; have y2 := hz 2 _ rfl; have y3 := hz 3 _ rfl; have y4 := hz 4 _ rfl; have y5 := hz 5 _ rfl; have y6 := hz 6 _ rfl; have y7 := hz 7 _ rfl; have y8 := hz 8 _ rfl; clear hz; go_simp; try with_reducible rfl
  try simp only [Act.put, List.setIfInBounds_toArray, List.set_cons_zero, List.set_cons_succ]
  refine wpAnyH_take (i := 1) (v := ?_) rfl (by kernel_rfl) (by kernel_rfl) (by kernel_rfl) (fun _ _ _ h => h) (Or.inl ⟨by rfl, ?_⟩) hS ?_
  rotate_left
  · intro wz hz; have y0 : wz.cell? ⟨b, o, none⟩ = some (.int .i64 k) := hz 0 _ rfl; have y1 := hz 1 _ rfl; have y2 := hz 2 _ rfl; have y3 := hz 3 _ rfl; have y4 := hz 4 _ rfl; have y5 := hz 5 _ rfl; have y6 := hz 6 _ rfl; have y7 := hz 7 _ rfl; have y8 := hz 8 _ rfl; clear hz; go_simp; try with_reducible rfl
  try simp only [Act.put, List.setIfInBounds_toArray, List.set_cons_zero, List.set_cons_succ]
  refine wpAnyH_take (i := 2) (v := ?_) rfl (by kernel_rfl) (by kernel_rfl) (by kernel_rfl) (fun _ _ _ h => h) (Or.inl ⟨by rfl, ?_⟩) hS ?_
  rotate_left
  · intro wz hz; have y0 : wz.cell? ⟨b, o, none⟩ = some (.int .i64 k) := hz 0 _ rfl; have y1 := hz 1 _ rfl; have y2 := hz 2 _ rfl; have y3 := hz 3 _ rfl; have y4 := hz 4 _ rfl; have y5 := hz 5 _ rfl; have y6 := hz 6 _ rfl; have y7 := hz 7 _ rfl; have y8 := hz 8 _ rfl; clear hz; go_simp; try with_reducible rfl
  try simp only [Act.put, List.setIfInBounds_toArray, List.set_cons_zero, List.set_cons_succ]
  refine wpAnyH_take (i := 3) (v := ?_) rfl (by kernel_rfl) (by kernel_rfl) (by kernel_rfl) (fun _ _ _ h => h) (Or.inl ⟨by rfl, ?_⟩) hS ?_
  rotate_left
  · intro wz hz; have y0 : wz.cell? ⟨b, o, none⟩ = some (.int .i64 k) := hz 0 _ rfl; have y1 := hz 1 _ rfl; have y2 := hz 2 _ rfl; have y3 := hz 3 _ rfl; have y4 := hz 4 _ rfl; have y5 := hz 5 _ rfl; have y6 := hz 6 _ rfl; have y7 := hz 7 _ rfl; have y8 := hz 8 _ rfl; clear hz; go_simp; try with_reducible rfl
  try simp only [Act.put, List.setIfInBounds_toArray, List.set_cons_zero, List.set_cons_succ]
  refine wpAnyH_take (i := 4) (v := ?_) rfl (by kernel_rfl) (by kernel_rfl) (by kernel_rfl) (fun _ _ _ h => h) (Or.inl ⟨by rfl, ?_⟩) hS ?_
  rotate_left
  · intro wz hz; have y0 : wz.cell? ⟨b, o, none⟩ = some (.int .i64 k) := hz 0 _ rfl; have y1 := hz 1 _ rfl; have y2 := hz 2 _ rfl; have y3 := hz 3 _ rfl; have y4 := hz 4 _ rfl; have y5 := hz 5 _ rfl; have y6 := hz 6 _ rfl; have y7 := hz 7 _ rfl; have y8 := hz 8 _ rfl; clear hz; go_simp; try with_reducible rfl
  try simp only [Act.put, List.setIfInBounds_toArray, List.set_cons_zero, List.set_cons_succ]
  refine wpAnyH_take (i := 5) (v := ?_) rfl (by kernel_rfl) (by kernel_rfl) (by kernel_rfl) (fun _ _ _ h => h) (Or.inl ⟨by rfl, ?_⟩) hS ?_
  rotate_left
  · intro wz hz; have y0 : wz.cell? ⟨b, o, none⟩ = some (.int .i64 k) := hz 0 _ rfl; have y1 := hz 1 _ rfl; have y2 := hz 2 _ rfl; have y3 := hz 3 _ rfl; have y4 := hz 4 _ rfl; have y5 := hz 5 _ rfl; have y6 := hz 6 _ rfl; have y7 := hz 7 _ rfl; have y8 := hz 8 _ rfl; clear hz; go_simp; try with_reducible rfl
  try simp only [Act.put, List.setIfInBounds_toArray, List.set_cons_zero, List.set_cons_succ]
  refine wpAnyH_take (i := 6) (v := ?_) rfl (by kernel_rfl) (by kernel_rfl) (by kernel_rfl) (fun _ _ _ h => h) (Or.inl ⟨by rfl, ?_⟩) hS ?_
  rotate_left
  · intro wz hz; have y0 : wz.cell? ⟨b, o, none⟩ = some (.int .i64 k) := hz 0 _ rfl; have y1 := hz 1 _ rfl; have y2 := hz 2 _ rfl; have y3 := hz 3 _ rfl; have y4 := hz 4 _ rfl; have y5 := hz 5 _ rfl; have y6 := hz 6 _ rfl; have y7 := hz 7 _ rfl; have y8 := hz 8 _ rfl; clear hz; go_simp; try with_reducible rfl
  try simp only [Act.put, List.setIfInBounds_toArray, List.set_cons_zero, List.set_cons_succ]
  refine wpAnyH_take (i := 7) (v := ?_) rfl (by kernel_rfl) (by kernel_rfl) (by kernel_rfl) (fun _ _ _ h => h) (Or.inl ⟨by rfl, ?_⟩) hS ?_
  rotate_left
  · intro wz hz; have y0 : wz.cell? ⟨b, o, none⟩ = some (.int .i64 k) := hz 0 _ rfl; have y1 := hz 1 _ rfl; have y2 := hz 2 _ rfl; have y3 := hz 3 _ rfl; have y4 := hz 4 _ rfl; have y5 := hz 5 _ rfl; have y6 := hz 6 _ rfl; have y7 := hz 7 _ rfl; have y8 := hz 8 _ rfl; clear hz; go_simp; try with_reducible rfl
  try simp only [Act.put, List.setIfInBounds_toArray, List.set_cons_zero, List.set_cons_succ]
  refine wpAnyH_take (i := 8) (v := ?_) rfl (by kernel_rfl) (by kernel_rfl) (by kernel_rfl) (fun _ _ _ h => h) (Or.inl ⟨by rfl, ?_⟩) hS ?_
  rotate_left
  · intro wz hz; have y0 : wz.cell? ⟨b, o, none⟩ = some (.int .i64 k) := hz 0 _ rfl; have y1 := hz 1 _ rfl; have y2 := hz 2 _ rfl; have y3 := hz 3 _ rfl; have y4 := hz 4 _ rfl; have y5 := hz 5 _ rfl; have y6 := hz 6 _ rfl; have y7 := hz 7 _ rfl; have y8 := hz 8 _ rfl; clear hz; go_simp; try with_reducible rfl
  try simp only [Act.put, List.setIfInBounds_toArray, List.set_cons_zero, List.set_cons_succ]
  refine wpAnyH_take (i := 9) (v := ?_) rfl (by kernel_rfl) (by kernel_rfl) (by kernel_rfl) (fun _ _ _ h => h) (Or.inl ⟨by rfl, ?_⟩) hS ?_
  rotate_left
  · intro wz hz; have y0 : wz.cell? ⟨b, o, none⟩ = some (.int .i64 k) := hz 0 _ rfl; have y1 := hz 1 _ rfl; have y2 := hz 2 _ rfl; have y3 := hz 3 _ rfl; have y4 := hz 4 _ rfl; have y5 := hz 5 _ rfl; have y6 := hz 6 _ rfl; have y7 := hz 7 _ rfl; have y8 := hz 8 _ rfl; clear hz; go_simp; try with_reducible rfl
  try simp only [Act.put, List.setIfInBounds_toArray, List.set_cons_zero, List.set_cons_succ]
  refine wpAnyH_take (i := 10) (v := ?_) rfl (by kernel_rfl) (by kernel_rfl) (by kernel_rfl) (fun _ _ _ h => h) (Or.inl ⟨by rfl, ?_⟩) hS ?_
  rotate_left
  · intro wz hz; have y0 : wz.cell? ⟨b, o, none⟩ = some (.int .i64 k) := hz 0 _ rfl; have y1 := hz 1 _ rfl; have y2 := hz 2 _ rfl; have y3 := hz 3 _ rfl; have y4 := hz 4 _ rfl; have y5 := hz 5 _ rfl; have y6 := hz 6 _ rfl; have y7 := hz 7 _ rfl; have y8 := hz 8 _ rfl; clear hz; go_simp; try with_reducible rfl
  try simp only [Act.put, List.setIfInBounds_toArray, List.set_cons_zero, List.set_cons_succ]
  refine wpAnyH_take (i := 11) (v := ?_) rfl (by kernel_rfl) (by kernel_rfl) (by kernel_rfl) (fun _ _ _ h => h) (Or.inl ⟨by rfl, ?_⟩) hS ?_
  rotate_left
  · intro wz hz; have y0 : wz.cell? ⟨b, o, none⟩ = some (.int .i64 k) := hz 0 _ rfl; have y1 := hz 1 _ rfl; have y2 := hz 2 _ rfl; have y3 := hz 3 _ rfl; have y4 := hz 4 _ rfl; have y5 := hz 5 _ rfl; have y6 := hz 6 _ rfl; have y7 := hz 7 _ rfl; have y8 := hz 8 _ rfl; clear hz; go_simp; try with_reducible rfl
  try simp only [Act.put, List.setIfInBounds_toArray, List.set_cons_zero, List.set_cons_succ]
  refine wpAnyH_take (i := 12) (v := ?_) rfl (by kernel_rfl) (by kernel_rfl) (by kernel_rfl) (fun _ _ _ h => h) (Or.inl ⟨by rfl, ?_⟩) hS ?_
  rotate_left
  · intro wz hz; have y0 : wz.cell? ⟨b, o, none⟩ = some (.int .i64 k) := hz 0 _ rfl; have y1 := hz 1 _ rfl; have y2 := hz 2 _ rfl; have y3 := hz 3 _ rfl; have y4 := hz 4 _ rfl; have y5 := hz 5 _ rfl; have y6 := hz 6 _ rfl; have y7 := hz 7 _ rfl; have y8 := hz 8 _ rfl; clear hz; go_simp; try with_reducible rfl
  try simp only [Act.put, List.setIfInBounds_toArray, List.set_cons_zero, List.set_cons_succ]
  refine wpAnyH_take (i := 13) (v := ?_) rfl (by kernel_rfl) (by kernel_rfl) (by kernel_rfl) (fun _ _ _ h => h) (Or.inl ⟨by rfl, ?_⟩) hS ?_
  rotate_left
  · intro wz hz; have y0 : wz.cell? ⟨b, o, none⟩ = some (.int .i64 k) := hz 0 _ rfl; have y1 := hz 1 _ rfl; have y2 := hz 2 _ rfl; have y3 := hz 3 _ rfl; have y4 := hz 4 _ rfl; have y5 := hz 5 _ rfl; have y6 := hz 6 _ rfl; have y7 := hz 7 _ rfl; have y8 := hz 8 _ rfl; clear hz; go_simp; try with_reducible rfl
  try simp only [Act.put, List.setIfInBounds_toArray, List.set_cons_zero, List.set_cons_succ]
  refine wpAnyH_take (i := 14) (v := ?_) rfl (by kernel_rfl) (by kernel_rfl) (by kernel_rfl) (fun _ _ _ h => h) (Or.inl ⟨by rfl, ?_⟩) hS ?_
  rotate_left
  · intro wz hz; have y0 : wz.cell? ⟨b, o, none⟩ = some (.int .i64 k) := hz 0 _ rfl; have y1 := hz 1 _ rfl; have y2 := hz 2 _ rfl; have y3 := hz 3 _ rfl; have y4 := hz 4 _ rfl; have y5 := hz 5 _ rfl; have y6 := hz 6 _ rfl; have y7 := hz 7 _ rfl; have y8 := hz 8 _ rfl; clear hz; go_simp; try with_reducible rfl
  try simp only [Act.put, List.setIfInBounds_toArray, List.set_cons_zero, List.set_cons_succ]
  refine wpAnyH_take (i := 15) (v := ?_) rfl (by kernel_rfl) (by kernel_rfl) (by kernel_rfl) (fun _ _ _ h => h) (Or.inl ⟨by rfl, ?_⟩) hS ?_
  rotate_left
  · intro wz hz; have y0 : wz.cell? ⟨b, o, none⟩ = some (.int .i64 k) := hz 0 _ rfl; have y1 := hz 1 _ rfl; have y2 := hz 2 _ rfl; have y3 := hz 3 _ rfl; have y4 := hz 4 _ rfl; have y5 := hz 5 _ rfl; have y6 := hz 6 _ rfl; have y7 := hz 7 _ rfl; have y8 := hz 8 _ rfl; clear hz; go_simp; try with_reducible rfl
  try simp only [Act.put, List.setIfInBounds_toArray, List.set_cons_zero, List.set_cons_succ]
  refine wpAnyH_take (i := 16) (v := ?_) rfl (by kernel_rfl) (by kernel_rfl) (by kernel_rfl) (fun _ _ _ h => h) (Or.inl ⟨by rfl, ?_⟩) hS ?_
  rotate_left
  · intro wz hz; have y0 : wz.cell? ⟨b, o, none⟩ = some (.int .i64 k) := hz 0 _ rfl; have y1 := hz 1 _ rfl; have y2 := hz 2 _ rfl; have y3 := hz 3 _ rfl; have y4 := hz 4 _ rfl; have y5 := hz 5 _ rfl; have y6 := hz 6 _ rfl; have y7 := hz 7 _ rfl; have y8 := hz 8 _ rfl; clear hz; go_simp; try with_reducible rfl
  try simp only [Act.put, List.setIfInBounds_toArray, List.set_cons_zero, List.set_cons_succ]
  refine wpAnyH_take (i := 17) (v := ?_) rfl (by kernel_rfl) (by kernel_rfl) (by kernel_rfl) (fun _ _ _ h => h) (Or.inl ⟨by rfl, ?_⟩) hS ?_
  rotate_left
  · intro wz hz; have y0 : wz.cell? ⟨b, o, none⟩ = some (.int .i64 k) := hz 0 _ rfl; have y1 := hz 1 _ rfl; have y2 := hz 2 _ rfl; have y3 := hz 3 _ rfl; have y4 := hz 4 _ rfl; have y5 := hz 5 _ rfl; have y6 := hz 6 _ rfl; have y7 := hz 7 _ rfl; have y8 := hz 8 _ rfl; clear hz; go_simp; try with_reducible rfl
  try simp only [Act.put, List.setIfInBounds_toArray, List.set_cons_zero, List.set_cons_succ]
  refine wpAnyH_take (i := 18) (v := ?_) rfl (by kernel_rfl) (by kernel_rfl) (by kernel_rfl) (fun _ _ _ h => h) (Or.inl ⟨by rfl, ?_⟩) hS ?_
  rotate_left
  · intro wz hz; have y0 : wz.cell? ⟨b, o, none⟩ = some (.int .i64 k) := hz 0 _ rfl; have y1 := hz 1 _ rfl; have y2 := hz 2 _ rfl; have y3 := hz 3 _ rfl; have y4 := hz 4 _ rfl; have y5 := hz 5 _ rfl; have y6 := hz 6 _ rfl; have y7 := hz 7 _ rfl; have y8 := hz 8 _ rfl; clear hz; go_simp; try with_reducible rfl
  try simp only [Act.put, List.setIfInBounds_toArray, List.set_cons_zero, List.set_cons_succ]
  refine wpAnyH_take (i := 19) (v := ?_) rfl (by kernel_rfl) (by kernel_rfl) (by kernel_rfl) (fun _ _ _ h => h) (Or.inl ⟨by rfl, ?_⟩) hS ?_
  rotate_left
  · intro wz hz; have y0 : wz.cell? ⟨b, o, none⟩ = some (.int .i64 k) := hz 0 _ rfl; have y1 := hz 1 _ rfl; have y2 := hz 2 _ rfl; have y3 := hz 3 _ rfl; have y4 := hz 4 _ rfl; have y5 := hz 5 _ rfl; have y6 := hz 6 _ rfl; have y7 := hz 7 _ rfl; have y8 := hz 8 _ rfl; clear hz; go_simp; try with_reducible rfl
  try simp only [Act.put, List.setIfInBounds_toArray, List.set_cons_zero, List.set_cons_succ]
  refine wpAnyH_take (i := 20) (v := ?_) rfl (by kernel_rfl) (by kernel_rfl) (by kernel_rfl) (fun _ _ _ h => h) (Or.inl ⟨by rfl, ?_⟩) hS ?_
  rotate_left
  · intro wz hz; have y0 : wz.cell? ⟨b, o, none⟩ = some (.int .i64 k) := hz 0 _ rfl; have y1 := hz 1 _ rfl; have y2 := hz 2 _ rfl; have y3 := hz 3 _ rfl; have y4 := hz 4 _ rfl; have y5 := hz 5 _ rfl; have y6 := hz 6 _ rfl; have y7 := hz 7 _ rfl; have y8 := hz 8 _ rfl; clear hz; go_simp; try with_reducible rfl
  try simp only [Act.put, List.setIfInBounds_toArray, List.set_cons_zero, List.set_cons_succ]
  refine wpAnyH_take (i := 21) (v := ?_) rfl (by kernel_rfl) (by kernel_rfl) (by kernel_rfl) (fun _ _ _ h => h) (Or.inl ⟨by rfl, ?_⟩) hS ?_
  rotate_left
  · intro wz hz; have y0 : wz.cell? ⟨b, o, none⟩ = some (.int .i64 k) := hz 0 _ rfl; have y1 := hz 1 _ rfl; have y2 := hz 2 _ rfl; have y3 := hz 3 _ rfl; have y4 := hz 4 _ rfl; have y5 := hz 5 _ rfl; have y6 := hz 6 _ rfl; have y7 := hz 7 _ rfl; have y8 := hz 8 _ rfl; clear hz; go_simp; try with_reducible rfl
  try simp only [Act.put, List.setIfInBounds_toArray, List.set_cons_zero, List.set_cons_succ]
  refine wpAnyH_take (i := 22) (v := ?_) rfl (by kernel_rfl) (by kernel_rfl) (by kernel_rfl) (fun _ _ _ h => h) (Or.inl ⟨by rfl, ?_⟩) hS ?_
  rotate_left
  · intro wz hz; have y0 : wz.cell? ⟨b, o, none⟩ = some (.int .i64 k) := hz 0 _ rfl; have y1 := hz 1 _ rfl; have y2 := hz 2 _ rfl; have y3 := hz 3 _ rfl; have y4 := hz 4 _ rfl; have y5 := hz 5 _ rfl; have y6 := hz 6 _ rfl; have y7 := hz 7 _ rfl; have y8 := hz 8 _ rfl; clear hz; go_simp; try with_reducible rfl
  try simp only [Act.put, List.setIfInBounds_toArray, List.set_cons_zero, List.set_cons_succ]
  refine wpAnyH_take (i := 23) (v := ?_) rfl (by kernel_rfl) (by kernel_rfl) (by kernel_rfl) (fun _ _ _ h => h) (Or.inl ⟨by rfl, ?_⟩) hS ?_
  rotate_left
  · intro wz hz; have y0 : wz.cell? ⟨b, o, none⟩ = some (.int .i64 k) := hz 0 _ rfl; have y1 := hz 1 _ rfl; have y2 := hz 2 _ rfl; have y3 := hz 3 _ rfl; have y4 := hz 4 _ rfl; have y5 := hz 5 _ rfl; have y6 := hz 6 _ rfl; have y7 := hz 7 _ rfl; have y8 := hz 8 _ rfl; clear hz; go_simp; try with_reducible rfl
  try simp only [Act.put, List.setIfInBounds_toArray, List.set_cons_zero, List.set_cons_succ]
  refine wpAnyH_take (i := 24) (v := ?_) rfl (by kernel_rfl) (by kernel_rfl) (by kernel_rfl) (fun _ _ _ h => h) (Or.inl ⟨by rfl, ?_⟩) hS ?_
  rotate_left
  · intro wz hz; have y0 : wz.cell? ⟨b, o, none⟩ = some (.int .i64 k) := hz 0 _ rfl; have y1 := hz 1 _ rfl; have y2 := hz 2 _ rfl; have y3 := hz 3 _ rfl; have y4 := hz 4 _ rfl; have y5 := hz 5 _ rfl; have y6 := hz 6 _ rfl; have y7 := hz 7 _ rfl; have y8 := hz 8 _ rfl; clear hz; go_simp; try with_reducible rfl
  try simp only [Act.put, List.setIfInBounds_toArray, List.set_cons_zero, List.set_cons_succ]
  refine wpAnyH_take (i := 25) (v := ?_) rfl (by kernel_rfl) (by kernel_rfl) (by kernel_rfl) (fun _ _ _ h => h) (Or.inl ⟨by rfl, ?_⟩) hS ?_
  rotate_left
  · intro wz hz; have y0 : wz.cell? ⟨b, o, none⟩ = some (.int .i64 k) := hz 0 _ rfl; have y1 := hz 1 _ rfl; have y2 := hz 2 _ rfl; have y3 := hz 3 _ rfl; have y4 := hz 4 _ rfl; have y5 := hz 5 _ rfl; have y6 := hz 6 _ rfl; have y7 := hz 7 _ rfl; have y8 := hz 8 _ rfl; clear hz; go_simp; try with_reducible rfl
  try simp only [Act.put, List.setIfInBounds_toArray, List.set_cons_zero, List.set_cons_succ]
  refine wpAnyH_take (i := 26) (v := ?_) rfl (by kernel_rfl) (by kernel_rfl) (by kernel_rfl) (fun _ _ _ h => h) (Or.inl ⟨by rfl, ?_⟩) hS ?_
  rotate_left
  · intro wz hz; have y0 : wz.cell? ⟨b, o, none⟩ = some (.int .i64 k) := hz 0 _ rfl; have y1 := hz 1 _ rfl; have y2 := hz 2 _ rfl; have y3 := hz 3 _ rfl; have y4 := hz 4 _ rfl; have y5 := hz 5 _ rfl; have y6 := hz 6 _ rfl; have y7 := hz 7 _ rfl; have y8 := hz 8 _ rfl; clear hz; go_simp; try with_reducible rfl
  try simp only [Act.put, List.setIfInBounds_toArray, List.set_cons_zero, List.set_cons_succ]
  refine wpAnyH_take (i := 27) (v := ?_) rfl (by kernel_rfl) (by kernel_rfl) (by kernel_rfl) (fun _ _ _ h => h) (Or.inl ⟨by rfl, ?_⟩) hS ?_
  rotate_left
  · intro wz hz; have y0 : wz.cell? ⟨b, o, none⟩ = some (.int .i64 k) := hz 0 _ rfl; have y1 := hz 1 _ rfl; have y2 := hz 2 _ rfl; have y3 := hz 3 _ rfl; have y4 := hz 4 _ rfl; have y5 := hz 5 _ rfl; have y6 := hz 6 _ rfl; have y7 := hz 7 _ rfl; have y8 := hz 8 _ rfl; clear hz; go_simp; try with_reducible rfl
  try simp only [Act.put, List.setIfInBounds_toArray, List.set_cons_zero, List.set_cons_succ]
  refine wpAnyH_take (i := 28) (v := ?_) rfl (by kernel_rfl) (by kernel_rfl) (by kernel_rfl) (fun _ _ _ h => h) (Or.inl ⟨by rfl, ?_⟩) hS ?_
  rotate_left
  · intro wz hz; have y0 : wz.cell? ⟨b, o, none⟩ = some (.int .i64 k) := hz 0 _ rfl; have y1 := hz 1 _ rfl; have y2 := hz 2 _ rfl; have y3 := hz 3 _ rfl; have y4 := hz 4 _ rfl; have y5 := hz 5 _ rfl; have y6 := hz 6 _ rfl; have y7 := hz 7 _ rfl; have y8 := hz 8 _ rfl; clear hz; go_simp; try with_reducible rfl
  try simp only [Act.put, List.setIfInBounds_toArray, List.set_cons_zero, List.set_cons_succ]
  refine wpAnyH_take (i := 29) (v := ?_) rfl (by kernel_rfl) (by kernel_rfl) (by kernel_rfl) (fun _ _ _ h => h) (Or.inl ⟨by rfl, ?_⟩) hS ?_
  rotate_left
  · intro wz hz; have y0 : wz.cell? ⟨b, o, none⟩ = some (.int .i64 k) := hz 0 _ rfl; have y1 := hz 1 _ rfl; have y2 := hz 2 _ rfl; have y3 := hz 3 _ rfl; have y4 := hz 4 _ rfl; have y5 := hz 5 _ rfl; have y6 := hz 6 _ rfl; have y7 := hz 7 _ rfl; have y8 := hz 8 _ rfl; clear hz; go_simp; try with_reducible rfl
  try simp only [Act.put, List.setIfInBounds_toArray, List.set_cons_zero, List.set_cons_succ]
  refine wpAnyH_take (i := 30) (v := ?_) rfl (by kernel_rfl) (by kernel_rfl) (by kernel_rfl) (fun _ _ _ h => h) (Or.inl ⟨by rfl, ?_⟩) hS ?_
  rotate_left
  · intro wz hz; have y0 : wz.cell? ⟨b, o, none⟩ = some (.int .i64 k) := hz 0 _ rfl; have y1 := hz 1 _ rfl; have y2 := hz 2 _ rfl; have y3 := hz 3 _ rfl; have y4 := hz 4 _ rfl; have y5 := hz 5 _ rfl; have y6 := hz 6 _ rfl; have y7 := hz 7 _ rfl; have y8 := hz 8 _ rfl; clear hz; go_simp; try with_reducible rfl
  try simp only [Act.put, List.setIfInBounds_toArray, List.set_cons_zero, List.set_cons_succ]
  refine wpAnyH_ready (rs := [31]) (by kernel_rfl) (by simp) (AllReadyH.cons rfl (fun K hK => ?_) AllReadyH.nil)
  go_simp
  refine hK.out _ _ (hS.move (K := Any) trivial (Keeps.of_below (bl_alloc (Below.refl _ _) _))) (fun hS2 => ?_)
  clear hK K
  try simp only [Act.put, List.setIfInBounds_toArray, List.set_cons_zero, List.set_cons_succ]
  refine wpAnyH_ready (rs := [32]) (by kernel_rfl) (by simp) (AllReadyH.cons rfl (fun K hK => ?_) AllReadyH.nil)
  go_simp
  refine hK.out _ _ (hS.move (K := Any) trivial (Keeps.of_below (bl_alloc (Below.refl _ _) _))) (fun hS3 => ?_)
  clear hK K
  try simp only [Act.put, List.setIfInBounds_toArray, List.set_cons_zero, List.set_cons_succ]
  refine wpAnyH_done (by kernel_rfl) ?_ _
  clear hS hS2 hS3 hS0 HC
  by_cases hk1 : k = 1
  · subst hk1
    have HE0 : Hid ((Nd.ownN 3) (.mk [.int 1, .int 0, .str s, .strs p] [l0, l1, l2, l3, l4]) = Nd.firstE (Nd.fitE { params := (p.length : Int), tys := (l0.length : Int), exps := (l1.length : Int), cons := (l2.length : Int), mods := (l3.length : Int), sigs := (l4.length : Int) } { tys := min (l0.length : Int) 1, exps := 1 }) (Nd.firstE (Nd.nameE s (Nm.lower s)) (Nd.namesE Nm.lower p))) := by
      show _ = _
      show Nd.ownDec 1 s p l0 l1 l2 l3 l4 = _
      rw [Nd.ownDec, if_pos (by omega)]
    go_wp2_with (first | (go_at_call 86; refine (named_any s hs 83 Nm.lower sort_lower _).mono ?_; rintro e w2 ⟨rfl, hw⟩; rw [hw]; clear hw w2; refine (outc_cases (Nd.nameE s (Nm.lower s))).elim (fun ⟨hz, he⟩ => ?_) (fun ⟨hz, he⟩ => by rw [he]; exact ⟨rfl, (by rw [HE1.out, Nd.firstE_ne hz]; exact he.symm), hB1⟩); rw [he]; have HE2 := HE1.out.trans (Nd.firstE_zero hz); replace HE2 : Hid ((Nd.ownN 3) (.mk [.int 1, .int 0, .str s, .strs p] [l0, l1, l2, l3, l4]) = Nd.namesE Nm.lower p) := HE2; clear HE1 hz he) | (go_at_call 84; refine (fit_any { params := (p.length : Int), tys := (l0.length : Int), exps := (l1.length : Int), cons := (l2.length : Int), mods := (l3.length : Int), sigs := (l4.length : Int) } { tys := min (l0.length : Int) 1, exps := 1 } _).mono ?_; rintro e w1 ⟨rfl, hb1⟩; have hB1 : Below w.heap.size w w1 := (by refine bl_tr ?_ hb1; first | exact (bl_alloc (Below.refl _ _) _).drew | exact bl_alloc (Below.refl _ _) _ | exact bl_alloc (Below.refl _ _).drew _); clear hb1; refine (outc_cases (Nd.fitE { params := (p.length : Int), tys := (l0.length : Int), exps := (l1.length : Int), cons := (l2.length : Int), mods := (l3.length : Int), sigs := (l4.length : Int) } { tys := min (l0.length : Int) 1, exps := 1 })).elim (fun ⟨hz, he⟩ => ?_) (fun ⟨hz, he⟩ => by rw [he]; exact ⟨rfl, (by rw [HE0.out, Nd.firstE_ne hz]; exact he.symm), hB1⟩); rw [he]; have HE1 := HE0.out.trans (Nd.firstE_zero hz); replace HE1 : Hid ((Nd.ownN 3) (.mk [.int 1, .int 0, .str s, .strs p] [l0, l1, l2, l3, l4]) = Nd.firstE (Nd.nameE s (Nm.lower s)) (Nd.namesE Nm.lower p)) := HE1; clear HE0 hz he; have f0_1 := D0.out _ hB1; have f1_1 := D1.out _ hB1; have f2_1 := D2.out _ hB1; have f3_1 := D3.out _ hB1; have f4_1 := D4.out _ hB1; have f5_1 := D5.out _ hB1; have f6_1 := D6.out _ hB1; have f7_1 := D7.out _ hB1; have f8_1 := D8.out _ hB1; skip))
    have TW := TX.out _ hB1
    have HO : Hid (outc ((Nd.ownN 3) (.mk [.int 1, .int 0, .str s, .strs p] [l0, l1, l2, l3, l4])) = outc (Nd.namesE Nm.lower p)) := by show _ = _; rw [HE2.out]
    clear HE2 TX
    unfold maxLen at hpl
    go_loopw [100] (fun v wr => ∃ j : Nat, v = .int .i64 j ∧ j ≤ p.length ∧ Hid (outc ((Nd.ownN 3) (.mk [.int 1, .int 0, .str s, .strs p] [l0, l1, l2, l3, l4])) = outc (Nd.namesE Nm.lower (p.drop j))) ∧ wr = w1) (fun v _ => p.length - (intOf v).toNat)
    case atStart => exact ⟨0, rfl, Nat.zero_le _, HO, rfl⟩
    case round =>
      clear HO
      obtain ⟨j, rfl, hj, hH, rfl⟩ := hrel
      by_cases hlt : j < p.length
      · rcases TW with ⟨bb, oo, cc, heq, hcc⟩ | ⟨rfl, _⟩
        · injection heq with g1 g2 g3
          subst g1; subst g3
          obtain ⟨x, hxj⟩ : ∃ x, p[j]? = some x := ⟨_, List.getElem?_eq_getElem hlt⟩
          have hcx := hcc j x hxj
          have q := named_any x (hpx x (List.mem_of_getElem? hxj)) 83 Nm.lower sort_lower wr
          have HX : Hid (outc ((Nd.ownN 3) (.mk [.int 1, .int 0, .str s, .strs p] [l0, l1, l2, l3, l4])) = outc (Nd.firstE (Nd.nameE x (Nm.lower x)) (Nd.namesE Nm.lower (p.drop (j + 1))))) := by
            show _ = _
            rw [hH.out, Nm.drop_at hxj, Nd.namesE]
          clear hH hcc hxj hpx g2
          rcases outc_cases (Nd.nameE x (Nm.lower x)) with ⟨hz, he⟩ | ⟨hz, he⟩
          · rw [he] at q
            have HY : Hid (outc ((Nd.ownN 3) (.mk [.int 1, .int 0, .str s, .strs p] [l0, l1, l2, l3, l4])) = outc (Nd.namesE Nm.lower (p.drop (j + 1)))) := by
              show _ = _
              rw [HX.out, Nd.firstE_zero hz]
            clear HX hz he
            go_wp2_with (go_at_call 86; refine q.mono ?_; rintro e w3 ⟨rfl, hw⟩; rw [hw]; clear hw w3)
            go_roundw
            case rel => exact ⟨j + 1, by go_num, by omega, HY, by first | rfl | trivial⟩
            case measure => simp [intOf]; omega
          · rw [he] at q
            have HY : Hid (outc ((Nd.ownN 3) (.mk [.int 1, .int 0, .str s, .strs p] [l0, l1, l2, l3, l4])) = .panicked [{ v := .iface 36 (.int .i64 (Nd.nameE x (Nm.lower x))), recovered := false }]) := by
              show _ = _
              rw [HX.out, Nd.firstE_ne hz, he]
            clear HX hz he
            go_wp2_with (go_at_call 86; refine q.mono ?_; rintro e w3 ⟨rfl, hw⟩; rw [hw]; clear hw w3)
            exact ⟨rfl, HY.out.symm, hB1⟩
        · exact absurd hlt (by simp)
      · have HX : Hid (outc ((Nd.ownN 3) (.mk [.int 1, .int 0, .str s, .strs p] [l0, l1, l2, l3, l4])) = .returned (.tuple #[])) := by
          show _ = _
          rw [hH.out, List.drop_eq_nil_of_le (by omega)]; rfl
        clear hH TW hpx
        go_wp2
        go_end0
        exact ⟨HX.out.symm, hB1⟩
  by_cases hk2 : k = 2
  · subst hk2
    have HE0 : Hid ((Nd.ownN 3) (.mk [.int 2, .int 0, .str s, .strs p] [l0, l1, l2, l3, l4]) = Nd.firstE (Nd.fitE { params := (p.length : Int), tys := (l0.length : Int), exps := (l1.length : Int), cons := (l2.length : Int), mods := (l3.length : Int), sigs := (l4.length : Int) } { params := max (p.length : Int) 1, tys := min (l0.length : Int) 1, exps := 1 }) (Nd.firstE (Nd.nameE s (Nm.lower s)) (Nd.namesE Nm.lower p))) := by
      show _ = _
      show Nd.ownDec 2 s p l0 l1 l2 l3 l4 = _
      rw [Nd.ownDec, if_neg (by omega), if_pos (by omega)]
    go_wp2_with (first | (go_at_call 86; refine (named_any s hs 83 Nm.lower sort_lower _).mono ?_; rintro e w2 ⟨rfl, hw⟩; rw [hw]; clear hw w2; refine (outc_cases (Nd.nameE s (Nm.lower s))).elim (fun ⟨hz, he⟩ => ?_) (fun ⟨hz, he⟩ => by rw [he]; exact ⟨rfl, (by rw [HE1.out, Nd.firstE_ne hz]; exact he.symm), hB1⟩); rw [he]; have HE2 := HE1.out.trans (Nd.firstE_zero hz); replace HE2 : Hid ((Nd.ownN 3) (.mk [.int 2, .int 0, .str s, .strs p] [l0, l1, l2, l3, l4]) = Nd.namesE Nm.lower p) := HE2; clear HE1 hz he) | (go_at_call 84; refine (fit_any { params := (p.length : Int), tys := (l0.length : Int), exps := (l1.length : Int), cons := (l2.length : Int), mods := (l3.length : Int), sigs := (l4.length : Int) } { params := max (p.length : Int) 1, tys := min (l0.length : Int) 1, exps := 1 } _).mono ?_; rintro e w1 ⟨rfl, hb1⟩; have hB1 : Below w.heap.size w w1 := (by refine bl_tr ?_ hb1; first | exact (bl_alloc (Below.refl _ _) _).drew | exact bl_alloc (Below.refl _ _) _ | exact bl_alloc (Below.refl _ _).drew _); clear hb1; refine (outc_cases (Nd.fitE { params := (p.length : Int), tys := (l0.length : Int), exps := (l1.length : Int), cons := (l2.length : Int), mods := (l3.length : Int), sigs := (l4.length : Int) } { params := max (p.length : Int) 1, tys := min (l0.length : Int) 1, exps := 1 })).elim (fun ⟨hz, he⟩ => ?_) (fun ⟨hz, he⟩ => by rw [he]; exact ⟨rfl, (by rw [HE0.out, Nd.firstE_ne hz]; exact he.symm), hB1⟩); rw [he]; have HE1 := HE0.out.trans (Nd.firstE_zero hz); replace HE1 : Hid ((Nd.ownN 3) (.mk [.int 2, .int 0, .str s, .strs p] [l0, l1, l2, l3, l4]) = Nd.firstE (Nd.nameE s (Nm.lower s)) (Nd.namesE Nm.lower p)) := HE1; clear HE0 hz he; have f0_1 := D0.out _ hB1; have f1_1 := D1.out _ hB1; have f2_1 := D2.out _ hB1; have f3_1 := D3.out _ hB1; have f4_1 := D4.out _ hB1; have f5_1 := D5.out _ hB1; have f6_1 := D6.out _ hB1; have f7_1 := D7.out _ hB1; have f8_1 := D8.out _ hB1; skip))
    have TW := TX.out _ hB1
    have HO : Hid (outc ((Nd.ownN 3) (.mk [.int 2, .int 0, .str s, .strs p] [l0, l1, l2, l3, l4])) = outc (Nd.namesE Nm.lower p)) := by show _ = _; rw [HE2.out]
    clear HE2 TX
    unfold maxLen at hpl
    go_loopw [100] (fun v wr => ∃ j : Nat, v = .int .i64 j ∧ j ≤ p.length ∧ Hid (outc ((Nd.ownN 3) (.mk [.int 2, .int 0, .str s, .strs p] [l0, l1, l2, l3, l4])) = outc (Nd.namesE Nm.lower (p.drop j))) ∧ wr = w1) (fun v _ => p.length - (intOf v).toNat)
    case atStart => exact ⟨0, rfl, Nat.zero_le _, HO, rfl⟩
    case round =>
      clear HO
      obtain ⟨j, rfl, hj, hH, rfl⟩ := hrel
      by_cases hlt : j < p.length
      · rcases TW with ⟨bb, oo, cc, heq, hcc⟩ | ⟨rfl, _⟩
        · injection heq with g1 g2 g3
          subst g1; subst g3
          obtain ⟨x, hxj⟩ : ∃ x, p[j]? = some x := ⟨_, List.getElem?_eq_getElem hlt⟩
          have hcx := hcc j x hxj
          have q := named_any x (hpx x (List.mem_of_getElem? hxj)) 83 Nm.lower sort_lower wr
          have HX : Hid (outc ((Nd.ownN 3) (.mk [.int 2, .int 0, .str s, .strs p] [l0, l1, l2, l3, l4])) = outc (Nd.firstE (Nd.nameE x (Nm.lower x)) (Nd.namesE Nm.lower (p.drop (j + 1))))) := by
            show _ = _
            rw [hH.out, Nm.drop_at hxj, Nd.namesE]
          clear hH hcc hxj hpx g2
          rcases outc_cases (Nd.nameE x (Nm.lower x)) with ⟨hz, he⟩ | ⟨hz, he⟩
          · rw [he] at q
            have HY : Hid (outc ((Nd.ownN 3) (.mk [.int 2, .int 0, .str s, .strs p] [l0, l1, l2, l3, l4])) = outc (Nd.namesE Nm.lower (p.drop (j + 1)))) := by
              show _ = _
              rw [HX.out, Nd.firstE_zero hz]
            clear HX hz he
            go_wp2_with (go_at_call 86; refine q.mono ?_; rintro e w3 ⟨rfl, hw⟩; rw [hw]; clear hw w3)
            go_roundw
            case rel => exact ⟨j + 1, by go_num, by omega, HY, by first | rfl | trivial⟩
            case measure => simp [intOf]; omega
          · rw [he] at q
            have HY : Hid (outc ((Nd.ownN 3) (.mk [.int 2, .int 0, .str s, .strs p] [l0, l1, l2, l3, l4])) = .panicked [{ v := .iface 36 (.int .i64 (Nd.nameE x (Nm.lower x))), recovered := false }]) := by
              show _ = _
              rw [HX.out, Nd.firstE_ne hz, he]
            clear HX hz he
            go_wp2_with (go_at_call 86; refine q.mono ?_; rintro e w3 ⟨rfl, hw⟩; rw [hw]; clear hw w3)
            exact ⟨rfl, HY.out.symm, hB1⟩
        · exact absurd hlt (by simp)
      · have HX : Hid (outc ((Nd.ownN 3) (.mk [.int 2, .int 0, .str s, .strs p] [l0, l1, l2, l3, l4])) = .returned (.tuple #[])) := by
          show _ = _
          rw [hH.out, List.drop_eq_nil_of_le (by omega)]; rfl
        clear hH TW hpx
        go_wp2
        go_end0
        exact ⟨HX.out.symm, hB1⟩
  by_cases hk3 : k = 3
  · subst hk3
    have HE0 : Hid ((Nd.ownN 3) (.mk [.int 3, .int 0, .str s, .strs p] [l0, l1, l2, l3, l4]) = Nd.firstE (Nd.fitE { params := (p.length : Int), tys := (l0.length : Int), exps := (l1.length : Int), cons := (l2.length : Int), mods := (l3.length : Int), sigs := (l4.length : Int) } { tys := 1 }) (Nd.firstE (Nd.nameE s (Nm.lower s)) (Nd.namesE Nm.lower p))) := by
      show _ = _
      show Nd.ownDec 3 s p l0 l1 l2 l3 l4 = _
      rw [Nd.ownDec, if_neg (by omega), if_neg (by omega), if_pos (by omega)]
    go_wp2_with (first | (go_at_call 86; refine (named_any s hs 83 Nm.lower sort_lower _).mono ?_; rintro e w2 ⟨rfl, hw⟩; rw [hw]; clear hw w2; refine (outc_cases (Nd.nameE s (Nm.lower s))).elim (fun ⟨hz, he⟩ => ?_) (fun ⟨hz, he⟩ => by rw [he]; exact ⟨rfl, (by rw [HE1.out, Nd.firstE_ne hz]; exact he.symm), hB1⟩); rw [he]; have HE2 := HE1.out.trans (Nd.firstE_zero hz); replace HE2 : Hid ((Nd.ownN 3) (.mk [.int 3, .int 0, .str s, .strs p] [l0, l1, l2, l3, l4]) = Nd.namesE Nm.lower p) := HE2; clear HE1 hz he) | (go_at_call 84; refine (fit_any { params := (p.length : Int), tys := (l0.length : Int), exps := (l1.length : Int), cons := (l2.length : Int), mods := (l3.length : Int), sigs := (l4.length : Int) } { tys := 1 } _).mono ?_; rintro e w1 ⟨rfl, hb1⟩; have hB1 : Below w.heap.size w w1 := (by refine bl_tr ?_ hb1; first | exact (bl_alloc (Below.refl _ _) _).drew | exact bl_alloc (Below.refl _ _) _ | exact bl_alloc (Below.refl _ _).drew _); clear hb1; refine (outc_cases (Nd.fitE { params := (p.length : Int), tys := (l0.length : Int), exps := (l1.length : Int), cons := (l2.length : Int), mods := (l3.length : Int), sigs := (l4.length : Int) } { tys := 1 })).elim (fun ⟨hz, he⟩ => ?_) (fun ⟨hz, he⟩ => by rw [he]; exact ⟨rfl, (by rw [HE0.out, Nd.firstE_ne hz]; exact he.symm), hB1⟩); rw [he]; have HE1 := HE0.out.trans (Nd.firstE_zero hz); replace HE1 : Hid ((Nd.ownN 3) (.mk [.int 3, .int 0, .str s, .strs p] [l0, l1, l2, l3, l4]) = Nd.firstE (Nd.nameE s (Nm.lower s)) (Nd.namesE Nm.lower p)) := HE1; clear HE0 hz he; have f0_1 := D0.out _ hB1; have f1_1 := D1.out _ hB1; have f2_1 := D2.out _ hB1; have f3_1 := D3.out _ hB1; have f4_1 := D4.out _ hB1; have f5_1 := D5.out _ hB1; have f6_1 := D6.out _ hB1; have f7_1 := D7.out _ hB1; have f8_1 := D8.out _ hB1; skip))
    have TW := TX.out _ hB1
    have HO : Hid (outc ((Nd.ownN 3) (.mk [.int 3, .int 0, .str s, .strs p] [l0, l1, l2, l3, l4])) = outc (Nd.namesE Nm.lower p)) := by show _ = _; rw [HE2.out]
    clear HE2 TX
    unfold maxLen at hpl
    go_loopw [100] (fun v wr => ∃ j : Nat, v = .int .i64 j ∧ j ≤ p.length ∧ Hid (outc ((Nd.ownN 3) (.mk [.int 3, .int 0, .str s, .strs p] [l0, l1, l2, l3, l4])) = outc (Nd.namesE Nm.lower (p.drop j))) ∧ wr = w1) (fun v _ => p.length - (intOf v).toNat)
    case atStart => exact ⟨0, rfl, Nat.zero_le _, HO, rfl⟩
    case round =>
      clear HO
      obtain ⟨j, rfl, hj, hH, rfl⟩ := hrel
      by_cases hlt : j < p.length
      · rcases TW with ⟨bb, oo, cc, heq, hcc⟩ | ⟨rfl, _⟩
        · injection heq with g1 g2 g3
          subst g1; subst g3
          obtain ⟨x, hxj⟩ : ∃ x, p[j]? = some x := ⟨_, List.getElem?_eq_getElem hlt⟩
          have hcx := hcc j x hxj
          have q := named_any x (hpx x (List.mem_of_getElem? hxj)) 83 Nm.lower sort_lower wr
          have HX : Hid (outc ((Nd.ownN 3) (.mk [.int 3, .int 0, .str s, .strs p] [l0, l1, l2, l3, l4])) = outc (Nd.firstE (Nd.nameE x (Nm.lower x)) (Nd.namesE Nm.lower (p.drop (j + 1))))) := by
            show _ = _
            rw [hH.out, Nm.drop_at hxj, Nd.namesE]
          clear hH hcc hxj hpx g2
          rcases outc_cases (Nd.nameE x (Nm.lower x)) with ⟨hz, he⟩ | ⟨hz, he⟩
          · rw [he] at q
            have HY : Hid (outc ((Nd.ownN 3) (.mk [.int 3, .int 0, .str s, .strs p] [l0, l1, l2, l3, l4])) = outc (Nd.namesE Nm.lower (p.drop (j + 1)))) := by
              show _ = _
              rw [HX.out, Nd.firstE_zero hz]
            clear HX hz he
            go_wp2_with (go_at_call 86; refine q.mono ?_; rintro e w3 ⟨rfl, hw⟩; rw [hw]; clear hw w3)
            go_roundw
            case rel => exact ⟨j + 1, by go_num, by omega, HY, by first | rfl | trivial⟩
            case measure => simp [intOf]; omega
          · rw [he] at q
            have HY : Hid (outc ((Nd.ownN 3) (.mk [.int 3, .int 0, .str s, .strs p] [l0, l1, l2, l3, l4])) = .panicked [{ v := .iface 36 (.int .i64 (Nd.nameE x (Nm.lower x))), recovered := false }]) := by
              show _ = _
              rw [HX.out, Nd.firstE_ne hz, he]
            clear HX hz he
            go_wp2_with (go_at_call 86; refine q.mono ?_; rintro e w3 ⟨rfl, hw⟩; rw [hw]; clear hw w3)
            exact ⟨rfl, HY.out.symm, hB1⟩
        · exact absurd hlt (by simp)
      · have HX : Hid (outc ((Nd.ownN 3) (.mk [.int 3, .int 0, .str s, .strs p] [l0, l1, l2, l3, l4])) = .returned (.tuple #[])) := by
          show _ = _
          rw [hH.out, List.drop_eq_nil_of_le (by omega)]; rfl
        clear hH TW hpx
        go_wp2
        go_end0
        exact ⟨HX.out.symm, hB1⟩
  by_cases hk4 : k = 4
  · subst hk4
    have HE0 : Hid ((Nd.ownN 3) (.mk [.int 4, .int 0, .str s, .strs p] [l0, l1, l2, l3, l4]) = Nd.firstE (Nd.fitE { params := (p.length : Int), tys := (l0.length : Int), exps := (l1.length : Int), cons := (l2.length : Int), mods := (l3.length : Int), sigs := (l4.length : Int) } { cons := max (l2.length : Int) 1 }) (Nd.firstE (Nd.nameE s (Nm.lower s)) (Nd.namesE Nm.lower p))) := by
      show _ = _
      show Nd.ownDec 4 s p l0 l1 l2 l3 l4 = _
      rw [Nd.ownDec, if_neg (by omega), if_neg (by omega), if_neg (by omega), if_pos (by omega)]
    go_wp2_with (first | (go_at_call 86; refine (named_any s hs 83 Nm.lower sort_lower _).mono ?_; rintro e w2 ⟨rfl, hw⟩; rw [hw]; clear hw w2; refine (outc_cases (Nd.nameE s (Nm.lower s))).elim (fun ⟨hz, he⟩ => ?_) (fun ⟨hz, he⟩ => by rw [he]; exact ⟨rfl, (by rw [HE1.out, Nd.firstE_ne hz]; exact he.symm), hB1⟩); rw [he]; have HE2 := HE1.out.trans (Nd.firstE_zero hz); replace HE2 : Hid ((Nd.ownN 3) (.mk [.int 4, .int 0, .str s, .strs p] [l0, l1, l2, l3, l4]) = Nd.namesE Nm.lower p) := HE2; clear HE1 hz he) | (go_at_call 84; refine (fit_any { params := (p.length : Int), tys := (l0.length : Int), exps := (l1.length : Int), cons := (l2.length : Int), mods := (l3.length : Int), sigs := (l4.length : Int) } { cons := max (l2.length : Int) 1 } _).mono ?_; rintro e w1 ⟨rfl, hb1⟩; have hB1 : Below w.heap.size w w1 := (by refine bl_tr ?_ hb1; first | exact (bl_alloc (Below.refl _ _) _).drew | exact bl_alloc (Below.refl _ _) _ | exact bl_alloc (Below.refl _ _).drew _); clear hb1; refine (outc_cases (Nd.fitE { params := (p.length : Int), tys := (l0.length : Int), exps := (l1.length : Int), cons := (l2.length : Int), mods := (l3.length : Int), sigs := (l4.length : Int) } { cons := max (l2.length : Int) 1 })).elim (fun ⟨hz, he⟩ => ?_) (fun ⟨hz, he⟩ => by rw [he]; exact ⟨rfl, (by rw [HE0.out, Nd.firstE_ne hz]; exact he.symm), hB1⟩); rw [he]; have HE1 := HE0.out.trans (Nd.firstE_zero hz); replace HE1 : Hid ((Nd.ownN 3) (.mk [.int 4, .int 0, .str s, .strs p] [l0, l1, l2, l3, l4]) = Nd.firstE (Nd.nameE s (Nm.lower s)) (Nd.namesE Nm.lower p)) := HE1; clear HE0 hz he; have f0_1 := D0.out _ hB1; have f1_1 := D1.out _ hB1; have f2_1 := D2.out _ hB1; have f3_1 := D3.out _ hB1; have f4_1 := D4.out _ hB1; have f5_1 := D5.out _ hB1; have f6_1 := D6.out _ hB1; have f7_1 := D7.out _ hB1; have f8_1 := D8.out _ hB1; skip))
    have TW := TX.out _ hB1
    have HO : Hid (outc ((Nd.ownN 3) (.mk [.int 4, .int 0, .str s, .strs p] [l0, l1, l2, l3, l4])) = outc (Nd.namesE Nm.lower p)) := by show _ = _; rw [HE2.out]
    clear HE2 TX
    unfold maxLen at hpl
    go_loopw [100] (fun v wr => ∃ j : Nat, v = .int .i64 j ∧ j ≤ p.length ∧ Hid (outc ((Nd.ownN 3) (.mk [.int 4, .int 0, .str s, .strs p] [l0, l1, l2, l3, l4])) = outc (Nd.namesE Nm.lower (p.drop j))) ∧ wr = w1) (fun v _ => p.length - (intOf v).toNat)
    case atStart => exact ⟨0, rfl, Nat.zero_le _, HO, rfl⟩
    case round =>
      clear HO
      obtain ⟨j, rfl, hj, hH, rfl⟩ := hrel
      by_cases hlt : j < p.length
      · rcases TW with ⟨bb, oo, cc, heq, hcc⟩ | ⟨rfl, _⟩
        · injection heq with g1 g2 g3
          subst g1; subst g3
          obtain ⟨x, hxj⟩ : ∃ x, p[j]? = some x := ⟨_, List.getElem?_eq_getElem hlt⟩
          have hcx := hcc j x hxj
          have q := named_any x (hpx x (List.mem_of_getElem? hxj)) 83 Nm.lower sort_lower wr
          have HX : Hid (outc ((Nd.ownN 3) (.mk [.int 4, .int 0, .str s, .strs p] [l0, l1, l2, l3, l4])) = outc (Nd.firstE (Nd.nameE x (Nm.lower x)) (Nd.namesE Nm.lower (p.drop (j + 1))))) := by
            show _ = _
            rw [hH.out, Nm.drop_at hxj, Nd.namesE]
          clear hH hcc hxj hpx g2
          rcases outc_cases (Nd.nameE x (Nm.lower x)) with ⟨hz, he⟩ | ⟨hz, he⟩
          · rw [he] at q
            have HY : Hid (outc ((Nd.ownN 3) (.mk [.int 4, .int 0, .str s, .strs p] [l0, l1, l2, l3, l4])) = outc (Nd.namesE Nm.lower (p.drop (j + 1)))) := by
              show _ = _
              rw [HX.out, Nd.firstE_zero hz]
            clear HX hz he
            go_wp2_with (go_at_call 86; refine q.mono ?_; rintro e w3 ⟨rfl, hw⟩; rw [hw]; clear hw w3)
            go_roundw
            case rel => exact ⟨j + 1, by go_num, by omega, HY, by first | rfl | trivial⟩
            case measure => simp [intOf]; omega
          · rw [he] at q
            have HY : Hid (outc ((Nd.ownN 3) (.mk [.int 4, .int 0, .str s, .strs p] [l0, l1, l2, l3, l4])) = .panicked [{ v := .iface 36 (.int .i64 (Nd.nameE x (Nm.lower x))), recovered := false }]) := by
              show _ = _
              rw [HX.out, Nd.firstE_ne hz, he]
            clear HX hz he
            go_wp2_with (go_at_call 86; refine q.mono ?_; rintro e w3 ⟨rfl, hw⟩; rw [hw]; clear hw w3)
            exact ⟨rfl, HY.out.symm, hB1⟩
        · exact absurd hlt (by simp)
      · have HX : Hid (outc ((Nd.ownN 3) (.mk [.int 4, .int 0, .str s, .strs p] [l0, l1, l2, l3, l4])) = .returned (.tuple #[])) := by
          show _ = _
          rw [hH.out, List.drop_eq_nil_of_le (by omega)]; rfl
        clear hH TW hpx
        go_wp2
        go_end0
        exact ⟨HX.out.symm, hB1⟩
  by_cases hk5 : k = 5
  · subst hk5
    have HE0 : Hid ((Nd.ownN 3) (.mk [.int 5, .int 0, .str s, .strs p] [l0, l1, l2, l3, l4]) = Nd.firstE (Nd.fitE { params := (p.length : Int), tys := (l0.length : Int), exps := (l1.length : Int), cons := (l2.length : Int), mods := (l3.length : Int), sigs := (l4.length : Int) } { mods := 1 }) (Nd.firstE (Nd.nameE s (Nm.upper s)) (Nd.namesE Nm.upper p))) := by
      show _ = _
      show Nd.ownDec 5 s p l0 l1 l2 l3 l4 = _
      rw [Nd.ownDec, if_neg (by omega), if_neg (by omega), if_neg (by omega), if_neg (by omega), if_pos (by omega)]
    go_wp2_with (first | (go_at_call 86; refine (named_any s hs 85 Nm.upper sort_upper _).mono ?_; rintro e w2 ⟨rfl, hw⟩; rw [hw]; clear hw w2; refine (outc_cases (Nd.nameE s (Nm.upper s))).elim (fun ⟨hz, he⟩ => ?_) (fun ⟨hz, he⟩ => by rw [he]; exact ⟨rfl, (by rw [HE1.out, Nd.firstE_ne hz]; exact he.symm), hB1⟩); rw [he]; have HE2 := HE1.out.trans (Nd.firstE_zero hz); replace HE2 : Hid ((Nd.ownN 3) (.mk [.int 5, .int 0, .str s, .strs p] [l0, l1, l2, l3, l4]) = Nd.namesE Nm.upper p) := HE2; clear HE1 hz he) | (go_at_call 84; refine (fit_any { params := (p.length : Int), tys := (l0.length : Int), exps := (l1.length : Int), cons := (l2.length : Int), mods := (l3.length : Int), sigs := (l4.length : Int) } { mods := 1 } _).mono ?_; rintro e w1 ⟨rfl, hb1⟩; have hB1 : Below w.heap.size w w1 := (by refine bl_tr ?_ hb1; first | exact (bl_alloc (Below.refl _ _) _).drew | exact bl_alloc (Below.refl _ _) _ | exact bl_alloc (Below.refl _ _).drew _); clear hb1; refine (outc_cases (Nd.fitE { params := (p.length : Int), tys := (l0.length : Int), exps := (l1.length : Int), cons := (l2.length : Int), mods := (l3.length : Int), sigs := (l4.length : Int) } { mods := 1 })).elim (fun ⟨hz, he⟩ => ?_) (fun ⟨hz, he⟩ => by rw [he]; exact ⟨rfl, (by rw [HE0.out, Nd.firstE_ne hz]; exact he.symm), hB1⟩); rw [he]; have HE1 := HE0.out.trans (Nd.firstE_zero hz); replace HE1 : Hid ((Nd.ownN 3) (.mk [.int 5, .int 0, .str s, .strs p] [l0, l1, l2, l3, l4]) = Nd.firstE (Nd.nameE s (Nm.upper s)) (Nd.namesE Nm.upper p)) := HE1; clear HE0 hz he; have f0_1 := D0.out _ hB1; have f1_1 := D1.out _ hB1; have f2_1 := D2.out _ hB1; have f3_1 := D3.out _ hB1; have f4_1 := D4.out _ hB1; have f5_1 := D5.out _ hB1; have f6_1 := D6.out _ hB1; have f7_1 := D7.out _ hB1; have f8_1 := D8.out _ hB1; skip))
    have TW := TX.out _ hB1
    have HO : Hid (outc ((Nd.ownN 3) (.mk [.int 5, .int 0, .str s, .strs p] [l0, l1, l2, l3, l4])) = outc (Nd.namesE Nm.upper p)) := by show _ = _; rw [HE2.out]
    clear HE2 TX
    unfold maxLen at hpl
    go_loopw [100] (fun v wr => ∃ j : Nat, v = .int .i64 j ∧ j ≤ p.length ∧ Hid (outc ((Nd.ownN 3) (.mk [.int 5, .int 0, .str s, .strs p] [l0, l1, l2, l3, l4])) = outc (Nd.namesE Nm.upper (p.drop j))) ∧ wr = w1) (fun v _ => p.length - (intOf v).toNat)
    case atStart => exact ⟨0, rfl, Nat.zero_le _, HO, rfl⟩
    case round =>
      clear HO
      obtain ⟨j, rfl, hj, hH, rfl⟩ := hrel
      by_cases hlt : j < p.length
      · rcases TW with ⟨bb, oo, cc, heq, hcc⟩ | ⟨rfl, _⟩
        · injection heq with g1 g2 g3
          subst g1; subst g3
          obtain ⟨x, hxj⟩ : ∃ x, p[j]? = some x := ⟨_, List.getElem?_eq_getElem hlt⟩
          have hcx := hcc j x hxj
          have q := named_any x (hpx x (List.mem_of_getElem? hxj)) 85 Nm.upper sort_upper wr
          have HX : Hid (outc ((Nd.ownN 3) (.mk [.int 5, .int 0, .str s, .strs p] [l0, l1, l2, l3, l4])) = outc (Nd.firstE (Nd.nameE x (Nm.upper x)) (Nd.namesE Nm.upper (p.drop (j + 1))))) := by
            show _ = _
            rw [hH.out, Nm.drop_at hxj, Nd.namesE]
          clear hH hcc hxj hpx g2
          rcases outc_cases (Nd.nameE x (Nm.upper x)) with ⟨hz, he⟩ | ⟨hz, he⟩
          · rw [he] at q
            have HY : Hid (outc ((Nd.ownN 3) (.mk [.int 5, .int 0, .str s, .strs p] [l0, l1, l2, l3, l4])) = outc (Nd.namesE Nm.upper (p.drop (j + 1)))) := by
              show _ = _
              rw [HX.out, Nd.firstE_zero hz]
            clear HX hz he
            go_wp2_with (go_at_call 86; refine q.mono ?_; rintro e w3 ⟨rfl, hw⟩; rw [hw]; clear hw w3)
            go_roundw
            case rel => exact ⟨j + 1, by go_num, by omega, HY, by first | rfl | trivial⟩
            case measure => simp [intOf]; omega
          · rw [he] at q
            have HY : Hid (outc ((Nd.ownN 3) (.mk [.int 5, .int 0, .str s, .strs p] [l0, l1, l2, l3, l4])) = .panicked [{ v := .iface 36 (.int .i64 (Nd.nameE x (Nm.upper x))), recovered := false }]) := by
              show _ = _
              rw [HX.out, Nd.firstE_ne hz, he]
            clear HX hz he
            go_wp2_with (go_at_call 86; refine q.mono ?_; rintro e w3 ⟨rfl, hw⟩; rw [hw]; clear hw w3)
            exact ⟨rfl, HY.out.symm, hB1⟩
        · exact absurd hlt (by simp)
      · have HX : Hid (outc ((Nd.ownN 3) (.mk [.int 5, .int 0, .str s, .strs p] [l0, l1, l2, l3, l4])) = .returned (.tuple #[])) := by
          show _ = _
          rw [hH.out, List.drop_eq_nil_of_le (by omega)]; rfl
        clear hH TW hpx
        go_wp2
        go_end0
        exact ⟨HX.out.symm, hB1⟩
  by_cases hk6 : k = 6
  · subst hk6
    have HE0 : Hid ((Nd.ownN 3) (.mk [.int 6, .int 0, .str s, .strs p] [l0, l1, l2, l3, l4]) = Nd.firstE (Nd.fitE { params := (p.length : Int), tys := (l0.length : Int), exps := (l1.length : Int), cons := (l2.length : Int), mods := (l3.length : Int), sigs := (l4.length : Int) } { sigs := 1 }) (Nd.firstE (Nd.nameE s (Nm.upper s)) (Nd.namesE Nm.upper p))) := by
      show _ = _
      show Nd.ownDec 6 s p l0 l1 l2 l3 l4 = _
      rw [Nd.ownDec, if_neg (by omega), if_neg (by omega), if_neg (by omega), if_neg (by omega), if_neg (by omega), if_pos (by omega)]
    go_wp2_with (first | (go_at_call 86; refine (named_any s hs 85 Nm.upper sort_upper _).mono ?_; rintro e w2 ⟨rfl, hw⟩; rw [hw]; clear hw w2; refine (outc_cases (Nd.nameE s (Nm.upper s))).elim (fun ⟨hz, he⟩ => ?_) (fun ⟨hz, he⟩ => by rw [he]; exact ⟨rfl, (by rw [HE1.out, Nd.firstE_ne hz]; exact he.symm), hB1⟩); rw [he]; have HE2 := HE1.out.trans (Nd.firstE_zero hz); replace HE2 : Hid ((Nd.ownN 3) (.mk [.int 6, .int 0, .str s, .strs p] [l0, l1, l2, l3, l4]) = Nd.namesE Nm.upper p) := HE2; clear HE1 hz he) | (go_at_call 84; refine (fit_any { params := (p.length : Int), tys := (l0.length : Int), exps := (l1.length : Int), cons := (l2.length : Int), mods := (l3.length : Int), sigs := (l4.length : Int) } { sigs := 1 } _).mono ?_; rintro e w1 ⟨rfl, hb1⟩; have hB1 : Below w.heap.size w w1 := (by refine bl_tr ?_ hb1; first | exact (bl_alloc (Below.refl _ _) _).drew | exact bl_alloc (Below.refl _ _) _ | exact bl_alloc (Below.refl _ _).drew _); clear hb1; refine (outc_cases (Nd.fitE { params := (p.length : Int), tys := (l0.length : Int), exps := (l1.length : Int), cons := (l2.length : Int), mods := (l3.length : Int), sigs := (l4.length : Int) } { sigs := 1 })).elim (fun ⟨hz, he⟩ => ?_) (fun ⟨hz, he⟩ => by rw [he]; exact ⟨rfl, (by rw [HE0.out, Nd.firstE_ne hz]; exact he.symm), hB1⟩); rw [he]; have HE1 := HE0.out.trans (Nd.firstE_zero hz); replace HE1 : Hid ((Nd.ownN 3) (.mk [.int 6, .int 0, .str s, .strs p] [l0, l1, l2, l3, l4]) = Nd.firstE (Nd.nameE s (Nm.upper s)) (Nd.namesE Nm.upper p)) := HE1; clear HE0 hz he; have f0_1 := D0.out _ hB1; have f1_1 := D1.out _ hB1; have f2_1 := D2.out _ hB1; have f3_1 := D3.out _ hB1; have f4_1 := D4.out _ hB1; have f5_1 := D5.out _ hB1; have f6_1 := D6.out _ hB1; have f7_1 := D7.out _ hB1; have f8_1 := D8.out _ hB1; skip))
    have TW := TX.out _ hB1
    have HO : Hid (outc ((Nd.ownN 3) (.mk [.int 6, .int 0, .str s, .strs p] [l0, l1, l2, l3, l4])) = outc (Nd.namesE Nm.upper p)) := by show _ = _; rw [HE2.out]
    clear HE2 TX
    unfold maxLen at hpl
    go_loopw [100] (fun v wr => ∃ j : Nat, v = .int .i64 j ∧ j ≤ p.length ∧ Hid (outc ((Nd.ownN 3) (.mk [.int 6, .int 0, .str s, .strs p] [l0, l1, l2, l3, l4])) = outc (Nd.namesE Nm.upper (p.drop j))) ∧ wr = w1) (fun v _ => p.length - (intOf v).toNat)
    case atStart => exact ⟨0, rfl, Nat.zero_le _, HO, rfl⟩
    case round =>
      clear HO
      obtain ⟨j, rfl, hj, hH, rfl⟩ := hrel
      by_cases hlt : j < p.length
      · rcases TW with ⟨bb, oo, cc, heq, hcc⟩ | ⟨rfl, _⟩
        · injection heq with g1 g2 g3
          subst g1; subst g3
          obtain ⟨x, hxj⟩ : ∃ x, p[j]? = some x := ⟨_, List.getElem?_eq_getElem hlt⟩
          have hcx := hcc j x hxj
          have q := named_any x (hpx x (List.mem_of_getElem? hxj)) 85 Nm.upper sort_upper wr
          have HX : Hid (outc ((Nd.ownN 3) (.mk [.int 6, .int 0, .str s, .strs p] [l0, l1, l2, l3, l4])) = outc (Nd.firstE (Nd.nameE x (Nm.upper x)) (Nd.namesE Nm.upper (p.drop (j + 1))))) := by
            show _ = _
            rw [hH.out, Nm.drop_at hxj, Nd.namesE]
          clear hH hcc hxj hpx g2
          rcases outc_cases (Nd.nameE x (Nm.upper x)) with ⟨hz, he⟩ | ⟨hz, he⟩
          · rw [he] at q
            have HY : Hid (outc ((Nd.ownN 3) (.mk [.int 6, .int 0, .str s, .strs p] [l0, l1, l2, l3, l4])) = outc (Nd.namesE Nm.upper (p.drop (j + 1)))) := by
              show _ = _
              rw [HX.out, Nd.firstE_zero hz]
            clear HX hz he
            go_wp2_with (go_at_call 86; refine q.mono ?_; rintro e w3 ⟨rfl, hw⟩; rw [hw]; clear hw w3)
            go_roundw
            case rel => exact ⟨j + 1, by go_num, by omega, HY, by first | rfl | trivial⟩
            case measure => simp [intOf]; omega
          · rw [he] at q
            have HY : Hid (outc ((Nd.ownN 3) (.mk [.int 6, .int 0, .str s, .strs p] [l0, l1, l2, l3, l4])) = .panicked [{ v := .iface 36 (.int .i64 (Nd.nameE x (Nm.upper x))), recovered := false }]) := by
              show _ = _
              rw [HX.out, Nd.firstE_ne hz, he]
            clear HX hz he
            go_wp2_with (go_at_call 86; refine q.mono ?_; rintro e w3 ⟨rfl, hw⟩; rw [hw]; clear hw w3)
            exact ⟨rfl, HY.out.symm, hB1⟩
        · exact absurd hlt (by simp)
      · have HX : Hid (outc ((Nd.ownN 3) (.mk [.int 6, .int 0, .str s, .strs p] [l0, l1, l2, l3, l4])) = .returned (.tuple #[])) := by
          show _ = _
          rw [hH.out, List.drop_eq_nil_of_le (by omega)]; rfl
        clear hH TW hpx
        go_wp2
        go_end0
        exact ⟨HX.out.symm, hB1⟩
  by_cases hk7 : k = 7
  · subst hk7
    have HE0 : Hid ((Nd.ownN 3) (.mk [.int 7, .int 0, .str s, .strs p] [l0, l1, l2, l3, l4]) = Nd.firstE (Nd.fitE { params := (p.length : Int), tys := (l0.length : Int), exps := (l1.length : Int), cons := (l2.length : Int), mods := (l3.length : Int), sigs := (l4.length : Int) } { params := 1, mods := 1, sigs := 1 }) (Nd.firstE (Nd.nameE s (Nm.upper s)) (Nd.namesE Nm.upper p))) := by
      show _ = _
      show Nd.ownDec 7 s p l0 l1 l2 l3 l4 = _
      rw [Nd.ownDec, if_neg (by omega), if_neg (by omega), if_neg (by omega), if_neg (by omega), if_neg (by omega), if_neg (by omega), if_pos (by omega)]
    go_wp2_with (first | (go_at_call 86; refine (named_any s hs 85 Nm.upper sort_upper _).mono ?_; rintro e w2 ⟨rfl, hw⟩; rw [hw]; clear hw w2; refine (outc_cases (Nd.nameE s (Nm.upper s))).elim (fun ⟨hz, he⟩ => ?_) (fun ⟨hz, he⟩ => by rw [he]; exact ⟨rfl, (by rw [HE1.out, Nd.firstE_ne hz]; exact he.symm), hB1⟩); rw [he]; have HE2 := HE1.out.trans (Nd.firstE_zero hz); replace HE2 : Hid ((Nd.ownN 3) (.mk [.int 7, .int 0, .str s, .strs p] [l0, l1, l2, l3, l4]) = Nd.namesE Nm.upper p) := HE2; clear HE1 hz he) | (go_at_call 84; refine (fit_any { params := (p.length : Int), tys := (l0.length : Int), exps := (l1.length : Int), cons := (l2.length : Int), mods := (l3.length : Int), sigs := (l4.length : Int) } { params := 1, mods := 1, sigs := 1 } _).mono ?_; rintro e w1 ⟨rfl, hb1⟩; have hB1 : Below w.heap.size w w1 := (by refine bl_tr ?_ hb1; first | exact (bl_alloc (Below.refl _ _) _).drew | exact bl_alloc (Below.refl _ _) _ | exact bl_alloc (Below.refl _ _).drew _); clear hb1; refine (outc_cases (Nd.fitE { params := (p.length : Int), tys := (l0.length : Int), exps := (l1.length : Int), cons := (l2.length : Int), mods := (l3.length : Int), sigs := (l4.length : Int) } { params := 1, mods := 1, sigs := 1 })).elim (fun ⟨hz, he⟩ => ?_) (fun ⟨hz, he⟩ => by rw [he]; exact ⟨rfl, (by rw [HE0.out, Nd.firstE_ne hz]; exact he.symm), hB1⟩); rw [he]; have HE1 := HE0.out.trans (Nd.firstE_zero hz); replace HE1 : Hid ((Nd.ownN 3) (.mk [.int 7, .int 0, .str s, .strs p] [l0, l1, l2, l3, l4]) = Nd.firstE (Nd.nameE s (Nm.upper s)) (Nd.namesE Nm.upper p)) := HE1; clear HE0 hz he; have f0_1 := D0.out _ hB1; have f1_1 := D1.out _ hB1; have f2_1 := D2.out _ hB1; have f3_1 := D3.out _ hB1; have f4_1 := D4.out _ hB1; have f5_1 := D5.out _ hB1; have f6_1 := D6.out _ hB1; have f7_1 := D7.out _ hB1; have f8_1 := D8.out _ hB1; skip))
    have TW := TX.out _ hB1
    have HO : Hid (outc ((Nd.ownN 3) (.mk [.int 7, .int 0, .str s, .strs p] [l0, l1, l2, l3, l4])) = outc (Nd.namesE Nm.upper p)) := by show _ = _; rw [HE2.out]
    clear HE2 TX
    unfold maxLen at hpl
    go_loopw [100] (fun v wr => ∃ j : Nat, v = .int .i64 j ∧ j ≤ p.length ∧ Hid (outc ((Nd.ownN 3) (.mk [.int 7, .int 0, .str s, .strs p] [l0, l1, l2, l3, l4])) = outc (Nd.namesE Nm.upper (p.drop j))) ∧ wr = w1) (fun v _ => p.length - (intOf v).toNat)
    case atStart => exact ⟨0, rfl, Nat.zero_le _, HO, rfl⟩
    case round =>
      clear HO
      obtain ⟨j, rfl, hj, hH, rfl⟩ := hrel
      by_cases hlt : j < p.length
      · rcases TW with ⟨bb, oo, cc, heq, hcc⟩ | ⟨rfl, _⟩
        · injection heq with g1 g2 g3
          subst g1; subst g3
          obtain ⟨x, hxj⟩ : ∃ x, p[j]? = some x := ⟨_, List.getElem?_eq_getElem hlt⟩
          have hcx := hcc j x hxj
          have q := named_any x (hpx x (List.mem_of_getElem? hxj)) 85 Nm.upper sort_upper wr
          have HX : Hid (outc ((Nd.ownN 3) (.mk [.int 7, .int 0, .str s, .strs p] [l0, l1, l2, l3, l4])) = outc (Nd.firstE (Nd.nameE x (Nm.upper x)) (Nd.namesE Nm.upper (p.drop (j + 1))))) := by
            show _ = _
            rw [hH.out, Nm.drop_at hxj, Nd.namesE]
          clear hH hcc hxj hpx g2
          rcases outc_cases (Nd.nameE x (Nm.upper x)) with ⟨hz, he⟩ | ⟨hz, he⟩
          · rw [he] at q
            have HY : Hid (outc ((Nd.ownN 3) (.mk [.int 7, .int 0, .str s, .strs p] [l0, l1, l2, l3, l4])) = outc (Nd.namesE Nm.upper (p.drop (j + 1)))) := by
              show _ = _
              rw [HX.out, Nd.firstE_zero hz]
            clear HX hz he
            go_wp2_with (go_at_call 86; refine q.mono ?_; rintro e w3 ⟨rfl, hw⟩; rw [hw]; clear hw w3)
            go_roundw
            case rel => exact ⟨j + 1, by go_num, by omega, HY, by first | rfl | trivial⟩
            case measure => simp [intOf]; omega
          · rw [he] at q
            have HY : Hid (outc ((Nd.ownN 3) (.mk [.int 7, .int 0, .str s, .strs p] [l0, l1, l2, l3, l4])) = .panicked [{ v := .iface 36 (.int .i64 (Nd.nameE x (Nm.upper x))), recovered := false }]) := by
              show _ = _
              rw [HX.out, Nd.firstE_ne hz, he]
            clear HX hz he
            go_wp2_with (go_at_call 86; refine q.mono ?_; rintro e w3 ⟨rfl, hw⟩; rw [hw]; clear hw w3)
            exact ⟨rfl, HY.out.symm, hB1⟩
        · exact absurd hlt (by simp)
      · have HX : Hid (outc ((Nd.ownN 3) (.mk [.int 7, .int 0, .str s, .strs p] [l0, l1, l2, l3, l4])) = .returned (.tuple #[])) := by
          show _ = _
          rw [hH.out, List.drop_eq_nil_of_le (by omega)]; rfl
        clear hH TW hpx
        go_wp2
        go_end0
        exact ⟨HX.out.symm, hB1⟩
  have HE : Hid (outc ((Nd.ownN 3) (.mk [.int k, .int 0, .str s, .strs p] [l0, l1, l2, l3, l4])) = .panicked [{ v := .iface 36 (.int .i64 1), recovered := false }]) := by
    show _ = _
    show outc (Nd.ownDec k s p l0 l1 l2 l3 l4) = _
    rw [Nd.ownDec, if_neg (by omega), if_neg (by omega), if_neg (by omega), if_neg (by omega), if_neg (by omega), if_neg (by omega), if_neg (by omega)]
    exact outc_err (by decide)
  replace hk1 : (k == 1) = false := by rw [beq_eq_false_iff_ne]; exact hk1
  replace hk2 : (k == 2) = false := by rw [beq_eq_false_iff_ne]; exact hk2
  replace hk3 : (k == 3) = false := by rw [beq_eq_false_iff_ne]; exact hk3
  replace hk4 : (k == 4) = false := by rw [beq_eq_false_iff_ne]; exact hk4
  replace hk5 : (k == 5) = false := by rw [beq_eq_false_iff_ne]; exact hk5
  replace hk6 : (k == 6) = false := by rw [beq_eq_false_iff_ne]; exact hk6
  replace hk7 : (k == 7) = false := by rw [beq_eq_false_iff_ne]; exact hk7
  go_wp2
  exact ⟨rfl, HE.out.symm, (by first | exact (bl_alloc (Below.refl _ _) _).drew | exact bl_alloc (Below.refl _ _) _ | exact bl_alloc (Below.refl _ _).drew _)⟩

end Go.Proofs.YtgiegjghldhppabGreat
