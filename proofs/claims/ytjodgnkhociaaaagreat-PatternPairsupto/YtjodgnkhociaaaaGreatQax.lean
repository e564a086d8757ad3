/- typer.resolved; typed, of (x, 1), in a store that knows nothing. -/
import Derived.OrdersHeld
import Derived.Test.YtjodgnkhociaaaaGreatQaw
namespace Go.Proofs.YtjodgnkhociaaaaGreat
open Go.RowKit
set_option linter.unusedVariables false
set_option linter.unusedSimpArgs false

set_option maxHeartbeats 4000000 in
set_option maxRecDepth 100000 in
theorem tresolved_any (w : World) (T S M base : Nat) (sv : Value) (n0 : Nat) (HS : StoG w S M base sv n0) (hT1 : w.cell? ⟨T, 1, none⟩ = some (.pointer (some ⟨S, 0, none⟩))) (n : Nat) (t : Tp) (a0 : Option Addr) (c0 : Nat) (hT : TAt w Any n [.int .i64 t.k, .int .i64 t.n, .slice a0 t.ks.length c0] t) (hc : t.cnt ≤ 1000) (hM : OpM n0 t) : Calls Tryz.prog 30 #[.pointer (some ⟨T, 0, none⟩), .agg #[.int .i64 t.k, .int .i64 t.n, .slice a0 t.ks.length c0]] w fun e w' => (∃ a c N', e = .returned (.agg #[.int .i64 t.k, .int .i64 t.n, .slice a t.ks.length c]) ∧ TAt w' (fun b => w.heap.size ≤ b) N' [.int .i64 t.k, .int .i64 t.n, .slice a t.ks.length c] t) ∧ Below w.heap.size w w' := by
  have hTl := World.block_lt_of_cell? _ _ hT1
  have hBW : Below w.heap.size w ((w.alloc (.cells #[.int .i64 t.k, .int .i64 t.n, .slice a0 t.ks.length c0] TY)).alloc (.cells #[.int .i64 0, .int .i64 0, .slice none 0 0] TY)).drew := (bl_alloc (bl_alloc (Below.refl _ _) _) _).drew
  have HBW := hid hBW
  have HR : Hid (∀ wz, Below ((w.alloc (.cells #[.int .i64 t.k, .int .i64 t.n, .slice a0 t.ks.length c0] TY)).alloc (.cells #[.int .i64 0, .int .i64 0, .slice none 0 0] TY)).drew.heap.size ((w.alloc (.cells #[.int .i64 t.k, .int .i64 t.n, .slice a0 t.ks.length c0] TY)).alloc (.cells #[.int .i64 0, .int .i64 0, .slice none 0 0] TY)).drew wz → Calls Tryz.prog 15 #[.pointer (some ⟨S, 0, none⟩), .agg #[.int .i64 t.k, .int .i64 t.n, .slice a0 t.ks.length c0]] wz fun e w' => (∃ a c N', e = .returned (.tuple #[.agg #[.int .i64 t.k, .int .i64 t.n, .slice a t.ks.length c], .int .i64 0]) ∧ TAt w' (fun b => wz.heap.size ≤ b) N' [.int .i64 t.k, .int .i64 t.n, .slice a t.ks.length c] t) ∧ Below wz.heap.size wz w') := hid fun wz hz => ResolveO wz S M base sv n0 (HS.stays (bl_tr hBW hz)) n _ t (hT.below (bl_tr hBW hz)) hc hM
  have x3 : Arr (w.alloc (.cells #[.int .i64 t.k, .int .i64 t.n, .slice a0 t.ks.length c0] TY)) w.heap.size TY [.int .i64 t.k, .int .i64 t.n, .slice a0 t.ks.length c0] := ⟨heap_alloc_at _ _⟩
  have X3 := x3.stays ((bl_alloc (Below.refl _ (w.alloc (.cells #[.int .i64 t.k, .int .i64 t.n, .slice a0 t.ks.length c0] TY))) (.cells #[.int .i64 0, .int .i64 0, .slice none 0 0] TY)).drew)
  have x4 : Arr ((w.alloc (.cells #[.int .i64 t.k, .int .i64 t.n, .slice a0 t.ks.length c0] TY)).alloc (.cells #[.int .i64 0, .int .i64 0, .slice none 0 0] TY)) (w.heap.size + 1) TY [.int .i64 0, .int .i64 0, .slice none 0 0] := ⟨by have := heap_alloc_at (w.alloc (.cells #[.int .i64 t.k, .int .i64 t.n, .slice a0 t.ks.length c0] TY)) (.cells #[.int .i64 0, .int .i64 0, .slice none 0 0] TY); rw [size_alloc] at this; exact this⟩
  have X4 := hid (x4.stays ((Below.refl _ ((w.alloc (.cells #[.int .i64 t.k, .int .i64 t.n, .slice a0 t.ks.length c0] TY)).alloc (.cells #[.int .i64 0, .int .i64 0, .slice none 0 0] TY))).drew))
  have hk : Hid (∀ wz : World, Below ((w.alloc (.cells #[.int .i64 t.k, .int .i64 t.n, .slice a0 t.ks.length c0] TY)).alloc (.cells #[.int .i64 0, .int .i64 0, .slice none 0 0] TY)).drew.heap.size ((w.alloc (.cells #[.int .i64 t.k, .int .i64 t.n, .slice a0 t.ks.length c0] TY)).alloc (.cells #[.int .i64 0, .int .i64 0, .slice none 0 0] TY)).drew wz → (wz.cell? ⟨T, 1, none⟩ = some (.pointer (some ⟨S, 0, none⟩)) ∧ wz.cell? ⟨w.heap.size, 0, none⟩ = some (.int .i64 t.k) ∧ wz.cell? ⟨w.heap.size, 1, none⟩ = some (.int .i64 t.n) ∧ wz.cell? ⟨w.heap.size, 2, none⟩ = some (.slice a0 t.ks.length c0))) := hid fun wz hz => ⟨((bl_tr hBW hz).cell hTl).trans hT1, (X3.stays hz).cell 0, (X3.stays hz).cell 1, (X3.stays hz).cell 2⟩
  have s0 : ((w.alloc (.cells #[.int .i64 t.k, .int .i64 t.n, .slice a0 t.ks.length c0] TY)).alloc (.cells #[.int .i64 0, .int .i64 0, .slice none 0 0] TY)).drew.cell? ⟨T, 1, none⟩ = some (.pointer (some ⟨S, 0, none⟩)) ∧ ((w.alloc (.cells #[.int .i64 t.k, .int .i64 t.n, .slice a0 t.ks.length c0] TY)).alloc (.cells #[.int .i64 0, .int .i64 0, .slice none 0 0] TY)).drew.cell? ⟨w.heap.size, 0, none⟩ = some (.int .i64 t.k) ∧ ((w.alloc (.cells #[.int .i64 t.k, .int .i64 t.n, .slice a0 t.ks.length c0] TY)).alloc (.cells #[.int .i64 0, .int .i64 0, .slice none 0 0] TY)).drew.cell? ⟨w.heap.size, 1, none⟩ = some (.int .i64 t.n) ∧ ((w.alloc (.cells #[.int .i64 t.k, .int .i64 t.n, .slice a0 t.ks.length c0] TY)).alloc (.cells #[.int .i64 0, .int .i64 0, .slice none 0 0] TY)).drew.cell? ⟨w.heap.size, 2, none⟩ = some (.slice a0 t.ks.length c0) := hk.out _ (Below.refl _ _)
  have hsd : w.heap.size + 1 < ((w.alloc (.cells #[.int .i64 t.k, .int .i64 t.n, .slice a0 t.ks.length c0] TY)).alloc (.cells #[.int .i64 0, .int .i64 0, .slice none 0 0] TY)).drew.heap.size := X4.out.lt
  have HSD := hid hsd
  clear HS hT hT1 hBW x3 X3 x4 hTl hM hc
  go_enter Tryz.func30, Tryz.ntmps30
  go_wp2
  refine wp_region_held_drew (S := fun wz => wz.cell? ⟨T, 1, none⟩ = some (.pointer (some ⟨S, 0, none⟩)) ∧ wz.cell? ⟨w.heap.size, 0, none⟩ = some (.int .i64 t.k) ∧ wz.cell? ⟨w.heap.size, 1, none⟩ = some (.int .i64 t.n) ∧ wz.cell? ⟨w.heap.size, 2, none⟩ = some (.slice a0 t.ks.length c0)) (by kernel_rfl) (s0) (fun hS => ?_)
  generalize ((w.alloc (.cells #[.int .i64 t.k, .int .i64 t.n, .slice a0 t.ks.length c0] TY)).alloc (.cells #[.int .i64 0, .int .i64 0, .slice none 0 0] TY)).drew = wd at hS HR hk s0 X4 HBW HSD hsd ⊢
  refine wpAnyH_take (i := 0) (v := ?_) rfl (by kernel_rfl) (by kernel_rfl) (by kernel_rfl) (fun _ _ _ h => h) (Or.inl ⟨by rfl, ?_⟩) hS ?_
  rotate_left
  · intro wz hz; go_simp; try with_reducible rfl
  try simp only [Act.put, List.setIfInBounds_toArray, List.set_cons_zero, List.set_cons_succ, List.getElem_toArray, List.getElem_cons_succ, List.getElem_cons_zero]
  refine wpAnyH_take (i := 1) (v := ?_) rfl (by kernel_rfl) (by kernel_rfl) (by kernel_rfl) (fun _ _ _ h => h) (Or.inl ⟨by rfl, ?_⟩) hS ?_
  rotate_left
  · intro wz hz; go_simp; try with_reducible rfl
  try simp only [Act.put, List.setIfInBounds_toArray, List.set_cons_zero, List.set_cons_succ, List.getElem_toArray, List.getElem_cons_succ, List.getElem_cons_zero]
  refine wpAnyH_take (i := 2) (v := ?_) rfl (by kernel_rfl) (by kernel_rfl) (by kernel_rfl) (fun _ _ _ h => h) (Or.inl ⟨by rfl, ?_⟩) hS ?_
  rotate_left
  · intro wz hz; go_simp; try with_reducible rfl
  try simp only [Act.put, List.setIfInBounds_toArray, List.set_cons_zero, List.set_cons_succ, List.getElem_toArray, List.getElem_cons_succ, List.getElem_cons_zero]
  refine wpAnyH_take (i := 3) (v := ?_) rfl (by kernel_rfl) (by kernel_rfl) (by kernel_rfl) (fun _ _ _ h => h) (Or.inl ⟨by rfl, ?_⟩) hS ?_
  rotate_left
  · intro wz hz; obtain ⟨yy0, yy1, yy2, yy3⟩ := hz; go_simp; try with_reducible rfl
  try simp only [Act.put, List.setIfInBounds_toArray, List.set_cons_zero, List.set_cons_succ, List.getElem_toArray, List.getElem_cons_succ, List.getElem_cons_zero]
  refine wpAnyH_take (i := 4) (v := ?_) rfl (by kernel_rfl) (by kernel_rfl) (by kernel_rfl) (fun _ _ _ h => h) (Or.inl ⟨by rfl, ?_⟩) hS ?_
  rotate_left
  · intro wz hz; obtain ⟨yy0, yy1, yy2, yy3⟩ := hz; go_simp; try with_reducible rfl
  try simp only [Act.put, List.setIfInBounds_toArray, List.set_cons_zero, List.set_cons_succ, List.getElem_toArray, List.getElem_cons_succ, List.getElem_cons_zero]
  refine wpAnyH_ready (rs := [5, 9]) (by kernel_rfl) (by simp) (AllReadyH.cons rfl (fun K hK => ?a1_5) (AllReadyH.cons rfl (fun K hK => ?a1_9) AllReadyH.nil))
  case' a1_5 =>
    go_simp
    refine (HR.out _ (by first | exact Below.refl _ _ | exact bl_alloc (Below.refl _ _) _)).mono ?_
    rintro e w9 ⟨⟨a9, c9, n9, rfl, h9⟩, b9⟩
    have H9 := hid h9
    have B9 := hid (show Below wd.heap.size wd w9 from by first | exact b9 | exact bl_tr (bl_alloc (Below.refl _ _) _) b9)
    try have A5 : Hid (Arr w9 wd.heap.size TY [.int .i64 0, .int .i64 0, .slice none 0 0]) := hid (Arr.stays (⟨heap_alloc_at _ _⟩ : Arr (wd.alloc (.cells #[.int .i64 0, .int .i64 0, .slice none 0 0] TY)) wd.heap.size TY [.int .i64 0, .int .i64 0, .slice none 0 0]) b9)
    clear h9 b9
    refine hK.out _ _ ((hk.out _ B9.out)) (fun hSn => ?_)
    clear hK K hS
    have hS := hSn
    clear hSn
    try simp only [Act.put, List.setIfInBounds_toArray, List.set_cons_zero, List.set_cons_succ, List.getElem_toArray, List.getElem_cons_succ, List.getElem_cons_zero]
    refine wpAnyH_take (i := 6) (v := ?_) rfl (by kernel_rfl) (by kernel_rfl) (by kernel_rfl) (fun _ _ _ h => h) (Or.inl ⟨by rfl, ?_⟩) hS ?_
    rotate_left
    · intro wz hz; go_simp; try with_reducible rfl
    try simp only [Act.put, List.setIfInBounds_toArray, List.set_cons_zero, List.set_cons_succ, List.getElem_toArray, List.getElem_cons_succ, List.getElem_cons_zero]
    refine wpAnyH_take (i := 7) (v := ?_) rfl (by kernel_rfl) (by kernel_rfl) (by kernel_rfl) (fun _ _ _ h => h) (Or.inl ⟨by rfl, ?_⟩) hS ?_
    rotate_left
    · intro wz hz; go_simp; try with_reducible rfl
    try simp only [Act.put, List.setIfInBounds_toArray, List.set_cons_zero, List.set_cons_succ, List.getElem_toArray, List.getElem_cons_succ, List.getElem_cons_zero]
    refine wpAnyH_take (i := 8) (v := ?_) rfl (by kernel_rfl) (by kernel_rfl) (by kernel_rfl) (fun _ _ _ h => h) (Or.inl ⟨by rfl, ?_⟩) hS ?_
    rotate_left
    · intro wz hz; go_simp; try with_reducible rfl
    try simp only [Act.put, List.setIfInBounds_toArray, List.set_cons_zero, List.set_cons_succ, List.getElem_toArray, List.getElem_cons_succ, List.getElem_cons_zero]
    refine wpAnyH_ready (rs := [9]) (by kernel_rfl) (by simp) (AllReadyH.cons rfl (fun K hK => ?a2_9) AllReadyH.nil)
    case' a2_9 =>
      go_simp
      refine hK.out _ _ ((by first | exact hk.out _ (bl_alloc (Below.refl _ _) _) | exact hk.out _ (bl_alloc B9.out _))) (fun hSn => ?_)
      clear hK K hS
      have hS := hSn
      clear hSn
      try simp only [Act.put, List.setIfInBounds_toArray, List.set_cons_zero, List.set_cons_succ, List.getElem_toArray, List.getElem_cons_succ, List.getElem_cons_zero]
      refine wpAnyH_ready (rs := [10]) (by kernel_rfl) (by simp) (AllReadyH.cons rfl (fun K hK => ?a3_10) AllReadyH.nil)
      case' a3_10 =>
        try have a5 := A5.out.cell
        try have f5 := A5.out.frozen
        go_simp
        refine hK.out _ _ ((by first | exact hk.out _ (bl_set _ _ (bl_set _ _ (bl_set _ _ B9.out (Nat.le_refl _)) (Nat.le_refl _)) (Nat.le_refl _)) | exact hk.out _ (bl_alloc B9.out _))) (fun hSn => ?_)
        clear hK K hS
        have hS := hSn
        clear hSn
        try simp only [Act.put, List.setIfInBounds_toArray, List.set_cons_zero, List.set_cons_succ, List.getElem_toArray, List.getElem_cons_succ, List.getElem_cons_zero]
        refine wpAnyH_take (i := 11) (v := ?_) rfl (by kernel_rfl) (by kernel_rfl) (by kernel_rfl) (fun _ _ _ h => h) (Or.inl ⟨by rfl, ?_⟩) hS ?_
        rotate_left
        · intro wz hz; go_simp; try with_reducible rfl
        try simp only [Act.put, List.setIfInBounds_toArray, List.set_cons_zero, List.set_cons_succ, List.getElem_toArray, List.getElem_cons_succ, List.getElem_cons_zero]
        refine wpAnyH_done (by kernel_rfl) ?_ _
  case' a1_9 =>
    go_simp
    refine hK.out _ _ ((by first | exact hk.out _ (bl_alloc (Below.refl _ _) _) | exact hk.out _ (bl_alloc B9.out _))) (fun hSn => ?_)
    clear hK K hS
    have hS := hSn
    clear hSn
    try simp only [Act.put, List.setIfInBounds_toArray, List.set_cons_zero, List.set_cons_succ, List.getElem_toArray, List.getElem_cons_succ, List.getElem_cons_zero]
    refine wpAnyH_ready (rs := [5]) (by kernel_rfl) (by simp) (AllReadyH.cons rfl (fun K hK => ?a4_5) AllReadyH.nil)
    case' a4_5 =>
      go_simp
      refine (HR.out _ (by first | exact Below.refl _ _ | exact bl_alloc (Below.refl _ _) _)).mono ?_
      rintro e w9 ⟨⟨a9, c9, n9, rfl, h9⟩, b9⟩
      have H9 := hid h9
      have B9 := hid (show Below wd.heap.size wd w9 from by first | exact b9 | exact bl_tr (bl_alloc (Below.refl _ _) _) b9)
      try have A5 : Hid (Arr w9 wd.heap.size TY [.int .i64 0, .int .i64 0, .slice none 0 0]) := hid (Arr.stays (⟨heap_alloc_at _ _⟩ : Arr (wd.alloc (.cells #[.int .i64 0, .int .i64 0, .slice none 0 0] TY)) wd.heap.size TY [.int .i64 0, .int .i64 0, .slice none 0 0]) b9)
      clear h9 b9
      refine hK.out _ _ ((hk.out _ B9.out)) (fun hSn => ?_)
      clear hK K hS
      have hS := hSn
      clear hSn
      try simp only [Act.put, List.setIfInBounds_toArray, List.set_cons_zero, List.set_cons_succ, List.getElem_toArray, List.getElem_cons_succ, List.getElem_cons_zero]
      refine wpAnyH_take (i := 6) (v := ?_) rfl (by kernel_rfl) (by kernel_rfl) (by kernel_rfl) (fun _ _ _ h => h) (Or.inl ⟨by rfl, ?_⟩) hS ?_
      rotate_left
      · intro wz hz; go_simp; try with_reducible rfl
      try simp only [Act.put, List.setIfInBounds_toArray, List.set_cons_zero, List.set_cons_succ, List.getElem_toArray, List.getElem_cons_succ, List.getElem_cons_zero]
      refine wpAnyH_take (i := 7) (v := ?_) rfl (by kernel_rfl) (by kernel_rfl) (by kernel_rfl) (fun _ _ _ h => h) (Or.inl ⟨by rfl, ?_⟩) hS ?_
      rotate_left
      · intro wz hz; go_simp; try with_reducible rfl
      try simp only [Act.put, List.setIfInBounds_toArray, List.set_cons_zero, List.set_cons_succ, List.getElem_toArray, List.getElem_cons_succ, List.getElem_cons_zero]
      refine wpAnyH_take (i := 8) (v := ?_) rfl (by kernel_rfl) (by kernel_rfl) (by kernel_rfl) (fun _ _ _ h => h) (Or.inl ⟨by rfl, ?_⟩) hS ?_
      rotate_left
      · intro wz hz; go_simp; try with_reducible rfl
      try simp only [Act.put, List.setIfInBounds_toArray, List.set_cons_zero, List.set_cons_succ, List.getElem_toArray, List.getElem_cons_succ, List.getElem_cons_zero]
      refine wpAnyH_ready (rs := [10]) (by kernel_rfl) (by simp) (AllReadyH.cons rfl (fun K hK => ?a5_10) AllReadyH.nil)
      case' a5_10 =>
        try have a5 := A5.out.cell
        try have f5 := A5.out.frozen
        go_simp
        refine hK.out _ _ ((by first | exact hk.out _ (bl_set _ _ (bl_set _ _ (bl_set _ _ B9.out (Nat.le_refl _)) (Nat.le_refl _)) (Nat.le_refl _)) | exact hk.out _ (bl_alloc B9.out _))) (fun hSn => ?_)
        clear hK K hS
        have hS := hSn
        clear hSn
        try simp only [Act.put, List.setIfInBounds_toArray, List.set_cons_zero, List.set_cons_succ, List.getElem_toArray, List.getElem_cons_succ, List.getElem_cons_zero]
        refine wpAnyH_take (i := 11) (v := ?_) rfl (by kernel_rfl) (by kernel_rfl) (by kernel_rfl) (fun _ _ _ h => h) (Or.inl ⟨by rfl, ?_⟩) hS ?_
        rotate_left
        · intro wz hz; go_simp; try with_reducible rfl
        try simp only [Act.put, List.setIfInBounds_toArray, List.set_cons_zero, List.set_cons_succ, List.getElem_toArray, List.getElem_cons_succ, List.getElem_cons_zero]
        refine wpAnyH_done (by kernel_rfl) ?_ _
  all_goals first
    | (
      have r5 : Arr (((w9.setCell ⟨wd.heap.size, 0, none⟩ (.int .i64 t.k)).setCell ⟨wd.heap.size, 1, none⟩ (.int .i64 t.n)).setCell ⟨wd.heap.size, 2, none⟩ (.slice a9 t.ks.length c9)) wd.heap.size TY [.int .i64 t.k, .int .i64 t.n, .slice a9 t.ks.length c9] := ((A5.out.set 0 _).set 1 _).set 2 _
      have r4 : Arr (((w9.setCell ⟨wd.heap.size, 0, none⟩ (.int .i64 t.k)).setCell ⟨wd.heap.size, 1, none⟩ (.int .i64 t.n)).setCell ⟨wd.heap.size, 2, none⟩ (.slice a9 t.ks.length c9)) (w.heap.size + 1) TY [.int .i64 0, .int .i64 0, .slice none 0 0] := (((X4.out.stays B9.out).off (by omega) _ _).off (by omega) _ _).off (by omega) _ _
      have c5 := r5.cell
      have c4 := r4.cell
      have f4 := r4.frozen
      clear r5 r4 hsd
      go_wp2
      refine bodyPost_ret (v := .agg #[.int .i64 t.k, .int .i64 t.n, .slice a9 t.ks.length c9]) (by rw [results_cell1 (fn := Tryz.f30) (p := 4) (ty := TY) (by kernel_rfl)]; simp [go_sem, c4, f4]) rfl ?_
      have hsd := HSD.out
      have hwd := HBW.out.size
      have hK5 : ∀ (W : World) j u, Keeps (fun b => (wd.alloc (.cells #[.int .i64 0, .int .i64 0, .slice none 0 0] TY)).heap.size ≤ b) W (W.setCell ⟨wd.heap.size, j, none⟩ u) := fun W j u => Keeps.set (K := fun b => (wd.alloc (.cells #[.int .i64 0, .int .i64 0, .slice none 0 0] TY)).heap.size ≤ b) (p := ⟨wd.heap.size, j, none⟩) (show ¬ (wd.alloc (.cells #[.int .i64 0, .int .i64 0, .slice none 0 0] TY)).heap.size ≤ wd.heap.size by rw [size_alloc]; omega) u
      have hK4 : ∀ (W : World) j u, Keeps (fun b => (wd.alloc (.cells #[.int .i64 0, .int .i64 0, .slice none 0 0] TY)).heap.size ≤ b) W (W.setCell ⟨w.heap.size + 1, j, none⟩ u) := fun W j u => Keeps.set (K := fun b => (wd.alloc (.cells #[.int .i64 0, .int .i64 0, .slice none 0 0] TY)).heap.size ≤ b) (p := ⟨w.heap.size + 1, j, none⟩) (show ¬ (wd.alloc (.cells #[.int .i64 0, .int .i64 0, .slice none 0 0] TY)).heap.size ≤ w.heap.size + 1 by rw [size_alloc]; omega) u
      refine ⟨⟨a9, c9, n9, rfl, H9.out.move (((((((hK5 _ _ _).trans (hK5 _ _ _)).trans (hK5 _ _ _)).trans (hK4 _ _ _)).trans (hK4 _ _ _)).trans (hK4 _ _ _))) (fun b hb => by rw [size_alloc] at hb; omega)⟩, ?_⟩
      refine bl_set _ _ (bl_set _ _ (bl_set _ _ (bl_set _ _ (bl_set _ _ (bl_set _ _ (bl_tr HBW.out B9.out) ?_) ?_) ?_) ?_) ?_) ?_
      · show w.heap.size ≤ wd.heap.size; omega
      · show w.heap.size ≤ wd.heap.size; omega
      · show w.heap.size ≤ wd.heap.size; omega
      · show w.heap.size ≤ w.heap.size + 1; omega
      · show w.heap.size ≤ w.heap.size + 1; omega
      · show w.heap.size ≤ w.heap.size + 1; omega)
    | (
      have r4 : Arr (w9.alloc (.cells #[.int .i64 t.k, .int .i64 t.n, .slice a9 t.ks.length c9] TY)) (w.heap.size + 1) TY [.int .i64 0, .int .i64 0, .slice none 0 0] := X4.out.stays (bl_alloc B9.out _)
      have c4 := r4.cell
      have f4 := r4.frozen
      clear r4 hsd
      go_wp2
      refine bodyPost_ret (v := .agg #[.int .i64 t.k, .int .i64 t.n, .slice a9 t.ks.length c9]) (by rw [results_cell1 (fn := Tryz.f30) (p := 4) (ty := TY) (by kernel_rfl)]; simp [go_sem, c4, f4]) rfl ?_
      have hsd := HSD.out
      have hwd := HBW.out.size
      have hK4 : ∀ (W : World) j u, Keeps (fun b => wd.heap.size ≤ b) W (W.setCell ⟨w.heap.size + 1, j, none⟩ u) := fun W j u => Keeps.set (K := fun b => wd.heap.size ≤ b) (p := ⟨w.heap.size + 1, j, none⟩) (show ¬ wd.heap.size ≤ w.heap.size + 1 by omega) u
      refine ⟨⟨a9, c9, n9, rfl, H9.out.move ((((Keeps.of_below (bl_alloc (Below.refl _ _) _)).trans (hK4 _ _ _)).trans (hK4 _ _ _)).trans (hK4 _ _ _)) (fun b hb => by omega)⟩, ?_⟩
      refine bl_set _ _ (bl_set _ _ (bl_set _ _ (bl_alloc (bl_tr HBW.out B9.out) _) ?_) ?_) ?_
      · show w.heap.size ≤ w.heap.size + 1; omega
      · show w.heap.size ≤ w.heap.size + 1; omega
      · show w.heap.size ≤ w.heap.size + 1; omega)
end Go.Proofs.YtjodgnkhociaaaaGreat
