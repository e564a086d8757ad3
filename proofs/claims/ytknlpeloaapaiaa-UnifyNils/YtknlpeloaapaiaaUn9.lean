/- same and Unify, in the cases of the chapter's first example. -/
import Derived.Test.YtknlpeloaapaiaaUn8
namespace Go.Proofs.Ytknlpeloaapaiaa
open Go.RowKit Go.Shelf
set_option linter.unusedVariables false
set_option linter.unusedSimpArgs false

set_option maxHeartbeats 4000000 in
set_option maxRecDepth 100000 in
theorem same_metas (w : World) (J S g cap : Nat) (mv : Value) (more : List Value) (h : Jn w J S g cap mv none none more (.slice none 0 0) 0) : Calls Try.prog 28 #[.pointer (some ⟨J, 0, none⟩), .agg #[.int .i64 7, .int .i64 0, .slice none 0 0], .agg #[.int .i64 7, .int .i64 1, .slice none 0 0]] w fun e w' => e = .returned (.bool true) ∧ (∃ (q0 q1 : Nat) (cv' : Value), Jn w' J S g cap mv (some ⟨q0, 0, none⟩) (some ⟨q1, 0, none⟩) more cv' 2 ∧ Arr w' q1 FT [.int .i64 1, .int .i64 1, .int .i64 0, .int .i64 1, .pointer none, .int .i64 1, .pointer none] ∧ Arr w' q0 FT [.int .i64 1, .int .i64 0, .int .i64 0, .int .i64 0, .pointer none, .int .i64 0, .pointer none] ∧ w.heap.size ≤ q0 ∧ w.heap.size ≤ q1) ∧ Fr J g (.slice none 0 0) w w' := by
  have HH := hid h
  have HJ := hid h.jn
  have r0 : RootIs w none none 0 0 := ⟨.inl rfl, .inl rfl⟩
  have r1 : RootIs w none none 1 1 := ⟨.inl rfl, .inl rfl⟩
  have R0 := hid r0
  have R1 := hid r1
  clear h r0 r1
  have A0 : Hid (Arr ((w.alloc (.cells #[.int .i64 7, .int .i64 0, .slice none 0 0] 24)).alloc (.cells #[.int .i64 7, .int .i64 1, .slice none 0 0] 24)) w.heap.size 24 [.int .i64 7, .int .i64 0, .slice none 0 0]) := Arr.stays (w := w.alloc (.cells #[.int .i64 7, .int .i64 0, .slice none 0 0] 24)) ⟨heap_alloc_at _ _⟩ (bl_alloc (Below.refl _ _) _)
  have B0 : Hid (Arr ((w.alloc (.cells #[.int .i64 7, .int .i64 0, .slice none 0 0] 24)).alloc (.cells #[.int .i64 7, .int .i64 1, .slice none 0 0] 24)) (w.heap.size + 1) 24 [.int .i64 7, .int .i64 1, .slice none 0 0]) := ⟨by have := heap_alloc_at (w.alloc (.cells #[.int .i64 7, .int .i64 0, .slice none 0 0] 24)) (.cells #[.int .i64 7, .int .i64 1, .slice none 0 0] 24); rw [size_alloc] at this; exact this⟩
  have W0 : Hid (Below w.heap.size w ((w.alloc (.cells #[.int .i64 7, .int .i64 0, .slice none 0 0] 24)).alloc (.cells #[.int .i64 7, .int .i64 1, .slice none 0 0] 24))) := bl_alloc (bl_alloc (Below.refl _ _) _) _
  go_enter Try.func28, Try.ntmps28
  go_upto_region 1 with fail
  generalize (w.alloc (.cells #[.int .i64 7, .int .i64 0, .slice none 0 0] 24)).alloc (.cells #[.int .i64 7, .int .i64 1, .slice none 0 0] 24) = w2 at A0 B0 W0 ⊢
  have qJ : Hid (∀ wz, Below w2.heap.size w2 wz → wz.cell? ⟨J, 0, none⟩ = some (.pointer (some ⟨S, 0, none⟩))) := fun wz hz => ((HJ.out.stays W0.out).stays hz).cell 0
  have qA : Hid (∀ wz, Below w2.heap.size w2 wz → ∀ j, wz.cell? ⟨w.heap.size, j, none⟩ = [.int .i64 7, .int .i64 0, .slice none 0 0][j]?) := fun wz hz => (A0.out.stays hz).cell
  have qB : Hid (∀ wz, Below w2.heap.size w2 wz → ∀ j, wz.cell? ⟨w.heap.size + 1, j, none⟩ = [.int .i64 7, .int .i64 1, .slice none 0 0][j]?) := fun wz hz => (B0.out.stays hz).cell
  have hca : Hid (∀ wz, Below w2.heap.size w2 wz → Calls Try.prog 53 #[.pointer (some ⟨S, 0, none⟩), .agg #[.int .i64 7, .int .i64 0, .slice none 0 0]] wz fun e w' => e = .returned (.tuple #[.int .i64 0, .bool true]) ∧ Below wz.heap.size wz w') := fun wz hz => class_meta wz S g cap mv none none more ((HH.out.sto.stays W0.out).stays hz) 0 0 (by decide) (by decide) ((R0.out).stays W0.out |>.stays hz)
  have hcb : Hid (∀ wz, Below w2.heap.size w2 wz → Calls Try.prog 53 #[.pointer (some ⟨S, 0, none⟩), .agg #[.int .i64 7, .int .i64 1, .slice none 0 0]] wz fun e w' => e = .returned (.tuple #[.int .i64 1, .bool true]) ∧ Below wz.heap.size wz w') := fun wz hz => class_meta wz S g cap mv none none more ((HH.out.sto.stays W0.out).stays hz) 1 1 (by decide) (by decide) ((R1.out).stays W0.out |>.stays hz)
  refine wp_region_held_drew (S := fun wz => Below w2.heap.size w2 wz) (by kernel_rfl) ((Below.refl _ _).drew) (fun hS => ?_)
  generalize w2.drew = wc0 at hS   ⊢
  refine wpAnyH_take (i := 0) (v := ?_) rfl (by kernel_rfl) (by kernel_rfl) (by kernel_rfl) (fun _ _ _ h => h) (Or.inl ⟨by rfl, ?_⟩) hS ?_
  rotate_left
  · intro wz hz; go_simp; try with_reducible rfl
  try simp only [Act.put, List.setIfInBounds_toArray, List.set_cons_zero, List.set_cons_succ, List.getElem_toArray, List.getElem_cons_succ, List.getElem_cons_zero]
  refine wpAnyH_take (i := 1) (v := ?_) rfl (by kernel_rfl) (by kernel_rfl) (by kernel_rfl) (fun _ _ _ h => h) (Or.inl ⟨by rfl, ?_⟩) hS ?_
  rotate_left
  · intro wz hz; go_simp; try with_reducible rfl
  try simp only [Act.put, List.setIfInBounds_toArray, List.set_cons_zero, List.set_cons_succ, List.getElem_toArray, List.getElem_cons_succ, List.getElem_cons_zero]
  refine wpAnyH_take (i := 2) (v := ?_) rfl (by kernel_rfl) (by kernel_rfl) (by kernel_rfl) (fun _ _ _ h => h) (Or.inl ⟨by rfl, ?_⟩) hS ?_
  rotate_left
  · intro wz hz; go_simp; try with_reducible rfl
  try simp only [Act.put, List.setIfInBounds_toArray, List.set_cons_zero, List.set_cons_succ, List.getElem_toArray, List.getElem_cons_succ, List.getElem_cons_zero]
  refine wpAnyH_take (i := 3) (v := ?_) rfl (by kernel_rfl) (by kernel_rfl) (by kernel_rfl) (fun _ _ _ h => h) (Or.inl ⟨by rfl, ?_⟩) hS ?_
  rotate_left
  · intro wz hz; have yy0 := qJ.out wz hz; have yy1 := qA.out wz hz; go_simp; try with_reducible rfl
  try simp only [Act.put, List.setIfInBounds_toArray, List.set_cons_zero, List.set_cons_succ, List.getElem_toArray, List.getElem_cons_succ, List.getElem_cons_zero]
  refine wpAnyH_take (i := 4) (v := ?_) rfl (by kernel_rfl) (by kernel_rfl) (by kernel_rfl) (fun _ _ _ h => h) (Or.inl ⟨by rfl, ?_⟩) hS ?_
  rotate_left
  · intro wz hz; have yy0 := qJ.out wz hz; have yy1 := qA.out wz hz; go_simp; try with_reducible rfl
  try simp only [Act.put, List.setIfInBounds_toArray, List.set_cons_zero, List.set_cons_succ, List.getElem_toArray, List.getElem_cons_succ, List.getElem_cons_zero]
  refine wpAnyH_ready (rs := [5]) (by kernel_rfl) (by simp) (AllReadyH.cons rfl (fun K hK => ?a2_5) AllReadyH.nil)
  case' a2_5 =>
    go_simp
    refine (hca.out wc0 hS).mono ?_
    rintro e wc1 ⟨rfl, hb⟩
    refine hK.out _ _ (bl_on hS hb) (fun hSn => ?_)
    clear hK K hS
    have hS := hSn
    clear hSn
    try simp only [Act.put, List.setIfInBounds_toArray, List.set_cons_zero, List.set_cons_succ, List.getElem_toArray, List.getElem_cons_succ, List.getElem_cons_zero]
    clear hb
    refine wpAnyH_take (i := 6) (v := ?_) rfl (by kernel_rfl) (by kernel_rfl) (by kernel_rfl) (fun _ _ _ h => h) (Or.inl ⟨by rfl, ?_⟩) hS ?_
    rotate_left
    · intro wz hz; go_simp; try with_reducible rfl
    try simp only [Act.put, List.setIfInBounds_toArray, List.set_cons_zero, List.set_cons_succ, List.getElem_toArray, List.getElem_cons_succ, List.getElem_cons_zero]
    refine wpAnyH_take (i := 7) (v := ?_) rfl (by kernel_rfl) (by kernel_rfl) (by kernel_rfl) (fun _ _ _ h => h) (Or.inl ⟨by rfl, ?_⟩) hS ?_
    rotate_left
    · intro wz hz; go_simp; try with_reducible rfl
    try simp only [Act.put, List.setIfInBounds_toArray, List.set_cons_zero, List.set_cons_succ, List.getElem_toArray, List.getElem_cons_succ, List.getElem_cons_zero]
    refine wpAnyH_take (i := 8) (v := ?_) rfl (by kernel_rfl) (by kernel_rfl) (by kernel_rfl) (fun _ _ _ h => h) (Or.inl ⟨by rfl, ?_⟩) hS ?_
    rotate_left
    · intro wz hz; go_simp; try with_reducible rfl
    try simp only [Act.put, List.setIfInBounds_toArray, List.set_cons_zero, List.set_cons_succ, List.getElem_toArray, List.getElem_cons_succ, List.getElem_cons_zero]
    refine wpAnyH_take (i := 9) (v := ?_) rfl (by kernel_rfl) (by kernel_rfl) (by kernel_rfl) (fun _ _ _ h => h) (Or.inl ⟨by rfl, ?_⟩) hS ?_
    rotate_left
    · intro wz hz; go_simp; try with_reducible rfl
    try simp only [Act.put, List.setIfInBounds_toArray, List.set_cons_zero, List.set_cons_succ, List.getElem_toArray, List.getElem_cons_succ, List.getElem_cons_zero]
    refine wpAnyH_take (i := 10) (v := ?_) rfl (by kernel_rfl) (by kernel_rfl) (by kernel_rfl) (fun _ _ _ h => h) (Or.inl ⟨by rfl, ?_⟩) hS ?_
    rotate_left
    · intro wz hz; go_simp; try with_reducible rfl
    try simp only [Act.put, List.setIfInBounds_toArray, List.set_cons_zero, List.set_cons_succ, List.getElem_toArray, List.getElem_cons_succ, List.getElem_cons_zero]
    refine wpAnyH_done (by kernel_rfl) ?_ _
  go_upto_region 2 with fail
  refine wp_region_held_drew (S := fun wz => Below w2.heap.size w2 wz) (by kernel_rfl) (hS.drew) (fun hS => ?_)
  generalize wc1.drew = wc0 at hS   ⊢
  refine wpAnyH_take (i := 0) (v := ?_) rfl (by kernel_rfl) (by kernel_rfl) (by kernel_rfl) (fun _ _ _ h => h) (Or.inl ⟨by rfl, ?_⟩) hS ?_
  rotate_left
  · intro wz hz; go_simp; try with_reducible rfl
  try simp only [Act.put, List.setIfInBounds_toArray, List.set_cons_zero, List.set_cons_succ, List.getElem_toArray, List.getElem_cons_succ, List.getElem_cons_zero]
  refine wpAnyH_take (i := 1) (v := ?_) rfl (by kernel_rfl) (by kernel_rfl) (by kernel_rfl) (fun _ _ _ h => h) (Or.inl ⟨by rfl, ?_⟩) hS ?_
  rotate_left
  · intro wz hz; go_simp; try with_reducible rfl
  try simp only [Act.put, List.setIfInBounds_toArray, List.set_cons_zero, List.set_cons_succ, List.getElem_toArray, List.getElem_cons_succ, List.getElem_cons_zero]
  refine wpAnyH_take (i := 2) (v := ?_) rfl (by kernel_rfl) (by kernel_rfl) (by kernel_rfl) (fun _ _ _ h => h) (Or.inl ⟨by rfl, ?_⟩) hS ?_
  rotate_left
  · intro wz hz; go_simp; try with_reducible rfl
  try simp only [Act.put, List.setIfInBounds_toArray, List.set_cons_zero, List.set_cons_succ, List.getElem_toArray, List.getElem_cons_succ, List.getElem_cons_zero]
  refine wpAnyH_take (i := 3) (v := ?_) rfl (by kernel_rfl) (by kernel_rfl) (by kernel_rfl) (fun _ _ _ h => h) (Or.inl ⟨by rfl, ?_⟩) hS ?_
  rotate_left
  · intro wz hz; have yy0 := qJ.out wz hz; have yy1 := qB.out wz hz; go_simp; try with_reducible rfl
  try simp only [Act.put, List.setIfInBounds_toArray, List.set_cons_zero, List.set_cons_succ, List.getElem_toArray, List.getElem_cons_succ, List.getElem_cons_zero]
  refine wpAnyH_take (i := 4) (v := ?_) rfl (by kernel_rfl) (by kernel_rfl) (by kernel_rfl) (fun _ _ _ h => h) (Or.inl ⟨by rfl, ?_⟩) hS ?_
  rotate_left
  · intro wz hz; have yy0 := qJ.out wz hz; have yy1 := qB.out wz hz; go_simp; try with_reducible rfl
  try simp only [Act.put, List.setIfInBounds_toArray, List.set_cons_zero, List.set_cons_succ, List.getElem_toArray, List.getElem_cons_succ, List.getElem_cons_zero]
  refine wpAnyH_ready (rs := [5]) (by kernel_rfl) (by simp) (AllReadyH.cons rfl (fun K hK => ?a3_5) AllReadyH.nil)
  case' a3_5 =>
    go_simp
    refine (hcb.out wc0 hS).mono ?_
    rintro e wc1 ⟨rfl, hb⟩
    refine hK.out _ _ (bl_on hS hb) (fun hSn => ?_)
    clear hK K hS
    have hS := hSn
    clear hSn
    try simp only [Act.put, List.setIfInBounds_toArray, List.set_cons_zero, List.set_cons_succ, List.getElem_toArray, List.getElem_cons_succ, List.getElem_cons_zero]
    clear hb
    refine wpAnyH_take (i := 6) (v := ?_) rfl (by kernel_rfl) (by kernel_rfl) (by kernel_rfl) (fun _ _ _ h => h) (Or.inl ⟨by rfl, ?_⟩) hS ?_
    rotate_left
    · intro wz hz; go_simp; try with_reducible rfl
    try simp only [Act.put, List.setIfInBounds_toArray, List.set_cons_zero, List.set_cons_succ, List.getElem_toArray, List.getElem_cons_succ, List.getElem_cons_zero]
    refine wpAnyH_take (i := 7) (v := ?_) rfl (by kernel_rfl) (by kernel_rfl) (by kernel_rfl) (fun _ _ _ h => h) (Or.inl ⟨by rfl, ?_⟩) hS ?_
    rotate_left
    · intro wz hz; go_simp; try with_reducible rfl
    try simp only [Act.put, List.setIfInBounds_toArray, List.set_cons_zero, List.set_cons_succ, List.getElem_toArray, List.getElem_cons_succ, List.getElem_cons_zero]
    refine wpAnyH_take (i := 8) (v := ?_) rfl (by kernel_rfl) (by kernel_rfl) (by kernel_rfl) (fun _ _ _ h => h) (Or.inl ⟨by rfl, ?_⟩) hS ?_
    rotate_left
    · intro wz hz; go_simp; try with_reducible rfl
    try simp only [Act.put, List.setIfInBounds_toArray, List.set_cons_zero, List.set_cons_succ, List.getElem_toArray, List.getElem_cons_succ, List.getElem_cons_zero]
    refine wpAnyH_take (i := 9) (v := ?_) rfl (by kernel_rfl) (by kernel_rfl) (by kernel_rfl) (fun _ _ _ h => h) (Or.inl ⟨by rfl, ?_⟩) hS ?_
    rotate_left
    · intro wz hz; go_simp; try with_reducible rfl
    try simp only [Act.put, List.setIfInBounds_toArray, List.set_cons_zero, List.set_cons_succ, List.getElem_toArray, List.getElem_cons_succ, List.getElem_cons_zero]
    refine wpAnyH_take (i := 10) (v := ?_) rfl (by kernel_rfl) (by kernel_rfl) (by kernel_rfl) (fun _ _ _ h => h) (Or.inl ⟨by rfl, ?_⟩) hS ?_
    rotate_left
    · intro wz hz; go_simp; try with_reducible rfl
    try simp only [Act.put, List.setIfInBounds_toArray, List.set_cons_zero, List.set_cons_succ, List.getElem_toArray, List.getElem_cons_succ, List.getElem_cons_zero]
    refine wpAnyH_done (by kernel_rfl) ?_ _
  have a2 := qA.out _ hS
  have b2 := qB.out _ hS
  have HB2 := hid (bl_tr W0.out hS)
  clear hca hcb qA qB qJ A0 B0
  have hjo : Hid (Calls Try.prog 58 #[.pointer (some ⟨J, 0, none⟩), .int .i64 0, .int .i64 1] wc1 fun e w' => e = .returned (.bool true) ∧ (∃ (q0 q1 : Nat) (cv' : Value), Jn w' J S g cap mv (some ⟨q0, 0, none⟩) (some ⟨q1, 0, none⟩) more cv' 2 ∧ Arr w' q1 FT [.int .i64 1, .int .i64 1, .int .i64 0, .int .i64 1, .pointer none, .int .i64 1, .pointer none] ∧ Arr w' q0 FT [.int .i64 1, .int .i64 0, .int .i64 0, .int .i64 0, .pointer none, .int .i64 0, .pointer none] ∧ w.heap.size ≤ q0 ∧ w.heap.size ≤ q1) ∧ Fr J g (.slice none 0 0) w w') := by
    refine (join_open wc1 J S g cap mv more (HH.out.stays HB2.out)).mono ?_
    rintro e w' ⟨rfl, ⟨q0, q1, cv', k1, k2, k3, k4, k5⟩, k6⟩
    have := HB2.out.size
    exact ⟨rfl, ⟨q0, q1, cv', k1, k2, k3, by omega, by omega⟩, k6.of_below HB2.out⟩
  go_wp2_with (go_at_call 58; refine hjo.out.mono ?_; rintro e w9 ⟨rfl, k1, k2⟩; have K1 := hid k1; have K2 := hid k2; clear k1 k2)
  go_ret
  exact ⟨rfl, K1.out, K2.out⟩

set_option maxHeartbeats 4000000 in
set_option maxRecDepth 100000 in
theorem same_fill (w : World) (J S g cap : Nat) (mv : Value) (p0 : Option Addr) (q1 : Nat) (more : List Value) (h : Jn w J S g cap mv p0 (some ⟨q1, 0, none⟩) more (.slice none 0 0) 0) (hq : Arr w q1 FT [.int .i64 1, .int .i64 1, .int .i64 0, .int .i64 1, .pointer none, .int .i64 1, .pointer none]) (n0 : Nat) (vs : List Value) (t : Tp) (hT : TAt w Any n0 vs t) (hc : t.cnt ≤ 1000) (hc1 : t.cnt ≠ 1) (hM : NoM t) : Calls Try.prog 28 #[.pointer (some ⟨J, 0, none⟩), .agg #[.int .i64 7, .int .i64 1, .slice none 0 0], .agg vs.toArray] w fun e w' => e = .returned (.bool true) ∧ (∃ (q2 pI N : Nat) (a c : Option Addr × Nat) (cv' : Value), Jn w' J S g cap mv p0 (some ⟨q2, 0, none⟩) more cv' 1 ∧ Arr w' q2 FT [.int .i64 1, .int .i64 1, .int .i64 0, .int .i64 1, .pointer (some ⟨pI, 0, none⟩), .int .i64 (t.cnt : Int), .pointer none] ∧ Arr w' pI 24 [.int .i64 t.k, .int .i64 t.n, .slice a.1 t.ks.length a.2] ∧ TAt w' (fun b => w.heap.size ≤ b) N [.int .i64 t.k, .int .i64 t.n, .slice a.1 t.ks.length a.2] t ∧ w.heap.size ≤ q2 ∧ w.heap.size ≤ pI) ∧ Fr J g (.slice none 0 0) w w' := by
  obtain ⟨a0, c0, rfl⟩ := hT.form
  have HH := hid h
  have HJ := hid h.jn
  have r1 : RootIs w p0 (some ⟨q1, 0, none⟩) 1 1 := ⟨.inr ⟨q1, rfl, hq.cell 0⟩, .inl rfl⟩
  have R1 := hid r1
  have HT := hid hT
  have HQ := hid hq
  have HM := hid hM
  have HC := hid hc
  have HC1 := hid hc1
  clear h r1 hq hT hM hc hc1
  have A0 : Hid (Arr ((w.alloc (.cells #[.int .i64 7, .int .i64 1, .slice none 0 0] 24)).alloc (.cells #[.int .i64 t.k, .int .i64 t.n, .slice a0 t.ks.length c0] 24)) w.heap.size 24 [.int .i64 7, .int .i64 1, .slice none 0 0]) := Arr.stays (w := w.alloc (.cells #[.int .i64 7, .int .i64 1, .slice none 0 0] 24)) ⟨heap_alloc_at _ _⟩ (bl_alloc (Below.refl _ _) _)
  have B0 : Hid (Arr ((w.alloc (.cells #[.int .i64 7, .int .i64 1, .slice none 0 0] 24)).alloc (.cells #[.int .i64 t.k, .int .i64 t.n, .slice a0 t.ks.length c0] 24)) (w.heap.size + 1) 24 [.int .i64 t.k, .int .i64 t.n, .slice a0 t.ks.length c0]) := ⟨by have := heap_alloc_at (w.alloc (.cells #[.int .i64 7, .int .i64 1, .slice none 0 0] 24)) (.cells #[.int .i64 t.k, .int .i64 t.n, .slice a0 t.ks.length c0] 24); rw [size_alloc] at this; exact this⟩
  have W0 : Hid (Below w.heap.size w ((w.alloc (.cells #[.int .i64 7, .int .i64 1, .slice none 0 0] 24)).alloc (.cells #[.int .i64 t.k, .int .i64 t.n, .slice a0 t.ks.length c0] 24))) := bl_alloc (bl_alloc (Below.refl _ _) _) _
  go_enter Try.func28, Try.ntmps28
  go_upto_region 1 with fail
  generalize (w.alloc (.cells #[.int .i64 7, .int .i64 1, .slice none 0 0] 24)).alloc (.cells #[.int .i64 t.k, .int .i64 t.n, .slice a0 t.ks.length c0] 24) = w2 at A0 B0 W0 ⊢
  have qJ : Hid (∀ wz, Below w2.heap.size w2 wz → wz.cell? ⟨J, 0, none⟩ = some (.pointer (some ⟨S, 0, none⟩))) := fun wz hz => ((HJ.out.stays W0.out).stays hz).cell 0
  have qA : Hid (∀ wz, Below w2.heap.size w2 wz → ∀ j, wz.cell? ⟨w.heap.size, j, none⟩ = [.int .i64 7, .int .i64 1, .slice none 0 0][j]?) := fun wz hz => (A0.out.stays hz).cell
  have qB : Hid (∀ wz, Below w2.heap.size w2 wz → ∀ j, wz.cell? ⟨w.heap.size + 1, j, none⟩ = [.int .i64 t.k, .int .i64 t.n, .slice a0 t.ks.length c0][j]?) := fun wz hz => (B0.out.stays hz).cell
  have hca : Hid (∀ wz, Below w2.heap.size w2 wz → Calls Try.prog 53 #[.pointer (some ⟨S, 0, none⟩), .agg #[.int .i64 7, .int .i64 1, .slice none 0 0]] wz fun e w' => e = .returned (.tuple #[.int .i64 1, .bool true]) ∧ Below wz.heap.size wz w') := fun wz hz => class_meta wz S g cap mv p0 (some ⟨q1, 0, none⟩) more ((HH.out.sto.stays W0.out).stays hz) 1 1 (by decide) (by decide) ((R1.out).stays W0.out |>.stays hz)
  have hcb : Hid (∀ wz, Below w2.heap.size w2 wz → Calls Try.prog 53 #[.pointer (some ⟨S, 0, none⟩), .agg #[.int .i64 t.k, .int .i64 t.n, .slice a0 t.ks.length c0]] wz fun e w' => e = .returned (.tuple #[.int .i64 0, .bool false]) ∧ Below wz.heap.size wz w') := fun wz hz => class_no wz S t.k t.n (.bool true) HM.out.kind a0 t.ks.length c0
  refine wp_region_held_drew (S := fun wz => Below w2.heap.size w2 wz) (by kernel_rfl) ((Below.refl _ _).drew) (fun hS => ?_)
  generalize w2.drew = wc0 at hS   ⊢
  refine wpAnyH_take (i := 0) (v := ?_) rfl (by kernel_rfl) (by kernel_rfl) (by kernel_rfl) (fun _ _ _ h => h) (Or.inl ⟨by rfl, ?_⟩) hS ?_
  rotate_left
  · intro wz hz; go_simp; try with_reducible rfl
  try simp only [Act.put, List.setIfInBounds_toArray, List.set_cons_zero, List.set_cons_succ, List.getElem_toArray, List.getElem_cons_succ, List.getElem_cons_zero]
  refine wpAnyH_take (i := 1) (v := ?_) rfl (by kernel_rfl) (by kernel_rfl) (by kernel_rfl) (fun _ _ _ h => h) (Or.inl ⟨by rfl, ?_⟩) hS ?_
  rotate_left
  · intro wz hz; go_simp; try with_reducible rfl
  try simp only [Act.put, List.setIfInBounds_toArray, List.set_cons_zero, List.set_cons_succ, List.getElem_toArray, List.getElem_cons_succ, List.getElem_cons_zero]
  refine wpAnyH_take (i := 2) (v := ?_) rfl (by kernel_rfl) (by kernel_rfl) (by kernel_rfl) (fun _ _ _ h => h) (Or.inl ⟨by rfl, ?_⟩) hS ?_
  rotate_left
  · intro wz hz; go_simp; try with_reducible rfl
  try simp only [Act.put, List.setIfInBounds_toArray, List.set_cons_zero, List.set_cons_succ, List.getElem_toArray, List.getElem_cons_succ, List.getElem_cons_zero]
  refine wpAnyH_take (i := 3) (v := ?_) rfl (by kernel_rfl) (by kernel_rfl) (by kernel_rfl) (fun _ _ _ h => h) (Or.inl ⟨by rfl, ?_⟩) hS ?_
  rotate_left
  · intro wz hz; have yy0 := qJ.out wz hz; have yy1 := qA.out wz hz; go_simp; try with_reducible rfl
  try simp only [Act.put, List.setIfInBounds_toArray, List.set_cons_zero, List.set_cons_succ, List.getElem_toArray, List.getElem_cons_succ, List.getElem_cons_zero]
  refine wpAnyH_take (i := 4) (v := ?_) rfl (by kernel_rfl) (by kernel_rfl) (by kernel_rfl) (fun _ _ _ h => h) (Or.inl ⟨by rfl, ?_⟩) hS ?_
  rotate_left
  · intro wz hz; have yy0 := qJ.out wz hz; have yy1 := qA.out wz hz; go_simp; try with_reducible rfl
  try simp only [Act.put, List.setIfInBounds_toArray, List.set_cons_zero, List.set_cons_succ, List.getElem_toArray, List.getElem_cons_succ, List.getElem_cons_zero]
  refine wpAnyH_ready (rs := [5]) (by kernel_rfl) (by simp) (AllReadyH.cons rfl (fun K hK => ?a4_5) AllReadyH.nil)
  case' a4_5 =>
    go_simp
    refine (hca.out wc0 hS).mono ?_
    rintro e wc1 ⟨rfl, hb⟩
    refine hK.out _ _ (bl_on hS hb) (fun hSn => ?_)
    clear hK K hS
    have hS := hSn
    clear hSn
    try simp only [Act.put, List.setIfInBounds_toArray, List.set_cons_zero, List.set_cons_succ, List.getElem_toArray, List.getElem_cons_succ, List.getElem_cons_zero]
    clear hb
    refine wpAnyH_take (i := 6) (v := ?_) rfl (by kernel_rfl) (by kernel_rfl) (by kernel_rfl) (fun _ _ _ h => h) (Or.inl ⟨by rfl, ?_⟩) hS ?_
    rotate_left
    · intro wz hz; go_simp; try with_reducible rfl
    try simp only [Act.put, List.setIfInBounds_toArray, List.set_cons_zero, List.set_cons_succ, List.getElem_toArray, List.getElem_cons_succ, List.getElem_cons_zero]
    refine wpAnyH_take (i := 7) (v := ?_) rfl (by kernel_rfl) (by kernel_rfl) (by kernel_rfl) (fun _ _ _ h => h) (Or.inl ⟨by rfl, ?_⟩) hS ?_
    rotate_left
    · intro wz hz; go_simp; try with_reducible rfl
    try simp only [Act.put, List.setIfInBounds_toArray, List.set_cons_zero, List.set_cons_succ, List.getElem_toArray, List.getElem_cons_succ, List.getElem_cons_zero]
    refine wpAnyH_take (i := 8) (v := ?_) rfl (by kernel_rfl) (by kernel_rfl) (by kernel_rfl) (fun _ _ _ h => h) (Or.inl ⟨by rfl, ?_⟩) hS ?_
    rotate_left
    · intro wz hz; go_simp; try with_reducible rfl
    try simp only [Act.put, List.setIfInBounds_toArray, List.set_cons_zero, List.set_cons_succ, List.getElem_toArray, List.getElem_cons_succ, List.getElem_cons_zero]
    refine wpAnyH_take (i := 9) (v := ?_) rfl (by kernel_rfl) (by kernel_rfl) (by kernel_rfl) (fun _ _ _ h => h) (Or.inl ⟨by rfl, ?_⟩) hS ?_
    rotate_left
    · intro wz hz; go_simp; try with_reducible rfl
    try simp only [Act.put, List.setIfInBounds_toArray, List.set_cons_zero, List.set_cons_succ, List.getElem_toArray, List.getElem_cons_succ, List.getElem_cons_zero]
    refine wpAnyH_take (i := 10) (v := ?_) rfl (by kernel_rfl) (by kernel_rfl) (by kernel_rfl) (fun _ _ _ h => h) (Or.inl ⟨by rfl, ?_⟩) hS ?_
    rotate_left
    · intro wz hz; go_simp; try with_reducible rfl
    try simp only [Act.put, List.setIfInBounds_toArray, List.set_cons_zero, List.set_cons_succ, List.getElem_toArray, List.getElem_cons_succ, List.getElem_cons_zero]
    refine wpAnyH_done (by kernel_rfl) ?_ _
  go_upto_region 2 with fail
  refine wp_region_held_drew (S := fun wz => Below w2.heap.size w2 wz) (by kernel_rfl) (hS.drew) (fun hS => ?_)
  generalize wc1.drew = wc0 at hS   ⊢
  refine wpAnyH_take (i := 0) (v := ?_) rfl (by kernel_rfl) (by kernel_rfl) (by kernel_rfl) (fun _ _ _ h => h) (Or.inl ⟨by rfl, ?_⟩) hS ?_
  rotate_left
  · intro wz hz; go_simp; try with_reducible rfl
  try simp only [Act.put, List.setIfInBounds_toArray, List.set_cons_zero, List.set_cons_succ, List.getElem_toArray, List.getElem_cons_succ, List.getElem_cons_zero]
  refine wpAnyH_take (i := 1) (v := ?_) rfl (by kernel_rfl) (by kernel_rfl) (by kernel_rfl) (fun _ _ _ h => h) (Or.inl ⟨by rfl, ?_⟩) hS ?_
  rotate_left
  · intro wz hz; go_simp; try with_reducible rfl
  try simp only [Act.put, List.setIfInBounds_toArray, List.set_cons_zero, List.set_cons_succ, List.getElem_toArray, List.getElem_cons_succ, List.getElem_cons_zero]
  refine wpAnyH_take (i := 2) (v := ?_) rfl (by kernel_rfl) (by kernel_rfl) (by kernel_rfl) (fun _ _ _ h => h) (Or.inl ⟨by rfl, ?_⟩) hS ?_
  rotate_left
  · intro wz hz; go_simp; try with_reducible rfl
  try simp only [Act.put, List.setIfInBounds_toArray, List.set_cons_zero, List.set_cons_succ, List.getElem_toArray, List.getElem_cons_succ, List.getElem_cons_zero]
  refine wpAnyH_take (i := 3) (v := ?_) rfl (by kernel_rfl) (by kernel_rfl) (by kernel_rfl) (fun _ _ _ h => h) (Or.inl ⟨by rfl, ?_⟩) hS ?_
  rotate_left
  · intro wz hz; have yy0 := qJ.out wz hz; have yy1 := qB.out wz hz; go_simp; try with_reducible rfl
  try simp only [Act.put, List.setIfInBounds_toArray, List.set_cons_zero, List.set_cons_succ, List.getElem_toArray, List.getElem_cons_succ, List.getElem_cons_zero]
  refine wpAnyH_take (i := 4) (v := ?_) rfl (by kernel_rfl) (by kernel_rfl) (by kernel_rfl) (fun _ _ _ h => h) (Or.inl ⟨by rfl, ?_⟩) hS ?_
  rotate_left
  · intro wz hz; have yy0 := qJ.out wz hz; have yy1 := qB.out wz hz; go_simp; try with_reducible rfl
  try simp only [Act.put, List.setIfInBounds_toArray, List.set_cons_zero, List.set_cons_succ, List.getElem_toArray, List.getElem_cons_succ, List.getElem_cons_zero]
  refine wpAnyH_ready (rs := [5]) (by kernel_rfl) (by simp) (AllReadyH.cons rfl (fun K hK => ?a5_5) AllReadyH.nil)
  case' a5_5 =>
    go_simp
    refine (hcb.out wc0 hS).mono ?_
    rintro e wc1 ⟨rfl, hb⟩
    refine hK.out _ _ (bl_on hS hb) (fun hSn => ?_)
    clear hK K hS
    have hS := hSn
    clear hSn
    try simp only [Act.put, List.setIfInBounds_toArray, List.set_cons_zero, List.set_cons_succ, List.getElem_toArray, List.getElem_cons_succ, List.getElem_cons_zero]
    clear hb
    refine wpAnyH_take (i := 6) (v := ?_) rfl (by kernel_rfl) (by kernel_rfl) (by kernel_rfl) (fun _ _ _ h => h) (Or.inl ⟨by rfl, ?_⟩) hS ?_
    rotate_left
    · intro wz hz; go_simp; try with_reducible rfl
    try simp only [Act.put, List.setIfInBounds_toArray, List.set_cons_zero, List.set_cons_succ, List.getElem_toArray, List.getElem_cons_succ, List.getElem_cons_zero]
    refine wpAnyH_take (i := 7) (v := ?_) rfl (by kernel_rfl) (by kernel_rfl) (by kernel_rfl) (fun _ _ _ h => h) (Or.inl ⟨by rfl, ?_⟩) hS ?_
    rotate_left
    · intro wz hz; go_simp; try with_reducible rfl
    try simp only [Act.put, List.setIfInBounds_toArray, List.set_cons_zero, List.set_cons_succ, List.getElem_toArray, List.getElem_cons_succ, List.getElem_cons_zero]
    refine wpAnyH_take (i := 8) (v := ?_) rfl (by kernel_rfl) (by kernel_rfl) (by kernel_rfl) (fun _ _ _ h => h) (Or.inl ⟨by rfl, ?_⟩) hS ?_
    rotate_left
    · intro wz hz; go_simp; try with_reducible rfl
    try simp only [Act.put, List.setIfInBounds_toArray, List.set_cons_zero, List.set_cons_succ, List.getElem_toArray, List.getElem_cons_succ, List.getElem_cons_zero]
    refine wpAnyH_take (i := 9) (v := ?_) rfl (by kernel_rfl) (by kernel_rfl) (by kernel_rfl) (fun _ _ _ h => h) (Or.inl ⟨by rfl, ?_⟩) hS ?_
    rotate_left
    · intro wz hz; go_simp; try with_reducible rfl
    try simp only [Act.put, List.setIfInBounds_toArray, List.set_cons_zero, List.set_cons_succ, List.getElem_toArray, List.getElem_cons_succ, List.getElem_cons_zero]
    refine wpAnyH_take (i := 10) (v := ?_) rfl (by kernel_rfl) (by kernel_rfl) (by kernel_rfl) (fun _ _ _ h => h) (Or.inl ⟨by rfl, ?_⟩) hS ?_
    rotate_left
    · intro wz hz; go_simp; try with_reducible rfl
    try simp only [Act.put, List.setIfInBounds_toArray, List.set_cons_zero, List.set_cons_succ, List.getElem_toArray, List.getElem_cons_succ, List.getElem_cons_zero]
    refine wpAnyH_done (by kernel_rfl) ?_ _
  have a2 := qA.out _ hS
  have b2 := qB.out _ hS
  have HB2 := hid (bl_tr W0.out hS)
  clear hca hcb qA qB qJ A0 B0
  have hfi : Hid (Calls Try.prog 59 #[.pointer (some ⟨J, 0, none⟩), .int .i64 1, .agg #[.int .i64 t.k, .int .i64 t.n, .slice a0 t.ks.length c0]] wc1 fun e w' => e = .returned (.bool true) ∧ (∃ (q2 pI N : Nat) (a c : Option Addr × Nat) (cv' : Value), Jn w' J S g cap mv p0 (some ⟨q2, 0, none⟩) more cv' 1 ∧ Arr w' q2 FT [.int .i64 1, .int .i64 1, .int .i64 0, .int .i64 1, .pointer (some ⟨pI, 0, none⟩), .int .i64 (t.cnt : Int), .pointer none] ∧ Arr w' pI 24 [.int .i64 t.k, .int .i64 t.n, .slice a.1 t.ks.length a.2] ∧ TAt w' (fun b => w.heap.size ≤ b) N [.int .i64 t.k, .int .i64 t.n, .slice a.1 t.ks.length a.2] t ∧ w.heap.size ≤ q2 ∧ w.heap.size ≤ pI) ∧ Fr J g (.slice none 0 0) w w') := by
    refine (fill_open wc1 J S g cap mv p0 q1 more (HH.out.stays HB2.out) (HQ.out.stays HB2.out) n0 _ t (HT.out.below HB2.out) HC.out HC1.out HM.out).mono ?_
    rintro e w' ⟨rfl, ⟨q2, pI, N, a, c, cv', k1, k2, k3, k4, k5, k7⟩, k6⟩
    have := HB2.out.size
    exact ⟨rfl, ⟨q2, pI, N, a, c, cv', k1, k2, k3, k4.move (Keeps.refl _ _) (fun b hb => by omega), by omega, by omega⟩, k6.of_below HB2.out⟩
  go_wp2_with (go_at_call 59; refine hfi.out.mono ?_; rintro e w9 ⟨rfl, k1, k2⟩; have K1 := hid k1; have K2 := hid k2; clear k1 k2)
  go_ret
  exact ⟨rfl, K1.out, K2.out⟩

set_option maxHeartbeats 4000000 in
set_option maxRecDepth 100000 in
theorem same_kinds (w : World) (J S : Nat) (h : ∀ wz, Below w.heap.size w wz → wz.cell? ⟨J, 0, none⟩ = some (.pointer (some ⟨S, 0, none⟩))) (ka na kb nb : Int) (aa ab : Option Addr) (ma ca mb cb : Nat) (h1 : ka ≠ 7) (h2 : kb ≠ 7) (h3 : ka ≠ kb) : Calls Try.prog 28 #[.pointer (some ⟨J, 0, none⟩), .agg #[.int .i64 ka, .int .i64 na, .slice aa ma ca], .agg #[.int .i64 kb, .int .i64 nb, .slice ab mb cb]] w fun e w' => e = .returned (.bool false) ∧ Below w.heap.size w w' := by
  have HJ := hid h
  have H1 := hid h1
  have H2 := hid h2
  have hne : (ka != kb) = true := by simp [h3]
  clear h h1 h2 h3
  have A0 : Hid (Arr ((w.alloc (.cells #[.int .i64 ka, .int .i64 na, .slice aa ma ca] 24)).alloc (.cells #[.int .i64 kb, .int .i64 nb, .slice ab mb cb] 24)) w.heap.size 24 [.int .i64 ka, .int .i64 na, .slice aa ma ca]) := Arr.stays (w := w.alloc (.cells #[.int .i64 ka, .int .i64 na, .slice aa ma ca] 24)) ⟨heap_alloc_at _ _⟩ (bl_alloc (Below.refl _ _) _)
  have B0 : Hid (Arr ((w.alloc (.cells #[.int .i64 ka, .int .i64 na, .slice aa ma ca] 24)).alloc (.cells #[.int .i64 kb, .int .i64 nb, .slice ab mb cb] 24)) (w.heap.size + 1) 24 [.int .i64 kb, .int .i64 nb, .slice ab mb cb]) := ⟨by have := heap_alloc_at (w.alloc (.cells #[.int .i64 ka, .int .i64 na, .slice aa ma ca] 24)) (.cells #[.int .i64 kb, .int .i64 nb, .slice ab mb cb] 24); rw [size_alloc] at this; exact this⟩
  have W0 : Hid (Below w.heap.size w ((w.alloc (.cells #[.int .i64 ka, .int .i64 na, .slice aa ma ca] 24)).alloc (.cells #[.int .i64 kb, .int .i64 nb, .slice ab mb cb] 24))) := bl_alloc (bl_alloc (Below.refl _ _) _) _
  go_enter Try.func28, Try.ntmps28
  go_upto_region 1 with fail
  generalize (w.alloc (.cells #[.int .i64 ka, .int .i64 na, .slice aa ma ca] 24)).alloc (.cells #[.int .i64 kb, .int .i64 nb, .slice ab mb cb] 24) = w2 at A0 B0 W0 ⊢
  have qJ : Hid (∀ wz, Below w2.heap.size w2 wz → wz.cell? ⟨J, 0, none⟩ = some (.pointer (some ⟨S, 0, none⟩))) := fun wz hz => HJ.out wz (bl_tr W0.out hz)
  have qA : Hid (∀ wz, Below w2.heap.size w2 wz → ∀ j, wz.cell? ⟨w.heap.size, j, none⟩ = [.int .i64 ka, .int .i64 na, .slice aa ma ca][j]?) := fun wz hz => (A0.out.stays hz).cell
  have qB : Hid (∀ wz, Below w2.heap.size w2 wz → ∀ j, wz.cell? ⟨w.heap.size + 1, j, none⟩ = [.int .i64 kb, .int .i64 nb, .slice ab mb cb][j]?) := fun wz hz => (B0.out.stays hz).cell
  have hca : Hid (∀ wz, Below w2.heap.size w2 wz → Calls Try.prog 53 #[.pointer (some ⟨S, 0, none⟩), .agg #[.int .i64 ka, .int .i64 na, .slice aa ma ca]] wz fun e w' => e = .returned (.tuple #[.int .i64 0, .bool false]) ∧ Below wz.heap.size wz w') := fun wz hz => class_no wz S ka na (.bool true) H1.out aa ma ca
  have hcb : Hid (∀ wz, Below w2.heap.size w2 wz → Calls Try.prog 53 #[.pointer (some ⟨S, 0, none⟩), .agg #[.int .i64 kb, .int .i64 nb, .slice ab mb cb]] wz fun e w' => e = .returned (.tuple #[.int .i64 0, .bool false]) ∧ Below wz.heap.size wz w') := fun wz hz => class_no wz S kb nb (.bool true) H2.out ab mb cb
  refine wp_region_held_drew (S := fun wz => Below w2.heap.size w2 wz) (by kernel_rfl) ((Below.refl _ _).drew) (fun hS => ?_)
  generalize w2.drew = wc0 at hS   ⊢
  refine wpAnyH_take (i := 0) (v := ?_) rfl (by kernel_rfl) (by kernel_rfl) (by kernel_rfl) (fun _ _ _ h => h) (Or.inl ⟨by rfl, ?_⟩) hS ?_
  rotate_left
  · intro wz hz; go_simp; try with_reducible rfl
  try simp only [Act.put, List.setIfInBounds_toArray, List.set_cons_zero, List.set_cons_succ, List.getElem_toArray, List.getElem_cons_succ, List.getElem_cons_zero]
  refine wpAnyH_take (i := 1) (v := ?_) rfl (by kernel_rfl) (by kernel_rfl) (by kernel_rfl) (fun _ _ _ h => h) (Or.inl ⟨by rfl, ?_⟩) hS ?_
  rotate_left
  · intro wz hz; go_simp; try with_reducible rfl
  try simp only [Act.put, List.setIfInBounds_toArray, List.set_cons_zero, List.set_cons_succ, List.getElem_toArray, List.getElem_cons_succ, List.getElem_cons_zero]
  refine wpAnyH_take (i := 2) (v := ?_) rfl (by kernel_rfl) (by kernel_rfl) (by kernel_rfl) (fun _ _ _ h => h) (Or.inl ⟨by rfl, ?_⟩) hS ?_
  rotate_left
  · intro wz hz; go_simp; try with_reducible rfl
  try simp only [Act.put, List.setIfInBounds_toArray, List.set_cons_zero, List.set_cons_succ, List.getElem_toArray, List.getElem_cons_succ, List.getElem_cons_zero]
  refine wpAnyH_take (i := 3) (v := ?_) rfl (by kernel_rfl) (by kernel_rfl) (by kernel_rfl) (fun _ _ _ h => h) (Or.inl ⟨by rfl, ?_⟩) hS ?_
  rotate_left
  · intro wz hz; have yy0 := qJ.out wz hz; have yy1 := qA.out wz hz; go_simp; try with_reducible rfl
  try simp only [Act.put, List.setIfInBounds_toArray, List.set_cons_zero, List.set_cons_succ, List.getElem_toArray, List.getElem_cons_succ, List.getElem_cons_zero]
  refine wpAnyH_take (i := 4) (v := ?_) rfl (by kernel_rfl) (by kernel_rfl) (by kernel_rfl) (fun _ _ _ h => h) (Or.inl ⟨by rfl, ?_⟩) hS ?_
  rotate_left
  · intro wz hz; have yy0 := qJ.out wz hz; have yy1 := qA.out wz hz; go_simp; try with_reducible rfl
  try simp only [Act.put, List.setIfInBounds_toArray, List.set_cons_zero, List.set_cons_succ, List.getElem_toArray, List.getElem_cons_succ, List.getElem_cons_zero]
  refine wpAnyH_ready (rs := [5]) (by kernel_rfl) (by simp) (AllReadyH.cons rfl (fun K hK => ?a6_5) AllReadyH.nil)
  case' a6_5 =>
    go_simp
    refine (hca.out wc0 hS).mono ?_
    rintro e wc1 ⟨rfl, hb⟩
    refine hK.out _ _ (bl_on hS hb) (fun hSn => ?_)
    clear hK K hS
    have hS := hSn
    clear hSn
    try simp only [Act.put, List.setIfInBounds_toArray, List.set_cons_zero, List.set_cons_succ, List.getElem_toArray, List.getElem_cons_succ, List.getElem_cons_zero]
    clear hb
    refine wpAnyH_take (i := 6) (v := ?_) rfl (by kernel_rfl) (by kernel_rfl) (by kernel_rfl) (fun _ _ _ h => h) (Or.inl ⟨by rfl, ?_⟩) hS ?_
    rotate_left
    · intro wz hz; go_simp; try with_reducible rfl
    try simp only [Act.put, List.setIfInBounds_toArray, List.set_cons_zero, List.set_cons_succ, List.getElem_toArray, List.getElem_cons_succ, List.getElem_cons_zero]
    refine wpAnyH_take (i := 7) (v := ?_) rfl (by kernel_rfl) (by kernel_rfl) (by kernel_rfl) (fun _ _ _ h => h) (Or.inl ⟨by rfl, ?_⟩) hS ?_
    rotate_left
    · intro wz hz; go_simp; try with_reducible rfl
    try simp only [Act.put, List.setIfInBounds_toArray, List.set_cons_zero, List.set_cons_succ, List.getElem_toArray, List.getElem_cons_succ, List.getElem_cons_zero]
    refine wpAnyH_take (i := 8) (v := ?_) rfl (by kernel_rfl) (by kernel_rfl) (by kernel_rfl) (fun _ _ _ h => h) (Or.inl ⟨by rfl, ?_⟩) hS ?_
    rotate_left
    · intro wz hz; go_simp; try with_reducible rfl
    try simp only [Act.put, List.setIfInBounds_toArray, List.set_cons_zero, List.set_cons_succ, List.getElem_toArray, List.getElem_cons_succ, List.getElem_cons_zero]
    refine wpAnyH_take (i := 9) (v := ?_) rfl (by kernel_rfl) (by kernel_rfl) (by kernel_rfl) (fun _ _ _ h => h) (Or.inl ⟨by rfl, ?_⟩) hS ?_
    rotate_left
    · intro wz hz; go_simp; try with_reducible rfl
    try simp only [Act.put, List.setIfInBounds_toArray, List.set_cons_zero, List.set_cons_succ, List.getElem_toArray, List.getElem_cons_succ, List.getElem_cons_zero]
    refine wpAnyH_take (i := 10) (v := ?_) rfl (by kernel_rfl) (by kernel_rfl) (by kernel_rfl) (fun _ _ _ h => h) (Or.inl ⟨by rfl, ?_⟩) hS ?_
    rotate_left
    · intro wz hz; go_simp; try with_reducible rfl
    try simp only [Act.put, List.setIfInBounds_toArray, List.set_cons_zero, List.set_cons_succ, List.getElem_toArray, List.getElem_cons_succ, List.getElem_cons_zero]
    refine wpAnyH_done (by kernel_rfl) ?_ _
  go_upto_region 2 with fail
  refine wp_region_held_drew (S := fun wz => Below w2.heap.size w2 wz) (by kernel_rfl) (hS.drew) (fun hS => ?_)
  generalize wc1.drew = wc0 at hS   ⊢
  refine wpAnyH_take (i := 0) (v := ?_) rfl (by kernel_rfl) (by kernel_rfl) (by kernel_rfl) (fun _ _ _ h => h) (Or.inl ⟨by rfl, ?_⟩) hS ?_
  rotate_left
  · intro wz hz; go_simp; try with_reducible rfl
  try simp only [Act.put, List.setIfInBounds_toArray, List.set_cons_zero, List.set_cons_succ, List.getElem_toArray, List.getElem_cons_succ, List.getElem_cons_zero]
  refine wpAnyH_take (i := 1) (v := ?_) rfl (by kernel_rfl) (by kernel_rfl) (by kernel_rfl) (fun _ _ _ h => h) (Or.inl ⟨by rfl, ?_⟩) hS ?_
  rotate_left
  · intro wz hz; go_simp; try with_reducible rfl
  try simp only [Act.put, List.setIfInBounds_toArray, List.set_cons_zero, List.set_cons_succ, List.getElem_toArray, List.getElem_cons_succ, List.getElem_cons_zero]
  refine wpAnyH_take (i := 2) (v := ?_) rfl (by kernel_rfl) (by kernel_rfl) (by kernel_rfl) (fun _ _ _ h => h) (Or.inl ⟨by rfl, ?_⟩) hS ?_
  rotate_left
  · intro wz hz; go_simp; try with_reducible rfl
  try simp only [Act.put, List.setIfInBounds_toArray, List.set_cons_zero, List.set_cons_succ, List.getElem_toArray, List.getElem_cons_succ, List.getElem_cons_zero]
  refine wpAnyH_take (i := 3) (v := ?_) rfl (by kernel_rfl) (by kernel_rfl) (by kernel_rfl) (fun _ _ _ h => h) (Or.inl ⟨by rfl, ?_⟩) hS ?_
  rotate_left
  · intro wz hz; have yy0 := qJ.out wz hz; have yy1 := qB.out wz hz; go_simp; try with_reducible rfl
  try simp only [Act.put, List.setIfInBounds_toArray, List.set_cons_zero, List.set_cons_succ, List.getElem_toArray, List.getElem_cons_succ, List.getElem_cons_zero]
  refine wpAnyH_take (i := 4) (v := ?_) rfl (by kernel_rfl) (by kernel_rfl) (by kernel_rfl) (fun _ _ _ h => h) (Or.inl ⟨by rfl, ?_⟩) hS ?_
  rotate_left
  · intro wz hz; have yy0 := qJ.out wz hz; have yy1 := qB.out wz hz; go_simp; try with_reducible rfl
  try simp only [Act.put, List.setIfInBounds_toArray, List.set_cons_zero, List.set_cons_succ, List.getElem_toArray, List.getElem_cons_succ, List.getElem_cons_zero]
  refine wpAnyH_ready (rs := [5]) (by kernel_rfl) (by simp) (AllReadyH.cons rfl (fun K hK => ?a7_5) AllReadyH.nil)
  case' a7_5 =>
    go_simp
    refine (hcb.out wc0 hS).mono ?_
    rintro e wc1 ⟨rfl, hb⟩
    refine hK.out _ _ (bl_on hS hb) (fun hSn => ?_)
    clear hK K hS
    have hS := hSn
    clear hSn
    try simp only [Act.put, List.setIfInBounds_toArray, List.set_cons_zero, List.set_cons_succ, List.getElem_toArray, List.getElem_cons_succ, List.getElem_cons_zero]
    clear hb
    refine wpAnyH_take (i := 6) (v := ?_) rfl (by kernel_rfl) (by kernel_rfl) (by kernel_rfl) (fun _ _ _ h => h) (Or.inl ⟨by rfl, ?_⟩) hS ?_
    rotate_left
    · intro wz hz; go_simp; try with_reducible rfl
    try simp only [Act.put, List.setIfInBounds_toArray, List.set_cons_zero, List.set_cons_succ, List.getElem_toArray, List.getElem_cons_succ, List.getElem_cons_zero]
    refine wpAnyH_take (i := 7) (v := ?_) rfl (by kernel_rfl) (by kernel_rfl) (by kernel_rfl) (fun _ _ _ h => h) (Or.inl ⟨by rfl, ?_⟩) hS ?_
    rotate_left
    · intro wz hz; go_simp; try with_reducible rfl
    try simp only [Act.put, List.setIfInBounds_toArray, List.set_cons_zero, List.set_cons_succ, List.getElem_toArray, List.getElem_cons_succ, List.getElem_cons_zero]
    refine wpAnyH_take (i := 8) (v := ?_) rfl (by kernel_rfl) (by kernel_rfl) (by kernel_rfl) (fun _ _ _ h => h) (Or.inl ⟨by rfl, ?_⟩) hS ?_
    rotate_left
    · intro wz hz; go_simp; try with_reducible rfl
    try simp only [Act.put, List.setIfInBounds_toArray, List.set_cons_zero, List.set_cons_succ, List.getElem_toArray, List.getElem_cons_succ, List.getElem_cons_zero]
    refine wpAnyH_take (i := 9) (v := ?_) rfl (by kernel_rfl) (by kernel_rfl) (by kernel_rfl) (fun _ _ _ h => h) (Or.inl ⟨by rfl, ?_⟩) hS ?_
    rotate_left
    · intro wz hz; go_simp; try with_reducible rfl
    try simp only [Act.put, List.setIfInBounds_toArray, List.set_cons_zero, List.set_cons_succ, List.getElem_toArray, List.getElem_cons_succ, List.getElem_cons_zero]
    refine wpAnyH_take (i := 10) (v := ?_) rfl (by kernel_rfl) (by kernel_rfl) (by kernel_rfl) (fun _ _ _ h => h) (Or.inl ⟨by rfl, ?_⟩) hS ?_
    rotate_left
    · intro wz hz; go_simp; try with_reducible rfl
    try simp only [Act.put, List.setIfInBounds_toArray, List.set_cons_zero, List.set_cons_succ, List.getElem_toArray, List.getElem_cons_succ, List.getElem_cons_zero]
    refine wpAnyH_done (by kernel_rfl) ?_ _
  have a2 := qA.out _ hS
  have b2 := qB.out _ hS
  have HB2 := hid (bl_tr W0.out hS)
  clear hca hcb qA qB qJ A0 B0
  go_wp2
  go_ret
  exact ⟨rfl, HB2.out⟩

set_option maxHeartbeats 4000000 in
set_option maxRecDepth 100000 in
theorem fill_known (w : World) (J S g cap : Nat) (mv : Value) (p0 : Option Addr) (q2 pI : Nat) (more : List Value) (h : Jn w J S g cap mv p0 (some ⟨q2, 0, none⟩) more (.slice none 0 0) 0) (z : Int) (hq : Arr w q2 FT [.int .i64 1, .int .i64 1, .int .i64 0, .int .i64 1, .pointer (some ⟨pI, 0, none⟩), .int .i64 z, .pointer none]) (k n : Int) (a : Option Addr) (m c : Nat) (hI : Arr w pI 24 [.int .i64 k, .int .i64 n, .slice a m c]) (h7 : k ≠ 7) (h2 : k ≠ 2) : Calls Try.prog 59 #[.pointer (some ⟨J, 0, none⟩), .int .i64 1, .agg #[.int .i64 2, .int .i64 0, .slice none 0 0]] w fun e w' => e = .returned (.bool false) ∧ Below w.heap.size w w' := by
  have hat : Hid (∀ o, Calls Try.prog 54 #[.pointer (some ⟨S, 0, none⟩), .int .i64 1] (w.alloc o) fun e w' => e = .returned (.agg #[.int .i64 1, .int .i64 1, .int .i64 0, .int .i64 1, .pointer (some ⟨pI, 0, none⟩), .int .i64 z, .pointer none]) ∧ Below (w.alloc o).heap.size (w.alloc o) w') := fun o => at_some (w.alloc o) S g cap mv p0 (some ⟨q2, 0, none⟩) more (h.sto.stays (bl_alloc (Below.refl _ _) _)) 1 (by decide) q2 rfl 1 1 0 1 z (some ⟨pI, 0, none⟩) none (hq.stays (bl_alloc (Below.refl _ _) _))
  have T0 : Hid (Arr (w.alloc (.cells #[.int .i64 2, .int .i64 0, .slice none 0 0] 24)) w.heap.size 24 [.int .i64 2, .int .i64 0, .slice none 0 0]) := ⟨heap_alloc_at _ _⟩
  have HBB : Hid (∀ o, Below w.heap.size w (w.alloc o)) := fun o => bl_alloc (Below.refl _ _) _
  have HJ := hid h.jn
  have HI := hid hI
  have H7 := hid h7
  have H2 := hid h2
  have j0 := fun o => (h.jn.stays (bl_alloc (Below.refl _ _) o)).cell
  clear h hq hI h7 h2
  go_enter Try.func59, Try.ntmps59
  go_upto_region 3 with (go_at_call 54; refine (hat.out _).mono ?_; rintro e w3 ⟨rfl, b3⟩; have T3 := hid (T0.out.stays b3); have B3 := hid (bl_tr (HBB.out _) b3); clear b3 T0)
  have F4 : Hid (Arr (w3.alloc (.cells #[.int .i64 1, .int .i64 1, .int .i64 0, .int .i64 1, .pointer (some ⟨pI, 0, none⟩), .int .i64 z, .pointer none] FT)) w3.heap.size FT [.int .i64 1, .int .i64 1, .int .i64 0, .int .i64 1, .pointer (some ⟨pI, 0, none⟩), .int .i64 z, .pointer none]) := ⟨heap_alloc_at _ _⟩
  have T4 := hid (T3.out.stays (bl_alloc (Below.refl _ _) (.cells #[.int .i64 1, .int .i64 1, .int .i64 0, .int .i64 1, .pointer (some ⟨pI, 0, none⟩), .int .i64 z, .pointer none] FT)))
  have B4 := hid (bl_alloc B3.out (.cells #[.int .i64 1, .int .i64 1, .int .i64 0, .int .i64 1, .pointer (some ⟨pI, 0, none⟩), .int .i64 z, .pointer none] FT))
  clear T3 B3 hat HBB j0
  generalize w3.alloc (.cells #[.int .i64 1, .int .i64 1, .int .i64 0, .int .i64 1, .pointer (some ⟨pI, 0, none⟩), .int .i64 z, .pointer none] FT) = w4 at F4 T4 B4 ⊢
  generalize hpF : w3.heap.size = pF at F4 ⊢
  have qT : Hid (∀ wz, Below w4.heap.size w4 wz → ∀ j, wz.cell? ⟨w.heap.size, j, none⟩ = [.int .i64 2, .int .i64 0, .slice none 0 0][j]?) := fun wz hz => (T4.out.stays hz).cell
  have qF : Hid (∀ wz, Below w4.heap.size w4 wz → ∀ j, wz.cell? ⟨pF, j, none⟩ = [.int .i64 1, .int .i64 1, .int .i64 0, .int .i64 1, .pointer (some ⟨pI, 0, none⟩), .int .i64 z, .pointer none][j]?) := fun wz hz => (F4.out.stays hz).cell
  have qI : Hid (∀ wz, Below w4.heap.size w4 wz → ∀ j, wz.cell? ⟨pI, j, none⟩ = [.int .i64 k, .int .i64 n, .slice a m c][j]?) := fun wz hz => ((HI.out.stays B4.out).stays hz).cell
  have hsa : Hid (∀ wz, Below w4.heap.size w4 wz → Calls Try.prog 28 #[.pointer (some ⟨J, 0, none⟩), .agg #[.int .i64 k, .int .i64 n, .slice a m c], .agg #[.int .i64 2, .int .i64 0, .slice none 0 0]] wz fun e w' => e = .returned (.bool false) ∧ Below wz.heap.size wz w') := fun wz hz => same_kinds wz J S (fun wy hy => (((HJ.out.stays B4.out).stays hz).stays hy).cell 0) k n 2 0 a none m c 0 0 H7.out (by decide) H2.out
  refine wp_region_held_drew (S := fun wz => Below w4.heap.size w4 wz) (by kernel_rfl) ((Below.refl _ _).drew) (fun hS => ?_)
  generalize w4.drew = wc0 at hS   ⊢
  refine wpAnyH_take (i := 0) (v := ?_) rfl (by kernel_rfl) (by kernel_rfl) (by kernel_rfl) (fun _ _ _ h => h) (Or.inl ⟨by rfl, ?_⟩) hS ?_
  rotate_left
  · intro wz hz; go_simp; try with_reducible rfl
  try simp only [Act.put, List.setIfInBounds_toArray, List.set_cons_zero, List.set_cons_succ, List.getElem_toArray, List.getElem_cons_succ, List.getElem_cons_zero]
  refine wpAnyH_take (i := 1) (v := ?_) rfl (by kernel_rfl) (by kernel_rfl) (by kernel_rfl) (fun _ _ _ h => h) (Or.inl ⟨by rfl, ?_⟩) hS ?_
  rotate_left
  · intro wz hz; go_simp; try with_reducible rfl
  try simp only [Act.put, List.setIfInBounds_toArray, List.set_cons_zero, List.set_cons_succ, List.getElem_toArray, List.getElem_cons_succ, List.getElem_cons_zero]
  refine wpAnyH_take (i := 2) (v := ?_) rfl (by kernel_rfl) (by kernel_rfl) (by kernel_rfl) (fun _ _ _ h => h) (Or.inl ⟨by rfl, ?_⟩) hS ?_
  rotate_left
  · intro wz hz; have yy0 := qT.out wz hz; have yy1 := qF.out wz hz; have yy2 := qI.out wz hz; go_simp; try with_reducible rfl
  try simp only [Act.put, List.setIfInBounds_toArray, List.set_cons_zero, List.set_cons_succ, List.getElem_toArray, List.getElem_cons_succ, List.getElem_cons_zero]
  refine wpAnyH_take (i := 3) (v := ?_) rfl (by kernel_rfl) (by kernel_rfl) (by kernel_rfl) (fun _ _ _ h => h) (Or.inl ⟨by rfl, ?_⟩) hS ?_
  rotate_left
  · intro wz hz; go_simp; try with_reducible rfl
  try simp only [Act.put, List.setIfInBounds_toArray, List.set_cons_zero, List.set_cons_succ, List.getElem_toArray, List.getElem_cons_succ, List.getElem_cons_zero]
  refine wpAnyH_take (i := 4) (v := ?_) rfl (by kernel_rfl) (by kernel_rfl) (by kernel_rfl) (fun _ _ _ h => h) (Or.inl ⟨by rfl, ?_⟩) hS ?_
  rotate_left
  · intro wz hz; have yy0 := qT.out wz hz; have yy1 := qF.out wz hz; have yy2 := qI.out wz hz; go_simp; try with_reducible rfl
  try simp only [Act.put, List.setIfInBounds_toArray, List.set_cons_zero, List.set_cons_succ, List.getElem_toArray, List.getElem_cons_succ, List.getElem_cons_zero]
  refine wpAnyH_take (i := 5) (v := ?_) rfl (by kernel_rfl) (by kernel_rfl) (by kernel_rfl) (fun _ _ _ h => h) (Or.inl ⟨by rfl, ?_⟩) hS ?_
  rotate_left
  · intro wz hz; have yy0 := qT.out wz hz; have yy1 := qF.out wz hz; have yy2 := qI.out wz hz; go_simp; try with_reducible rfl
  try simp only [Act.put, List.setIfInBounds_toArray, List.set_cons_zero, List.set_cons_succ, List.getElem_toArray, List.getElem_cons_succ, List.getElem_cons_zero]
  refine wpAnyH_ready (rs := [6]) (by kernel_rfl) (by simp) (AllReadyH.cons rfl (fun K hK => ?a1_6) AllReadyH.nil)
  case' a1_6 =>
    go_simp
    refine (hsa.out wc0 hS).mono ?_
    rintro e wc1 ⟨rfl, hb⟩
    refine hK.out _ _ (bl_on hS hb) (fun hSn => ?_)
    clear hK K hS
    have hS := hSn
    clear hSn
    try simp only [Act.put, List.setIfInBounds_toArray, List.set_cons_zero, List.set_cons_succ, List.getElem_toArray, List.getElem_cons_succ, List.getElem_cons_zero]
    clear hb
    refine wpAnyH_take (i := 7) (v := ?_) rfl (by kernel_rfl) (by kernel_rfl) (by kernel_rfl) (fun _ _ _ h => h) (Or.inl ⟨by rfl, ?_⟩) hS ?_
    rotate_left
    · intro wz hz; go_simp; try with_reducible rfl
    try simp only [Act.put, List.setIfInBounds_toArray, List.set_cons_zero, List.set_cons_succ, List.getElem_toArray, List.getElem_cons_succ, List.getElem_cons_zero]
    refine wpAnyH_done (by kernel_rfl) ?_ _
  go_wp2
  go_ret
  exact ⟨rfl, bl_tr B4.out hS⟩

set_option maxHeartbeats 4000000 in
set_option maxRecDepth 100000 in
theorem same_known (w : World) (J S g cap : Nat) (mv : Value) (q0 q2 pI : Nat) (more : List Value) (h : Jn w J S g cap mv (some ⟨q0, 0, none⟩) (some ⟨q2, 0, none⟩) more (.slice none 0 0) 0) (z : Int) (hq : Arr w q2 FT [.int .i64 1, .int .i64 1, .int .i64 0, .int .i64 1, .pointer (some ⟨pI, 0, none⟩), .int .i64 z, .pointer none]) (hq0 : Arr w q0 FT [.int .i64 1, .int .i64 0, .int .i64 0, .int .i64 0, .pointer none, .int .i64 0, .pointer none]) (k n : Int) (a : Option Addr) (m c : Nat) (hI : Arr w pI 24 [.int .i64 k, .int .i64 n, .slice a m c]) (h7 : k ≠ 7) (h2 : k ≠ 2) : Calls Try.prog 28 #[.pointer (some ⟨J, 0, none⟩), .agg #[.int .i64 7, .int .i64 0, .slice none 0 0], .agg #[.int .i64 2, .int .i64 0, .slice none 0 0]] w fun e w' => e = .returned (.bool false) ∧ Below w.heap.size w w' := by
  have HH := hid h
  have HJ := hid h.jn
  have r1 : RootIs w (some ⟨q0, 0, none⟩) (some ⟨q2, 0, none⟩) 0 1 := ⟨.inr ⟨q2, rfl, hq.cell 0⟩, .inr ⟨q0, rfl, hq0.cell 0⟩⟩
  have R1 := hid r1
  have HQ := hid hq
  have HI := hid hI
  have H7 := hid h7
  have H2 := hid h2
  clear h r1 hq hq0 hI h7 h2
  have A0 : Hid (Arr ((w.alloc (.cells #[.int .i64 7, .int .i64 0, .slice none 0 0] 24)).alloc (.cells #[.int .i64 2, .int .i64 0, .slice none 0 0] 24)) w.heap.size 24 [.int .i64 7, .int .i64 0, .slice none 0 0]) := Arr.stays (w := w.alloc (.cells #[.int .i64 7, .int .i64 0, .slice none 0 0] 24)) ⟨heap_alloc_at _ _⟩ (bl_alloc (Below.refl _ _) _)
  have B0 : Hid (Arr ((w.alloc (.cells #[.int .i64 7, .int .i64 0, .slice none 0 0] 24)).alloc (.cells #[.int .i64 2, .int .i64 0, .slice none 0 0] 24)) (w.heap.size + 1) 24 [.int .i64 2, .int .i64 0, .slice none 0 0]) := ⟨by have := heap_alloc_at (w.alloc (.cells #[.int .i64 7, .int .i64 0, .slice none 0 0] 24)) (.cells #[.int .i64 2, .int .i64 0, .slice none 0 0] 24); rw [size_alloc] at this; exact this⟩
  have W0 : Hid (Below w.heap.size w ((w.alloc (.cells #[.int .i64 7, .int .i64 0, .slice none 0 0] 24)).alloc (.cells #[.int .i64 2, .int .i64 0, .slice none 0 0] 24))) := bl_alloc (bl_alloc (Below.refl _ _) _) _
  go_enter Try.func28, Try.ntmps28
  go_upto_region 1 with fail
  generalize (w.alloc (.cells #[.int .i64 7, .int .i64 0, .slice none 0 0] 24)).alloc (.cells #[.int .i64 2, .int .i64 0, .slice none 0 0] 24) = w2 at A0 B0 W0 ⊢
  have qJ : Hid (∀ wz, Below w2.heap.size w2 wz → wz.cell? ⟨J, 0, none⟩ = some (.pointer (some ⟨S, 0, none⟩))) := fun wz hz => ((HJ.out.stays W0.out).stays hz).cell 0
  have qA : Hid (∀ wz, Below w2.heap.size w2 wz → ∀ j, wz.cell? ⟨w.heap.size, j, none⟩ = [.int .i64 7, .int .i64 0, .slice none 0 0][j]?) := fun wz hz => (A0.out.stays hz).cell
  have qB : Hid (∀ wz, Below w2.heap.size w2 wz → ∀ j, wz.cell? ⟨w.heap.size + 1, j, none⟩ = [.int .i64 2, .int .i64 0, .slice none 0 0][j]?) := fun wz hz => (B0.out.stays hz).cell
  have hca : Hid (∀ wz, Below w2.heap.size w2 wz → Calls Try.prog 53 #[.pointer (some ⟨S, 0, none⟩), .agg #[.int .i64 7, .int .i64 0, .slice none 0 0]] wz fun e w' => e = .returned (.tuple #[.int .i64 1, .bool true]) ∧ Below wz.heap.size wz w') := fun wz hz => class_meta wz S g cap mv (some ⟨q0, 0, none⟩) (some ⟨q2, 0, none⟩) more ((HH.out.sto.stays W0.out).stays hz) 0 1 (by decide) (by decide) ((R1.out).stays W0.out |>.stays hz)
  have hcb : Hid (∀ wz, Below w2.heap.size w2 wz → Calls Try.prog 53 #[.pointer (some ⟨S, 0, none⟩), .agg #[.int .i64 2, .int .i64 0, .slice none 0 0]] wz fun e w' => e = .returned (.tuple #[.int .i64 0, .bool false]) ∧ Below wz.heap.size wz w') := fun wz hz => class_no wz S 2 0 (.bool true) (by decide) none 0 0
  refine wp_region_held_drew (S := fun wz => Below w2.heap.size w2 wz) (by kernel_rfl) ((Below.refl _ _).drew) (fun hS => ?_)
  generalize w2.drew = wc0 at hS   ⊢
  refine wpAnyH_take (i := 0) (v := ?_) rfl (by kernel_rfl) (by kernel_rfl) (by kernel_rfl) (fun _ _ _ h => h) (Or.inl ⟨by rfl, ?_⟩) hS ?_
  rotate_left
  · intro wz hz; go_simp; try with_reducible rfl
  try simp only [Act.put, List.setIfInBounds_toArray, List.set_cons_zero, List.set_cons_succ, List.getElem_toArray, List.getElem_cons_succ, List.getElem_cons_zero]
  refine wpAnyH_take (i := 1) (v := ?_) rfl (by kernel_rfl) (by kernel_rfl) (by kernel_rfl) (fun _ _ _ h => h) (Or.inl ⟨by rfl, ?_⟩) hS ?_
  rotate_left
  · intro wz hz; go_simp; try with_reducible rfl
  try simp only [Act.put, List.setIfInBounds_toArray, List.set_cons_zero, List.set_cons_succ, List.getElem_toArray, List.getElem_cons_succ, List.getElem_cons_zero]
  refine wpAnyH_take (i := 2) (v := ?_) rfl (by kernel_rfl) (by kernel_rfl) (by kernel_rfl) (fun _ _ _ h => h) (Or.inl ⟨by rfl, ?_⟩) hS ?_
  rotate_left
  · intro wz hz; go_simp; try with_reducible rfl
  try simp only [Act.put, List.setIfInBounds_toArray, List.set_cons_zero, List.set_cons_succ, List.getElem_toArray, List.getElem_cons_succ, List.getElem_cons_zero]
  refine wpAnyH_take (i := 3) (v := ?_) rfl (by kernel_rfl) (by kernel_rfl) (by kernel_rfl) (fun _ _ _ h => h) (Or.inl ⟨by rfl, ?_⟩) hS ?_
  rotate_left
  · intro wz hz; have yy0 := qJ.out wz hz; have yy1 := qA.out wz hz; go_simp; try with_reducible rfl
  try simp only [Act.put, List.setIfInBounds_toArray, List.set_cons_zero, List.set_cons_succ, List.getElem_toArray, List.getElem_cons_succ, List.getElem_cons_zero]
  refine wpAnyH_take (i := 4) (v := ?_) rfl (by kernel_rfl) (by kernel_rfl) (by kernel_rfl) (fun _ _ _ h => h) (Or.inl ⟨by rfl, ?_⟩) hS ?_
  rotate_left
  · intro wz hz; have yy0 := qJ.out wz hz; have yy1 := qA.out wz hz; go_simp; try with_reducible rfl
  try simp only [Act.put, List.setIfInBounds_toArray, List.set_cons_zero, List.set_cons_succ, List.getElem_toArray, List.getElem_cons_succ, List.getElem_cons_zero]
  refine wpAnyH_ready (rs := [5]) (by kernel_rfl) (by simp) (AllReadyH.cons rfl (fun K hK => ?a8_5) AllReadyH.nil)
  case' a8_5 =>
    go_simp
    refine (hca.out wc0 hS).mono ?_
    rintro e wc1 ⟨rfl, hb⟩
    refine hK.out _ _ (bl_on hS hb) (fun hSn => ?_)
    clear hK K hS
    have hS := hSn
    clear hSn
    try simp only [Act.put, List.setIfInBounds_toArray, List.set_cons_zero, List.set_cons_succ, List.getElem_toArray, List.getElem_cons_succ, List.getElem_cons_zero]
    clear hb
    refine wpAnyH_take (i := 6) (v := ?_) rfl (by kernel_rfl) (by kernel_rfl) (by kernel_rfl) (fun _ _ _ h => h) (Or.inl ⟨by rfl, ?_⟩) hS ?_
    rotate_left
    · intro wz hz; go_simp; try with_reducible rfl
    try simp only [Act.put, List.setIfInBounds_toArray, List.set_cons_zero, List.set_cons_succ, List.getElem_toArray, List.getElem_cons_succ, List.getElem_cons_zero]
    refine wpAnyH_take (i := 7) (v := ?_) rfl (by kernel_rfl) (by kernel_rfl) (by kernel_rfl) (fun _ _ _ h => h) (Or.inl ⟨by rfl, ?_⟩) hS ?_
    rotate_left
    · intro wz hz; go_simp; try with_reducible rfl
    try simp only [Act.put, List.setIfInBounds_toArray, List.set_cons_zero, List.set_cons_succ, List.getElem_toArray, List.getElem_cons_succ, List.getElem_cons_zero]
    refine wpAnyH_take (i := 8) (v := ?_) rfl (by kernel_rfl) (by kernel_rfl) (by kernel_rfl) (fun _ _ _ h => h) (Or.inl ⟨by rfl, ?_⟩) hS ?_
    rotate_left
    · intro wz hz; go_simp; try with_reducible rfl
    try simp only [Act.put, List.setIfInBounds_toArray, List.set_cons_zero, List.set_cons_succ, List.getElem_toArray, List.getElem_cons_succ, List.getElem_cons_zero]
    refine wpAnyH_take (i := 9) (v := ?_) rfl (by kernel_rfl) (by kernel_rfl) (by kernel_rfl) (fun _ _ _ h => h) (Or.inl ⟨by rfl, ?_⟩) hS ?_
    rotate_left
    · intro wz hz; go_simp; try with_reducible rfl
    try simp only [Act.put, List.setIfInBounds_toArray, List.set_cons_zero, List.set_cons_succ, List.getElem_toArray, List.getElem_cons_succ, List.getElem_cons_zero]
    refine wpAnyH_take (i := 10) (v := ?_) rfl (by kernel_rfl) (by kernel_rfl) (by kernel_rfl) (fun _ _ _ h => h) (Or.inl ⟨by rfl, ?_⟩) hS ?_
    rotate_left
    · intro wz hz; go_simp; try with_reducible rfl
    try simp only [Act.put, List.setIfInBounds_toArray, List.set_cons_zero, List.set_cons_succ, List.getElem_toArray, List.getElem_cons_succ, List.getElem_cons_zero]
    refine wpAnyH_done (by kernel_rfl) ?_ _
  go_upto_region 2 with fail
  refine wp_region_held_drew (S := fun wz => Below w2.heap.size w2 wz) (by kernel_rfl) (hS.drew) (fun hS => ?_)
  generalize wc1.drew = wc0 at hS   ⊢
  refine wpAnyH_take (i := 0) (v := ?_) rfl (by kernel_rfl) (by kernel_rfl) (by kernel_rfl) (fun _ _ _ h => h) (Or.inl ⟨by rfl, ?_⟩) hS ?_
  rotate_left
  · intro wz hz; go_simp; try with_reducible rfl
  try simp only [Act.put, List.setIfInBounds_toArray, List.set_cons_zero, List.set_cons_succ, List.getElem_toArray, List.getElem_cons_succ, List.getElem_cons_zero]
  refine wpAnyH_take (i := 1) (v := ?_) rfl (by kernel_rfl) (by kernel_rfl) (by kernel_rfl) (fun _ _ _ h => h) (Or.inl ⟨by rfl, ?_⟩) hS ?_
  rotate_left
  · intro wz hz; go_simp; try with_reducible rfl
  try simp only [Act.put, List.setIfInBounds_toArray, List.set_cons_zero, List.set_cons_succ, List.getElem_toArray, List.getElem_cons_succ, List.getElem_cons_zero]
  refine wpAnyH_take (i := 2) (v := ?_) rfl (by kernel_rfl) (by kernel_rfl) (by kernel_rfl) (fun _ _ _ h => h) (Or.inl ⟨by rfl, ?_⟩) hS ?_
  rotate_left
  · intro wz hz; go_simp; try with_reducible rfl
  try simp only [Act.put, List.setIfInBounds_toArray, List.set_cons_zero, List.set_cons_succ, List.getElem_toArray, List.getElem_cons_succ, List.getElem_cons_zero]
  refine wpAnyH_take (i := 3) (v := ?_) rfl (by kernel_rfl) (by kernel_rfl) (by kernel_rfl) (fun _ _ _ h => h) (Or.inl ⟨by rfl, ?_⟩) hS ?_
  rotate_left
  · intro wz hz; have yy0 := qJ.out wz hz; have yy1 := qB.out wz hz; go_simp; try with_reducible rfl
  try simp only [Act.put, List.setIfInBounds_toArray, List.set_cons_zero, List.set_cons_succ, List.getElem_toArray, List.getElem_cons_succ, List.getElem_cons_zero]
  refine wpAnyH_take (i := 4) (v := ?_) rfl (by kernel_rfl) (by kernel_rfl) (by kernel_rfl) (fun _ _ _ h => h) (Or.inl ⟨by rfl, ?_⟩) hS ?_
  rotate_left
  · intro wz hz; have yy0 := qJ.out wz hz; have yy1 := qB.out wz hz; go_simp; try with_reducible rfl
  try simp only [Act.put, List.setIfInBounds_toArray, List.set_cons_zero, List.set_cons_succ, List.getElem_toArray, List.getElem_cons_succ, List.getElem_cons_zero]
  refine wpAnyH_ready (rs := [5]) (by kernel_rfl) (by simp) (AllReadyH.cons rfl (fun K hK => ?a9_5) AllReadyH.nil)
  case' a9_5 =>
    go_simp
    refine (hcb.out wc0 hS).mono ?_
    rintro e wc1 ⟨rfl, hb⟩
    refine hK.out _ _ (bl_on hS hb) (fun hSn => ?_)
    clear hK K hS
    have hS := hSn
    clear hSn
    try simp only [Act.put, List.setIfInBounds_toArray, List.set_cons_zero, List.set_cons_succ, List.getElem_toArray, List.getElem_cons_succ, List.getElem_cons_zero]
    clear hb
    refine wpAnyH_take (i := 6) (v := ?_) rfl (by kernel_rfl) (by kernel_rfl) (by kernel_rfl) (fun _ _ _ h => h) (Or.inl ⟨by rfl, ?_⟩) hS ?_
    rotate_left
    · intro wz hz; go_simp; try with_reducible rfl
    try simp only [Act.put, List.setIfInBounds_toArray, List.set_cons_zero, List.set_cons_succ, List.getElem_toArray, List.getElem_cons_succ, List.getElem_cons_zero]
    refine wpAnyH_take (i := 7) (v := ?_) rfl (by kernel_rfl) (by kernel_rfl) (by kernel_rfl) (fun _ _ _ h => h) (Or.inl ⟨by rfl, ?_⟩) hS ?_
    rotate_left
    · intro wz hz; go_simp; try with_reducible rfl
    try simp only [Act.put, List.setIfInBounds_toArray, List.set_cons_zero, List.set_cons_succ, List.getElem_toArray, List.getElem_cons_succ, List.getElem_cons_zero]
    refine wpAnyH_take (i := 8) (v := ?_) rfl (by kernel_rfl) (by kernel_rfl) (by kernel_rfl) (fun _ _ _ h => h) (Or.inl ⟨by rfl, ?_⟩) hS ?_
    rotate_left
    · intro wz hz; go_simp; try with_reducible rfl
    try simp only [Act.put, List.setIfInBounds_toArray, List.set_cons_zero, List.set_cons_succ, List.getElem_toArray, List.getElem_cons_succ, List.getElem_cons_zero]
    refine wpAnyH_take (i := 9) (v := ?_) rfl (by kernel_rfl) (by kernel_rfl) (by kernel_rfl) (fun _ _ _ h => h) (Or.inl ⟨by rfl, ?_⟩) hS ?_
    rotate_left
    · intro wz hz; go_simp; try with_reducible rfl
    try simp only [Act.put, List.setIfInBounds_toArray, List.set_cons_zero, List.set_cons_succ, List.getElem_toArray, List.getElem_cons_succ, List.getElem_cons_zero]
    refine wpAnyH_take (i := 10) (v := ?_) rfl (by kernel_rfl) (by kernel_rfl) (by kernel_rfl) (fun _ _ _ h => h) (Or.inl ⟨by rfl, ?_⟩) hS ?_
    rotate_left
    · intro wz hz; go_simp; try with_reducible rfl
    try simp only [Act.put, List.setIfInBounds_toArray, List.set_cons_zero, List.set_cons_succ, List.getElem_toArray, List.getElem_cons_succ, List.getElem_cons_zero]
    refine wpAnyH_done (by kernel_rfl) ?_ _
  have a2 := qA.out _ hS
  have b2 := qB.out _ hS
  have HB2 := hid (bl_tr W0.out hS)
  clear hca hcb qA qB qJ A0 B0
  have hfi : Hid (Calls Try.prog 59 #[.pointer (some ⟨J, 0, none⟩), .int .i64 1, .agg #[.int .i64 2, .int .i64 0, .slice none 0 0]] wc1 fun e w' => e = .returned (.bool false) ∧ Below wc1.heap.size wc1 w') := fill_known wc1 J S g cap mv _ q2 pI more (HH.out.stays HB2.out) z (HQ.out.stays HB2.out) k n a m c (HI.out.stays HB2.out) H7.out H2.out
  go_wp2_with (go_at_call 59; refine hfi.out.mono ?_; rintro e w9 ⟨rfl, k1⟩; have K1 := hid k1; clear k1)
  go_ret
  exact ⟨rfl, bl_tr HB2.out K1.out⟩
end Go.Proofs.Ytknlpeloaapaiaa
