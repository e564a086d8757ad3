/- countsFit, numbered, variable, between. -/
import Derived.Test.YtfeppchgmobfpaaGreatDoorTgS
import Derived.Test.YtfeppchgmobfpaaGreatDoorTgW2
namespace Go.Proofs.YtfeppchgmobfpaaGreatDoor
open Go.RowKit
set_option linter.unusedVariables false
set_option linter.unusedSimpArgs false

theorem Tt.fitN_near (k : Int) (m j : Nat) : Tt.fitN k m j = ((Tt.near k 0 m).2 && ((Tt.near k 0 m).1.2.2 == (m : Int) && ((k != 7) || (Tt.near k 0 m).1.2.1 == (j : Int)))) := by
  have hz : ∀ a b : Nat, ((a : Int) == (b : Int)) = (b == a) := fun a b => by
    by_cases h : a = b
    · subst h; simp
    · have h2 : ¬ b = a := fun e => h e.symm
      have h3 : ¬ (a : Int) = b := by omega
      rw [beq_eq_false_iff_ne.2 h3, beq_eq_false_iff_ne.2 h2]
  have h0 := hz 0 m
  have h1 := hz 1 m
  have h2 := hz 2 m
  have h3 := hz m j
  unfold Tt.fitN Tt.near
  by_cases e1 : k = 1
  · subst e1; simpa using h0.symm
  by_cases e2 : k = 2
  · subst e2; simpa using h0.symm
  by_cases e3 : k = 3
  · subst e3; simpa using h0.symm
  by_cases e4 : k = 4
  · subst e4; simpa using h2.symm
  by_cases e5 : k = 5
  · subst e5; simpa using h2.symm
  by_cases e6 : k = 6
  · subst e6; simpa using h0.symm
  by_cases e7 : k = 7
  · subst e7; simpa using h3.symm
  by_cases e8 : k = 8
  · subst e8; simp
  by_cases e9 : k = 9
  · subst e9; simpa using h1.symm
  by_cases e10 : k = 10
  · subst e10; simpa using h1.symm
  by_cases e11 : k = 11
  · subst e11; simpa using h1.symm
  · simp [e1, e2, e3, e4, e5, e6, e7, e8, e9, e10, e11]

set_option maxHeartbeats 2000000 in
set_option maxRecDepth 100000 in
theorem countsFit_any (w : World) (K : Nat → Prop) (n b o : Nat) (t : Tt) (h : PAt w K n b o t) : Calls Tryz.prog 61 #[.pointer (some ⟨b, o, none⟩)] w fun e w' => e = .returned (.bool (Tt.fitN t.k t.ks.length t.ls.length)) ∧ Below w.heap.size w w' := by
  have hlt := h.lt
  obtain ⟨kk, rfl⟩ := h.pos
  obtain ⟨a', c', a, c, e0, e1, e2, e3, hk, hN, hS, hL⟩ := h.cells
  have hll : t.ks.length ≤ 9223372036854775807 := by obtain ⟨_, _, _, hm⟩ := hL.form; exact hm
  have hls : t.ls.length ≤ 9223372036854775807 := by obtain ⟨_, _, _, hm⟩ := hS.form; exact hm
  have G : Hid (∀ wz, Below w.heap.size w wz → wz.cell? ⟨b, o, none⟩ = some (.int .i64 t.k) ∧ wz.cell? ⟨b, o + 2, none⟩ = some (.slice a' t.ls.length c') ∧ wz.cell? ⟨b, o + 3, none⟩ = some (.slice a t.ks.length c)) := fun wz hz => ⟨(hz.cell (p := ⟨b, o, none⟩) hlt).trans e0, (hz.cell (p := ⟨b, o + 2, none⟩) hlt).trans e2, (hz.cell (p := ⟨b, o + 3, none⟩) hlt).trans e3⟩
  have G0 : Hid (∀ wz, Below w.heap.size w wz → wz.cell? ⟨b, o, none⟩ = some (.int .i64 t.k)) := fun wz hz => (G.out wz hz).1
  have G3 : Hid (∀ wz, Below w.heap.size w wz → wz.cell? ⟨b, o + 3, none⟩ = some (.slice a t.ks.length c)) := fun wz hz => (G.out wz hz).2.2
  have HR : Hid (Tt.fitN t.k t.ks.length t.ls.length = ((Tt.near t.k 0 t.ks.length).2 && ((Tt.near t.k 0 t.ks.length).1.2.2 == (t.ks.length : Int) && ((t.k != 7) || (Tt.near t.k 0 t.ks.length).1.2.1 == (t.ls.length : Int))))) := Tt.fitN_near _ _ _
  have NQ : Hid (∀ wz : World, Calls Tryz.prog 46 #[.int .i64 t.k, .agg #[.int .i64 0, .int .i64 0, .int .i64 t.ks.length]] wz fun e w' => e = .returned (.tuple #[shp (Tt.near t.k 0 t.ks.length).1, .bool (Tt.near t.k 0 t.ks.length).2]) ∧ Below wz.heap.size wz w') := fun wz => near_any wz t.k 0 0 t.ks.length
  generalize Tt.fitN t.k t.ks.length t.ls.length = res at HR ⊢
  generalize Tt.near t.k 0 t.ks.length = nr at HR NQ
  obtain ⟨⟨p1, p2, p3⟩, ok⟩ := nr
  simp only [shp] at NQ
  simp only [] at HR
  clear h e0 e1 e2 e3 hk hN hS hL
  go_enter Tryz.func61, Tryz.ntmps61
  go_wp2_with fail
  refine wp_region_held_drew (S := fun wz => Below w.heap.size w wz) (by kernel_rfl) ((Below.refl _ _).drew) (fun hS => ?_)
  generalize w.drew = wc0 at hS   ⊢
  refine wpAnyH_take (i := 0) (v := ?_) rfl (by kernel_rfl) (by kernel_rfl) (by kernel_rfl) (fun _ _ _ h => h) (Or.inl ⟨by rfl, ?_⟩) hS ?_
  rotate_left
  · intro wz hz; go_simp; try with_reducible rfl
  try simp only [Act.put, List.setIfInBounds_toArray, List.set_cons_zero, List.set_cons_succ, List.getElem_toArray, List.getElem_cons_succ, List.getElem_cons_zero]
  refine wpAnyH_take (i := 1) (v := ?_) rfl (by kernel_rfl) (by kernel_rfl) (by kernel_rfl) (fun _ _ _ h => h) (Or.inl ⟨by rfl, ?_⟩) hS ?_
  rotate_left
  · intro wz hz; go_simp; try with_reducible rfl
  try simp only [Act.put, List.setIfInBounds_toArray, List.set_cons_zero, List.set_cons_succ, List.getElem_toArray, List.getElem_cons_succ, List.getElem_cons_zero]
  refine wpAnyH_take (i := 2) (v := ?_) rfl (by kernel_rfl) (by kernel_rfl) (by kernel_rfl) (fun _ _ _ h => h) (Or.inl ⟨by rfl, ?_⟩) hS ?_
  rotate_left
  · intro wz hz; go_simp; try with_reducible rfl
  try simp only [Act.put, List.setIfInBounds_toArray, List.set_cons_zero, List.set_cons_succ, List.getElem_toArray, List.getElem_cons_succ, List.getElem_cons_zero]
  refine wpAnyH_take (i := 3) (v := ?_) rfl (by kernel_rfl) (by kernel_rfl) (by kernel_rfl) (fun _ _ _ h => h) (Or.inl ⟨by rfl, ?_⟩) hS ?_
  rotate_left
  · intro wz hz; have yy0 := G0.out wz hz; have yy1 := G3.out wz hz; go_simp; try with_reducible rfl
  try simp only [Act.put, List.setIfInBounds_toArray, List.set_cons_zero, List.set_cons_succ, List.getElem_toArray, List.getElem_cons_succ, List.getElem_cons_zero]
  refine wpAnyH_take (i := 4) (v := ?_) rfl (by kernel_rfl) (by kernel_rfl) (by kernel_rfl) (fun _ _ _ h => h) (Or.inl ⟨by rfl, ?_⟩) hS ?_
  rotate_left
  · intro wz hz; go_simp; try with_reducible rfl
  try simp only [Act.put, List.setIfInBounds_toArray, List.set_cons_zero, List.set_cons_succ, List.getElem_toArray, List.getElem_cons_succ, List.getElem_cons_zero]
  refine wpAnyH_take (i := 5) (v := ?_) rfl (by kernel_rfl) (by kernel_rfl) (by kernel_rfl) (fun _ _ _ h => h) (Or.inl ⟨by rfl, ?_⟩) hS ?_
  rotate_left
  · intro wz hz; go_simp; try with_reducible rfl
  try simp only [Act.put, List.setIfInBounds_toArray, List.set_cons_zero, List.set_cons_succ, List.getElem_toArray, List.getElem_cons_succ, List.getElem_cons_zero]
  refine wpAnyH_take (i := 6) (v := ?_) rfl (by kernel_rfl) (by kernel_rfl) (by kernel_rfl) (fun _ _ _ h => h) (Or.inl ⟨by rfl, ?_⟩) hS ?_
  rotate_left
  · intro wz hz; go_simp; try with_reducible rfl
  try simp only [Act.put, List.setIfInBounds_toArray, List.set_cons_zero, List.set_cons_succ, List.getElem_toArray, List.getElem_cons_succ, List.getElem_cons_zero]
  refine wpAnyH_take (i := 7) (v := ?_) rfl (by kernel_rfl) (by kernel_rfl) (by kernel_rfl) (fun _ _ _ h => h) (Or.inl ⟨by rfl, ?_⟩) hS ?_
  rotate_left
  · intro wz hz; have yy0 := G0.out wz hz; have yy1 := G3.out wz hz; go_simp; try with_reducible rfl
  try simp only [Act.put, List.setIfInBounds_toArray, List.set_cons_zero, List.set_cons_succ, List.getElem_toArray, List.getElem_cons_succ, List.getElem_cons_zero]
  refine wpAnyH_take (i := 8) (v := ?_) rfl (by kernel_rfl) (by kernel_rfl) (by kernel_rfl) (fun _ _ _ h => h) (Or.inl ⟨by rfl, ?_⟩) hS ?_
  rotate_left
  · intro wz hz; go_simp; try with_reducible rfl
  try simp only [Act.put, List.setIfInBounds_toArray, List.set_cons_zero, List.set_cons_succ, List.getElem_toArray, List.getElem_cons_succ, List.getElem_cons_zero]
  refine wpAnyH_take (i := 9) (v := ?_) rfl (by kernel_rfl) (by kernel_rfl) (by kernel_rfl) (fun _ _ _ h => h) (Or.inl ⟨by rfl, ?_⟩) hS ?_
  rotate_left
  · intro wz hz; go_simp; try with_reducible rfl
  try simp only [Act.put, List.setIfInBounds_toArray, List.set_cons_zero, List.set_cons_succ, List.getElem_toArray, List.getElem_cons_succ, List.getElem_cons_zero]
  refine wpAnyH_ready (rs := [10, 14]) (by kernel_rfl) (by simp) (AllReadyH.cons rfl (fun K hK => ?a1_10) (AllReadyH.cons rfl (fun K hK => ?a1_14) AllReadyH.nil))
  case' a1_10 =>
    go_simp
    refine (NQ.out wc0).mono ?_
    rintro e wc1 ⟨rfl, hb⟩
    refine hK.out _ _ (bl_on hS hb) (fun hSn => ?_)
    clear hK K hS
    have hS := hSn
    clear hSn
    try simp only [Act.put, List.setIfInBounds_toArray, List.set_cons_zero, List.set_cons_succ, List.getElem_toArray, List.getElem_cons_succ, List.getElem_cons_zero]
    clear hb
    refine wpAnyH_take (i := 11) (v := ?_) rfl (by kernel_rfl) (by kernel_rfl) (by kernel_rfl) (fun _ _ _ h => h) (Or.inl ⟨by rfl, ?_⟩) hS ?_
    rotate_left
    · intro wz hz; go_simp; try with_reducible rfl
    try simp only [Act.put, List.setIfInBounds_toArray, List.set_cons_zero, List.set_cons_succ, List.getElem_toArray, List.getElem_cons_succ, List.getElem_cons_zero]
    refine wpAnyH_take (i := 12) (v := ?_) rfl (by kernel_rfl) (by kernel_rfl) (by kernel_rfl) (fun _ _ _ h => h) (Or.inl ⟨by rfl, ?_⟩) hS ?_
    rotate_left
    · intro wz hz; go_simp; try with_reducible rfl
    try simp only [Act.put, List.setIfInBounds_toArray, List.set_cons_zero, List.set_cons_succ, List.getElem_toArray, List.getElem_cons_succ, List.getElem_cons_zero]
    refine wpAnyH_take (i := 13) (v := ?_) rfl (by kernel_rfl) (by kernel_rfl) (by kernel_rfl) (fun _ _ _ h => h) (Or.inl ⟨by rfl, ?_⟩) hS ?_
    rotate_left
    · intro wz hz; go_simp; try with_reducible rfl
    try simp only [Act.put, List.setIfInBounds_toArray, List.set_cons_zero, List.set_cons_succ, List.getElem_toArray, List.getElem_cons_succ, List.getElem_cons_zero]
    refine wpAnyH_ready (rs := [14]) (by kernel_rfl) (by simp) (AllReadyH.cons rfl (fun K hK => ?a2_14) AllReadyH.nil)
    case' a2_14 =>
      go_simp
      have A4 : Hid (Arr (wc1.alloc (.cells #[.int .i64 0, .int .i64 0, .int .i64 0] 98)) wc1.heap.size 98 [.int .i64 0, .int .i64 0, .int .i64 0]) := ⟨heap_alloc_at _ _⟩
      have hbn : Below wc1.heap.size wc1 (wc1.alloc (.cells #[.int .i64 0, .int .i64 0, .int .i64 0] 98)) := bl_alloc (Below.refl _ _) _
      have hSn := bl_on hS hbn
      generalize hwn : wc1.alloc (.cells #[.int .i64 0, .int .i64 0, .int .i64 0] 98) = wc2 at A4 hSn  ⊢
      have qA4 : w.heap.size ≤ wc1.heap.size := hS.size
      generalize hpA4 : wc1.heap.size = pA4 at A4 qA4  ⊢
      clear hbn hwn hpA4
      refine hK.out _ _ (hSn) (fun hSn => ?_)
      clear hK K hS
      have hS := hSn
      clear hSn
      try simp only [Act.put, List.setIfInBounds_toArray, List.set_cons_zero, List.set_cons_succ, List.getElem_toArray, List.getElem_cons_succ, List.getElem_cons_zero]
      refine wpAnyH_ready (rs := [15]) (by kernel_rfl) (by simp) (AllReadyH.cons rfl (fun K hK => ?a3_15) AllReadyH.nil)
      case' a3_15 =>
        go_simp
        have cc := A4.out.cell
        have cf := A4.out.frozen
        go_simp
        have A4 := hid (((A4.out.set 0 (.int .i64 p1)).set 1 (.int .i64 p2)).set 2 (.int .i64 p3))
        simp only [List.set_cons_zero, List.set_cons_succ] at A4
        have hSn : Below w.heap.size w (((wc2.setCell ⟨pA4, 0, none⟩ (.int .i64 p1)).setCell ⟨pA4, 1, none⟩ (.int .i64 p2)).setCell ⟨pA4, 2, none⟩ (.int .i64 p3)) := (bl_put (bl_put (bl_put hS (p := ⟨pA4, 0, none⟩) (.int .i64 p1) qA4) (p := ⟨pA4, 1, none⟩) (.int .i64 p2) qA4) (p := ⟨pA4, 2, none⟩) (.int .i64 p3) qA4)
        generalize (((wc2.setCell ⟨pA4, 0, none⟩ (.int .i64 p1)).setCell ⟨pA4, 1, none⟩ (.int .i64 p2)).setCell ⟨pA4, 2, none⟩ (.int .i64 p3)) = wc3 at A4 hSn  ⊢
        clear cc cf
        refine hK.out _ _ (hSn) (fun hSn => ?_)
        clear hK K hS
        have hS := hSn
        clear hSn
        try simp only [Act.put, List.setIfInBounds_toArray, List.set_cons_zero, List.set_cons_succ, List.getElem_toArray, List.getElem_cons_succ, List.getElem_cons_zero]
        refine wpAnyH_take (i := 16) (v := ?_) rfl (by kernel_rfl) (by kernel_rfl) (by kernel_rfl) (fun _ _ _ h => h) (Or.inl ⟨by rfl, ?_⟩) hS ?_
        rotate_left
        · intro wz hz; go_simp; try with_reducible rfl
        try simp only [Act.put, List.setIfInBounds_toArray, List.set_cons_zero, List.set_cons_succ, List.getElem_toArray, List.getElem_cons_succ, List.getElem_cons_zero]
        refine wpAnyH_done (by kernel_rfl) ?_ _
  case' a1_14 =>
    go_simp
    have A4 : Hid (Arr (wc0.alloc (.cells #[.int .i64 0, .int .i64 0, .int .i64 0] 98)) wc0.heap.size 98 [.int .i64 0, .int .i64 0, .int .i64 0]) := ⟨heap_alloc_at _ _⟩
    have hbn : Below wc0.heap.size wc0 (wc0.alloc (.cells #[.int .i64 0, .int .i64 0, .int .i64 0] 98)) := bl_alloc (Below.refl _ _) _
    have hSn := bl_on hS hbn
    generalize hwn : wc0.alloc (.cells #[.int .i64 0, .int .i64 0, .int .i64 0] 98) = wc1 at A4 hSn  ⊢
    have qA4 : w.heap.size ≤ wc0.heap.size := hS.size
    generalize hpA4 : wc0.heap.size = pA4 at A4 qA4  ⊢
    clear hbn hwn hpA4
    refine hK.out _ _ (hSn) (fun hSn => ?_)
    clear hK K hS
    have hS := hSn
    clear hSn
    try simp only [Act.put, List.setIfInBounds_toArray, List.set_cons_zero, List.set_cons_succ, List.getElem_toArray, List.getElem_cons_succ, List.getElem_cons_zero]
    refine wpAnyH_ready (rs := [10]) (by kernel_rfl) (by simp) (AllReadyH.cons rfl (fun K hK => ?a4_10) AllReadyH.nil)
    case' a4_10 =>
      go_simp
      refine (NQ.out wc1).mono ?_
      rintro e wc2 ⟨rfl, hb⟩
      have A4 := hid (A4.out.stays hb)
      refine hK.out _ _ (bl_on hS hb) (fun hSn => ?_)
      clear hK K hS
      have hS := hSn
      clear hSn
      try simp only [Act.put, List.setIfInBounds_toArray, List.set_cons_zero, List.set_cons_succ, List.getElem_toArray, List.getElem_cons_succ, List.getElem_cons_zero]
      clear hb
      refine wpAnyH_take (i := 11) (v := ?_) rfl (by kernel_rfl) (by kernel_rfl) (by kernel_rfl) (fun _ _ _ h => h) (Or.inl ⟨by rfl, ?_⟩) hS ?_
      rotate_left
      · intro wz hz; go_simp; try with_reducible rfl
      try simp only [Act.put, List.setIfInBounds_toArray, List.set_cons_zero, List.set_cons_succ, List.getElem_toArray, List.getElem_cons_succ, List.getElem_cons_zero]
      refine wpAnyH_take (i := 12) (v := ?_) rfl (by kernel_rfl) (by kernel_rfl) (by kernel_rfl) (fun _ _ _ h => h) (Or.inl ⟨by rfl, ?_⟩) hS ?_
      rotate_left
      · intro wz hz; go_simp; try with_reducible rfl
      try simp only [Act.put, List.setIfInBounds_toArray, List.set_cons_zero, List.set_cons_succ, List.getElem_toArray, List.getElem_cons_succ, List.getElem_cons_zero]
      refine wpAnyH_take (i := 13) (v := ?_) rfl (by kernel_rfl) (by kernel_rfl) (by kernel_rfl) (fun _ _ _ h => h) (Or.inl ⟨by rfl, ?_⟩) hS ?_
      rotate_left
      · intro wz hz; go_simp; try with_reducible rfl
      try simp only [Act.put, List.setIfInBounds_toArray, List.set_cons_zero, List.set_cons_succ, List.getElem_toArray, List.getElem_cons_succ, List.getElem_cons_zero]
      refine wpAnyH_ready (rs := [15]) (by kernel_rfl) (by simp) (AllReadyH.cons rfl (fun K hK => ?a5_15) AllReadyH.nil)
      case' a5_15 =>
        go_simp
        have cc := A4.out.cell
        have cf := A4.out.frozen
        go_simp
        have A4 := hid (((A4.out.set 0 (.int .i64 p1)).set 1 (.int .i64 p2)).set 2 (.int .i64 p3))
        simp only [List.set_cons_zero, List.set_cons_succ] at A4
        have hSn : Below w.heap.size w (((wc2.setCell ⟨pA4, 0, none⟩ (.int .i64 p1)).setCell ⟨pA4, 1, none⟩ (.int .i64 p2)).setCell ⟨pA4, 2, none⟩ (.int .i64 p3)) := (bl_put (bl_put (bl_put hS (p := ⟨pA4, 0, none⟩) (.int .i64 p1) qA4) (p := ⟨pA4, 1, none⟩) (.int .i64 p2) qA4) (p := ⟨pA4, 2, none⟩) (.int .i64 p3) qA4)
        generalize (((wc2.setCell ⟨pA4, 0, none⟩ (.int .i64 p1)).setCell ⟨pA4, 1, none⟩ (.int .i64 p2)).setCell ⟨pA4, 2, none⟩ (.int .i64 p3)) = wc3 at A4 hSn  ⊢
        clear cc cf
        refine hK.out _ _ (hSn) (fun hSn => ?_)
        clear hK K hS
        have hS := hSn
        clear hSn
        try simp only [Act.put, List.setIfInBounds_toArray, List.set_cons_zero, List.set_cons_succ, List.getElem_toArray, List.getElem_cons_succ, List.getElem_cons_zero]
        refine wpAnyH_take (i := 16) (v := ?_) rfl (by kernel_rfl) (by kernel_rfl) (by kernel_rfl) (fun _ _ _ h => h) (Or.inl ⟨by rfl, ?_⟩) hS ?_
        rotate_left
        · intro wz hz; go_simp; try with_reducible rfl
        try simp only [Act.put, List.setIfInBounds_toArray, List.set_cons_zero, List.set_cons_succ, List.getElem_toArray, List.getElem_cons_succ, List.getElem_cons_zero]
        refine wpAnyH_done (by kernel_rfl) ?_ _
  all_goals (
    obtain ⟨z0, z2, z3⟩ := G.out _ hS
    have x4 := A4.out.cell
    have BF := hid hS
    clear G G0 G3 hS NQ qA4 A4
    cases ok with
    | false =>
      simp only [Bool.false_and] at HR
      go_wp2_with fail
      go_quiet (fail)
      go_wp2
      go_ret
      exact ⟨ret_bool HR.out.symm, bl_dN BF.out _⟩
    | true =>
      simp only [Bool.true_and] at HR
      cases h3 : (p3 == (t.ks.length : Int)) with
      | false =>
        rw [h3] at HR
        simp only [Bool.false_and] at HR
        go_wp2_with fail
        go_quiet (fail)
        go_wp2
        go_ret
        exact ⟨ret_bool HR.out.symm, bl_dN BF.out _⟩
      | true =>
        rw [h3] at HR
        simp only [Bool.true_and] at HR
        cases h7 : (t.k != 7) with
        | true =>
          rw [h7] at HR
          simp only [Bool.true_or] at HR
          go_wp2_with fail
          go_quiet (fail)
          go_wp2
          go_ret
          exact ⟨ret_bool HR.out.symm, bl_dN BF.out _⟩
        | false =>
          rw [h7] at HR
          simp only [Bool.false_or] at HR
          go_wp2_with fail
          go_quiet (fail)
          go_wp2
          go_ret
          exact ⟨ret_bool HR.out.symm, bl_dN BF.out _⟩)

set_option maxHeartbeats 1000000 in
set_option maxRecDepth 100000 in
theorem numbered_any (M : Nat) (own : Nat → Prop) (e : List (Int × Int)) (l : List UInt8) (n : Nat) (c : UInt8) (x : Int) (hx : R64 x) (w : World) (h : Tx M w own e l n) (hl : l.length + 22 ≤ 140737488355328) : Calls Tryz.prog 80 #[.pointer (some ⟨M, 0, none⟩), .int .u8 c.toNat, .int .i64 x] w (Wrote M own e (l ++ ([c] ++ Lib.itoa x)) n w (.tuple #[])) := by
  have hi := itoa_len hx
  have q1 := hid (wb M own e l n c w h (by omega))
  have q2 : Hid (∀ own2 w2, Tx M w2 own2 e (l ++ [c]) n → Calls Tryz.prog 114 #[.int .i64 x] w2 fun r w' => r = .returned (.string ⟨(Lib.itoa x).toArray⟩) ∧ Below w2.heap.size w2 w') := fun own2 w2 h2 => itoa_any x hx w2 h2.tabOf
  have q3 : Hid (∀ own2 w3, Tx M w3 own2 e (l ++ [c]) n → Calls Tryz.prog 63 #[.pointer (some ⟨M, 0, none⟩), .string ⟨(Lib.itoa x).toArray⟩] w3 (Wrote M own2 e (l ++ [c] ++ Lib.itoa x) n w3 (.tuple #[.int .i64 (⟨(Lib.itoa x).toArray⟩ : ByteArray).size, .nilIface]))) := fun own2 w3 h3 => ws M own2 e (l ++ [c]) n ⟨(Lib.itoa x).toArray⟩ w3 h3 (by rw [size_bytes, List.length_append]; simp; omega)
  clear hi hl hx h
  generalize (⟨(Lib.itoa x).toArray⟩ : ByteArray) = txt at q2 q3
  go_enter Tryz.func80, Tryz.ntmps80
  go_wp2_with (first | (go_at_call 62; refine q1.out.mono ?_; rintro r w2 ⟨rfl, own2, h2, e2⟩; clear q1))
  have h2' : Tx M w2.drew own2 e (l ++ [c]) n := h2.stays (Below.refl _ _).drew
  go_region_with (first | (go_at_call 114; refine (q2.out _ _ h2').mono ?_; rintro r w3 ⟨rfl, hb3⟩) | (go_at_call 63; refine (q3.out _ _ (h2'.stays hb3)).mono ?_; rintro r w4 ⟨rfl, own4, h4, e4⟩))
  all_goals go_wp2
  all_goals go_end0
  all_goals exact ⟨rfl, own4, by simpa using h4, (e2.trans (Ev.of_below (bl_tr (Below.refl _ _).drew hb3))).trans e4⟩
theorem findT (M : Nat) (own : Nat → Prop) (e : List (Int × Int)) (l : List UInt8) (n : Nat) (x : Int) (hx : R64 x) (w : World) (h : Tx M w own e l n) : Calls Tryz.prog 102 #[.pointer (some ⟨M, 2, none⟩), .int .i64 x] w fun r w' => r = .returned (.tuple #[.int .i64 ((lk e x).getD 0), .bool (lk e x).isSome]) ∧ w' = w := by
  obtain ⟨vs, mv, lv, h1, -⟩ := h.walk
  exact find_any w M (0 + 2) (M + 1) WT vs mv lv e n x hx h1.arr h1.m h1.scp
theorem Tx.good {M : Nat} {w : World} {own : Nat → Prop} {e : List (Int × Int)} {l : List UInt8} {n : Nat} (h : Tx M w own e l n) : ∀ p ∈ e, R64 p.1 ∧ R64 p.2 := by
  obtain ⟨vs, mv, lv, h1, -⟩ := h.walk
  exact h1.scp.good

set_option maxHeartbeats 1000000 in
set_option maxRecDepth 100000 in
theorem variable_any (M : Nat) (own : Nat → Prop) (e : List (Int × Int)) (l : List UInt8) (n : Nat) (x : Int) (hx : R64 x) (w : World) (h : Tx M w own e l n) (hl : l.length + 22 ≤ 140737488355328) : Calls Tryz.prog 65 #[.pointer (some ⟨M, 0, none⟩), .int .i64 x] w (Wrote M own e (l ++ Tt.varT e x) n w (.tuple #[])) := by
  have FQ := hid (findT M own e l n x hx w h)
  have HV : Hid (Tt.varT e x = match lk e x with
    | some j => [116] ++ Lib.itoa j
    | none => [35] ++ Lib.itoa x) := rfl
  generalize Tt.varT e x = res at HV ⊢
  cases hlk : lk e x with
  | some j =>
    rw [hlk] at FQ HV
    have hj := (h.good _ (lk_mem hlk)).2
    have q1 := hid (numbered_any M own e l n 116 j hj w h hl)
    clear hlk h hx hl
    go_enter Tryz.func65, Tryz.ntmps65
    go_wp2_with (first | (go_at_call 102; refine (FQ.out).mono ?_; rintro r w3 ⟨rfl, hw⟩; rw [hw]; clear hw w3 FQ) | (go_at_call 80; refine (q1.out).mono ?_; rintro r w2 ⟨rfl, h2⟩; clear q1))
    go_end0
    exact ⟨rfl, by rw [HV.out]; exact h2⟩
  | none =>
    rw [hlk] at FQ HV
    have q1 := hid (numbered_any M own e l n 35 x hx w h hl)
    clear hlk h hx hl
    go_enter Tryz.func65, Tryz.ntmps65
    go_wp2_with (first | (go_at_call 102; refine (FQ.out).mono ?_; rintro r w3 ⟨rfl, hw⟩; rw [hw]; clear hw w3 FQ) | (go_at_call 80; refine (q1.out).mono ?_; rintro r w2 ⟨rfl, h2⟩; clear q1))
    go_end0
    exact ⟨rfl, by rw [HV.out]; exact h2⟩

set_option maxHeartbeats 1000000 in
set_option maxRecDepth 100000 in
theorem between_any (M : Nat) (own : Nat → Prop) (e : List (Int × Int)) (l : List UInt8) (n : Nat) (i : Nat) (s : ByteArray) (w : World) (h : Tx M w own e l n) (hl : l.length + s.size ≤ 140737488355328) : Calls Tryz.prog 105 #[.pointer (some ⟨M, 0, none⟩), .int .i64 i, .string s] w (Wrote M own e (l ++ (if 0 < i then s.data.toList else [])) n w (.tuple #[])) := by
  by_cases hi : 0 < i
  · rw [if_pos hi]
    have q1 := hid (ws M own e l n s w h hl)
    have hi2 : (i : Int) > 0 := by omega
    clear h hl hi
    go_enter Tryz.func105, Tryz.ntmps105
    go_wp2_with (first | (go_at_call 63; refine (q1.out).mono ?_; rintro r w2 ⟨rfl, h2⟩; clear q1))
    go_end0
    exact ⟨rfl, h2⟩
  · rw [if_neg hi, List.append_nil]
    obtain rfl : i = 0 := by omega
    have H := hid h
    clear h hl hi
    go_enter Tryz.func105, Tryz.ntmps105
    go_wp2
    go_end0
    exact ⟨rfl, own, H.out, Ev.refl _ _⟩
end Go.Proofs.YtfeppchgmobfpaaGreatDoor
