/- Which types are right. -/
import Derived.Test.YtfeppchgmobfpaaGreatDoorTgS
namespace Go.Proofs.YtfeppchgmobfpaaGreatDoor
open Go.RowKit
set_option linter.unusedVariables false
set_option linter.unusedSimpArgs false

/-- Has the node what its kind names? -/
def Tt.own (k n : Int) (l c : Nat) : Bool := (Tt.near k n c).2 && (n == (Tt.near k n c).1.1 && ((l : Int) == (Tt.near k n c).1.2.1 && (c : Int) == (Tt.near k n c).1.2.2))
mutual
def Tt.right : Tt → Bool
  | .mk k n ls ks => Tt.own k n ls.length ks.length && (Tt.rise ls && Tt.rightL ks)
def Tt.rightL : List Tt → Bool
  | [] => true
  | x :: r => Tt.right x && Tt.rightL r
end
theorem Tt.right_mk (t : Tt) : t.right = (Tt.own t.k t.n t.ls.length t.ks.length && (Tt.rise t.ls && Tt.rightL t.ks)) := by cases t; rw [Tt.right]; rfl
theorem Tt.rightL_drop {l : List Tt} {k : Nat} {x : Tt} (hx : l[k]? = some x) : Tt.rightL (l.drop k) = (x.right && Tt.rightL (l.drop (k + 1))) := by
  rw [Tt.drop_at hx, Tt.rightL]
def RightOf (n : Nat) : Prop := ∀ (w : World) (b o : Nat) (t : Tt), PAt w Any n b o t →
  Calls Tryz.prog 24 #[.pointer (some ⟨b, o, none⟩)] w fun e w' => e = .returned (.bool t.right) ∧ Below w.heap.size w w'
def RightsOf (n : Nat) : Prop := ∀ (w : World) (v : Value) (l : List Tt), TAtL w Any n v l →
  Calls Tryz.prog 48 #[v] w fun e w' => e = .returned (.bool (Tt.rightL l)) ∧ Below w.heap.size w w'

set_option maxHeartbeats 1000000 in
set_option maxRecDepth 100000 in
theorem rights_step (n : Nat) (ih : RightOf n) : RightsOf n := by
  intro w v l hL
  obtain ⟨a, c, rfl, hm⟩ := hL.form
  unfold maxLen at hm
  have HL : Hid (TAtL w Any n (.slice a l.length c) l) := hL
  clear hL
  go_enter Tryz.func48, Tryz.ntmps48
  go_wp2
  go_loopw [6] (fun v wr => ∃ k : Nat, v = .int .i64 k ∧ k ≤ l.length ∧ Hid (Tt.rightL l = Tt.rightL (l.drop k)) ∧ Below w.heap.size w wr) (fun v _ => l.length - (intOf v).toNat)
  case atStart => exact ⟨0, rfl, Nat.zero_le _, rfl, Below.refl _ _⟩
  case round =>
    obtain ⟨k, rfl, hkl, hH, hB⟩ := hrel
    by_cases hlt : k < l.length
    · obtain ⟨x, hxk⟩ : ∃ x, l[k]? = some x := ⟨_, List.getElem?_eq_getElem hlt⟩
      obtain ⟨b, o, rfl, hP⟩ := (HL.out.below hB).elem hxk
      have HX : Hid (Tt.rightL l = (x.right && Tt.rightL (l.drop (k + 1)))) := hH.out.trans (Tt.rightL_drop hxk)
      have HQ : Hid (Calls Tryz.prog 24 #[.pointer (some ⟨b, o + k * 4, none⟩)] wr fun e w' => e = .returned (.bool x.right) ∧ Below wr.heap.size wr w') := ih wr b _ x hP
      have HB : Hid (Below w.heap.size w wr) := hB
      clear hP hH hB
      cases hr : x.right with
      | true =>
        rw [hr] at HQ HX
        rw [Bool.true_and] at HX
        go_wp2_with (go_at_call 24; refine (HQ.out).mono ?_; rintro e w3 ⟨rfl, hb3⟩)
        go_roundw
        case rel => exact ⟨k + 1, by go_num, by omega, HX, bl_tr HB.out hb3⟩
        case measure => simp [intOf]; omega
      | false =>
        rw [hr] at HQ HX
        rw [Bool.false_and] at HX
        go_wp2_with (go_at_call 24; refine (HQ.out).mono ?_; rintro e w3 ⟨rfl, hb3⟩)
        go_ret
        exact ⟨ret_bool HX.out.symm, bl_tr HB.out hb3⟩
    · have HX : Hid (Tt.rightL l = true) := by
        show _ = _
        rw [hH.out, List.drop_eq_nil_of_le (by omega), Tt.rightL]
      clear hH HL
      go_wp2
      go_ret
      exact ⟨ret_bool HX.out.symm, hB⟩

set_option maxHeartbeats 1000000 in
set_option maxRecDepth 100000 in
theorem right_step (n : Nat) (ih : RightsOf n) : RightOf (n + 1) := by
  intro w b o t hP
  obtain ⟨a', c', a, c, e0, e1, e2, e3, hk, hn, hS, hL⟩ := hP.cells
  have HR : Hid (t.right = (Tt.own t.k t.n t.ls.length t.ks.length && (Tt.rise t.ls && Tt.rightL t.ks))) := Tt.right_mk t
  have HIH : Hid _ := ih
  have hbl := hP.lt
  have f1 : ∀ ob, (w.alloc ob).cell? ⟨b, o + 1, none⟩ = some (.int .i64 t.n) := fun ob => ((bl_alloc (Below.refl _ _) ob).cell hbl).trans e1
  have f2 : ∀ ob, (w.alloc ob).cell? ⟨b, o + 2, none⟩ = some (.slice a' t.ls.length c') := fun ob => ((bl_alloc (Below.refl _ _) ob).cell hbl).trans e2
  have f3 : ∀ ob, (w.alloc ob).cell? ⟨b, o + 3, none⟩ = some (.slice a t.ks.length c) := fun ob => ((bl_alloc (Below.refl _ _) ob).cell hbl).trans e3
  have HP : Hid _ := hP
  have HS : Hid _ := hS
  have HL : Hid _ := hL
  clear hP hS hL ih
  go_enter Tryz.func24, Tryz.ntmps24
  go_wp2_with fail
  go_region
  have B1 : Hid (Below w.heap.size w ((w.alloc (.cells #[.int .i64 t.n, .int .i64 t.ls.length, .int .i64 t.ks.length] 98)).drew)) := (bl_alloc (Below.refl _ _) _).drew
  have X1 : Hid (Arr ((w.alloc (.cells #[.int .i64 t.n, .int .i64 t.ls.length, .int .i64 t.ks.length] 98)).drew) w.heap.size 98 [.int .i64 t.n, .int .i64 t.ls.length, .int .i64 t.ks.length]) := Arr.stays ⟨heap_alloc_at _ _⟩ (Below.refl _ _).drew
  generalize ((w.alloc (.cells #[.int .i64 t.n, .int .i64 t.ls.length, .int .i64 t.ks.length] 98)).drew) = W1 at B1 X1 ⊢
  have g0 : ∀ wz, Below W1.heap.size W1 wz → wz.cell? ⟨b, o, none⟩ = some (.int .i64 t.k) := fun wz hz => ((bl_tr B1.out hz).cell hbl).trans e0
  have G2 : Hid (∀ wz, Below W1.heap.size W1 wz → wz.cell? ⟨b, o + 2, none⟩ = some (.slice a' t.ls.length c')) := fun wz hz => ((bl_tr B1.out hz).cell hbl).trans e2
  have G3 : Hid (∀ wz, Below W1.heap.size W1 wz → wz.cell? ⟨b, o + 3, none⟩ = some (.slice a t.ks.length c)) := fun wz hz => ((bl_tr B1.out hz).cell hbl).trans e3
  have G0 : Hid _ := g0
  have X1c : Hid (∀ wz, Below W1.heap.size W1 wz → ∀ j, wz.cell? ⟨w.heap.size, j, none⟩ = _) := fun wz hz => (X1.out.stays hz).cell
  have NQ : Hid (∀ wz, Calls Tryz.prog 46 #[.int .i64 t.k, .agg #[.int .i64 t.n, .int .i64 t.ls.length, .int .i64 t.ks.length]] wz fun e w' => e = .returned (.tuple #[shp (Tt.near t.k t.n t.ks.length).1, .bool (Tt.near t.k t.n t.ks.length).2]) ∧ Below wz.heap.size wz w') := fun wz => near_any wz _ _ _ _
  unfold Tt.own at HR
  generalize hq : Tt.near t.k t.n t.ks.length = q at NQ HR
  obtain ⟨⟨p1, p2, p3⟩, ok⟩ := q
  simp only [shp] at NQ HR
  clear e0 e1 e2 e3 f1 f2 f3 hk hn g0 hq
  go_wp2_with fail
  refine wp_region_held_drew (S := fun wz => Below W1.heap.size W1 wz) (by kernel_rfl) ((Below.refl _ _).drew) (fun hS => ?_)
  generalize W1.drew = wc0 at hS ⊢
  refine wpAnyH_take (i := 0) (v := ?_) rfl (by kernel_rfl) (by kernel_rfl) (by kernel_rfl) (fun _ _ _ h => h) (Or.inl ⟨by rfl, ?_⟩) hS ?_
  rotate_left
  · intro wz hz; go_simp; try with_reducible rfl
  try simp only [Act.put, List.setIfInBounds_toArray, List.set_cons_zero, List.set_cons_succ, List.getElem_toArray, List.getElem_cons_succ, List.getElem_cons_zero]
  refine wpAnyH_take (i := 1) (v := ?_) rfl (by kernel_rfl) (by kernel_rfl) (by kernel_rfl) (fun _ _ _ h => h) (Or.inl ⟨by rfl, ?_⟩) hS ?_
  rotate_left
  · intro wz hz; go_simp; try with_reducible rfl
  try simp only [Act.put, List.setIfInBounds_toArray, List.set_cons_zero, List.set_cons_succ, List.getElem_toArray, List.getElem_cons_succ, List.getElem_cons_zero]
  refine wpAnyH_take (i := 2) (v := ?_) rfl (by kernel_rfl) (by kernel_rfl) (by kernel_rfl) (fun _ _ _ h => h) (Or.inl ⟨by rfl, ?_⟩) hS ?_
  rotate_left
  · intro wz hz; go_simp; try with_reducible rfl
  try simp only [Act.put, List.setIfInBounds_toArray, List.set_cons_zero, List.set_cons_succ, List.getElem_toArray, List.getElem_cons_succ, List.getElem_cons_zero]
  refine wpAnyH_take (i := 3) (v := ?_) rfl (by kernel_rfl) (by kernel_rfl) (by kernel_rfl) (fun _ _ _ h => h) (Or.inl ⟨by rfl, ?_⟩) hS ?_
  rotate_left
  · intro wz hz; have yy0 := G0.out wz hz; have yy1 := X1c.out wz hz; go_simp; try with_reducible rfl
  try simp only [Act.put, List.setIfInBounds_toArray, List.set_cons_zero, List.set_cons_succ, List.getElem_toArray, List.getElem_cons_succ, List.getElem_cons_zero]
  refine wpAnyH_take (i := 4) (v := ?_) rfl (by kernel_rfl) (by kernel_rfl) (by kernel_rfl) (fun _ _ _ h => h) (Or.inl ⟨by rfl, ?_⟩) hS ?_
  rotate_left
  · intro wz hz; have yy0 := G0.out wz hz; have yy1 := X1c.out wz hz; go_simp; try with_reducible rfl
  try simp only [Act.put, List.setIfInBounds_toArray, List.set_cons_zero, List.set_cons_succ, List.getElem_toArray, List.getElem_cons_succ, List.getElem_cons_zero]
  refine wpAnyH_ready (rs := [5, 9]) (by kernel_rfl) (by simp) (AllReadyH.cons rfl (fun K hK => ?a1_5) (AllReadyH.cons rfl (fun K hK => ?a1_9) AllReadyH.nil))
  case' a1_5 =>
    go_simp
    refine (NQ.out wc0).mono ?_
    rintro e wc1 ⟨rfl, hb⟩
    refine hK.out _ _ (bl_on hS hb) (fun hSn => ?_)
    clear hK K hS
    have hS := hSn
    clear hSn
    try simp only [Act.put, List.setIfInBounds_toArray, List.set_cons_zero, List.set_cons_succ, List.getElem_toArray, List.getElem_cons_succ, List.getElem_cons_zero]
    clear hb
    refine wpAnyH_take (i := 6) (v := ?_) rfl (by kernel_rfl) (by kernel_rfl) (by kernel_rfl) (fun _ _ _ h => h) (Or.inl ⟨by rfl, ?_⟩) hS ?_
    rotate_left
    · intro wz hz; go_simp; try with_reducible rfl
    try simp only [Act.put, List.setIfInBounds_toArray, List.set_cons_zero, List.set_cons_succ, List.getElem_toArray, List.getElem_cons_succ, List.getElem_cons_zero]
    refine wpAnyH_take (i := 7) (v := ?_) rfl (by kernel_rfl) (by kernel_rfl) (by kernel_rfl) (fun _ _ _ h => h) (Or.inl ⟨by rfl, ?_⟩) hS ?_
    rotate_left
    · intro wz hz; go_simp; try with_reducible rfl
    try simp only [Act.put, List.setIfInBounds_toArray, List.set_cons_zero, List.set_cons_succ, List.getElem_toArray, List.getElem_cons_succ, List.getElem_cons_zero]
    refine wpAnyH_take (i := 8) (v := ?_) rfl (by kernel_rfl) (by kernel_rfl) (by kernel_rfl) (fun _ _ _ h => h) (Or.inl ⟨by rfl, ?_⟩) hS ?_
    rotate_left
    · intro wz hz; go_simp; try with_reducible rfl
    try simp only [Act.put, List.setIfInBounds_toArray, List.set_cons_zero, List.set_cons_succ, List.getElem_toArray, List.getElem_cons_succ, List.getElem_cons_zero]
    refine wpAnyH_ready (rs := [9]) (by kernel_rfl) (by simp) (AllReadyH.cons rfl (fun K hK => ?a2_9) AllReadyH.nil)
    case' a2_9 =>
      go_simp
      have A4 : Hid (Arr (wc1.alloc (.cells #[.int .i64 0, .int .i64 0, .int .i64 0] 98)) wc1.heap.size 98 [.int .i64 0, .int .i64 0, .int .i64 0]) := ⟨heap_alloc_at _ _⟩
      have hbn : Below wc1.heap.size wc1 (wc1.alloc (.cells #[.int .i64 0, .int .i64 0, .int .i64 0] 98)) := bl_alloc (Below.refl _ _) _
      have hSn := bl_on hS hbn
      generalize hwn : wc1.alloc (.cells #[.int .i64 0, .int .i64 0, .int .i64 0] 98) = wc2 at A4 hSn  ⊢
      have qA4 : W1.heap.size ≤ wc1.heap.size := hS.size
      generalize hpA4 : wc1.heap.size = pA4 at A4 qA4  ⊢
      clear hbn hwn hpA4
      refine hK.out _ _ (hSn) (fun hSn => ?_)
      clear hK K hS
      have hS := hSn
      clear hSn
      try simp only [Act.put, List.setIfInBounds_toArray, List.set_cons_zero, List.set_cons_succ, List.getElem_toArray, List.getElem_cons_succ, List.getElem_cons_zero]
      refine wpAnyH_ready (rs := [10]) (by kernel_rfl) (by simp) (AllReadyH.cons rfl (fun K hK => ?a3_10) AllReadyH.nil)
      case' a3_10 =>
        go_simp
        have cc := A4.out.cell
        have cf := A4.out.frozen
        go_simp
        have A4 := hid (((A4.out.set 0 (.int .i64 p1)).set 1 (.int .i64 p2)).set 2 (.int .i64 p3))
        simp only [List.set_cons_zero, List.set_cons_succ] at A4
        have hSn : Below W1.heap.size W1 (((wc2.setCell ⟨pA4, 0, none⟩ (.int .i64 p1)).setCell ⟨pA4, 1, none⟩ (.int .i64 p2)).setCell ⟨pA4, 2, none⟩ (.int .i64 p3)) := (bl_put (bl_put (bl_put hS (p := ⟨pA4, 0, none⟩) (.int .i64 p1) qA4) (p := ⟨pA4, 1, none⟩) (.int .i64 p2) qA4) (p := ⟨pA4, 2, none⟩) (.int .i64 p3) qA4)
        generalize (((wc2.setCell ⟨pA4, 0, none⟩ (.int .i64 p1)).setCell ⟨pA4, 1, none⟩ (.int .i64 p2)).setCell ⟨pA4, 2, none⟩ (.int .i64 p3)) = wc3 at A4 hSn  ⊢
        clear cc cf
        refine hK.out _ _ (hSn) (fun hSn => ?_)
        clear hK K hS
        have hS := hSn
        clear hSn
        try simp only [Act.put, List.setIfInBounds_toArray, List.set_cons_zero, List.set_cons_succ, List.getElem_toArray, List.getElem_cons_succ, List.getElem_cons_zero]
        refine wpAnyH_take (i := 11) (v := ?_) rfl (by kernel_rfl) (by kernel_rfl) (by kernel_rfl) (fun _ _ _ h => h) (Or.inl ⟨by rfl, ?_⟩) hS ?_
        rotate_left
        · intro wz hz; go_simp; try with_reducible rfl
        try simp only [Act.put, List.setIfInBounds_toArray, List.set_cons_zero, List.set_cons_succ, List.getElem_toArray, List.getElem_cons_succ, List.getElem_cons_zero]
        refine wpAnyH_done (by kernel_rfl) ?_ _
  case' a1_9 =>
    go_simp
    have A4 : Hid (Arr (wc0.alloc (.cells #[.int .i64 0, .int .i64 0, .int .i64 0] 98)) wc0.heap.size 98 [.int .i64 0, .int .i64 0, .int .i64 0]) := ⟨heap_alloc_at _ _⟩
    have hbn : Below wc0.heap.size wc0 (wc0.alloc (.cells #[.int .i64 0, .int .i64 0, .int .i64 0] 98)) := bl_alloc (Below.refl _ _) _
    have hSn := bl_on hS hbn
    generalize hwn : wc0.alloc (.cells #[.int .i64 0, .int .i64 0, .int .i64 0] 98) = wc1 at A4 hSn  ⊢
    have qA4 : W1.heap.size ≤ wc0.heap.size := hS.size
    generalize hpA4 : wc0.heap.size = pA4 at A4 qA4  ⊢
    clear hbn hwn hpA4
    refine hK.out _ _ (hSn) (fun hSn => ?_)
    clear hK K hS
    have hS := hSn
    clear hSn
    try simp only [Act.put, List.setIfInBounds_toArray, List.set_cons_zero, List.set_cons_succ, List.getElem_toArray, List.getElem_cons_succ, List.getElem_cons_zero]
    refine wpAnyH_ready (rs := [5]) (by kernel_rfl) (by simp) (AllReadyH.cons rfl (fun K hK => ?a4_5) AllReadyH.nil)
    case' a4_5 =>
      go_simp
      refine (NQ.out wc1).mono ?_
      rintro e wc2 ⟨rfl, hb⟩
      have A4 := hid (A4.out.stays hb)
      refine hK.out _ _ (bl_on hS hb) (fun hSn => ?_)
      clear hK K hS
      have hS := hSn
      clear hSn
      try simp only [Act.put, List.setIfInBounds_toArray, List.set_cons_zero, List.set_cons_succ, List.getElem_toArray, List.getElem_cons_succ, List.getElem_cons_zero]
      clear hb
      refine wpAnyH_take (i := 6) (v := ?_) rfl (by kernel_rfl) (by kernel_rfl) (by kernel_rfl) (fun _ _ _ h => h) (Or.inl ⟨by rfl, ?_⟩) hS ?_
      rotate_left
      · intro wz hz; go_simp; try with_reducible rfl
      try simp only [Act.put, List.setIfInBounds_toArray, List.set_cons_zero, List.set_cons_succ, List.getElem_toArray, List.getElem_cons_succ, List.getElem_cons_zero]
      refine wpAnyH_take (i := 7) (v := ?_) rfl (by kernel_rfl) (by kernel_rfl) (by kernel_rfl) (fun _ _ _ h => h) (Or.inl ⟨by rfl, ?_⟩) hS ?_
      rotate_left
      · intro wz hz; go_simp; try with_reducible rfl
      try simp only [Act.put, List.setIfInBounds_toArray, List.set_cons_zero, List.set_cons_succ, List.getElem_toArray, List.getElem_cons_succ, List.getElem_cons_zero]
      refine wpAnyH_take (i := 8) (v := ?_) rfl (by kernel_rfl) (by kernel_rfl) (by kernel_rfl) (fun _ _ _ h => h) (Or.inl ⟨by rfl, ?_⟩) hS ?_
      rotate_left
      · intro wz hz; go_simp; try with_reducible rfl
      try simp only [Act.put, List.setIfInBounds_toArray, List.set_cons_zero, List.set_cons_succ, List.getElem_toArray, List.getElem_cons_succ, List.getElem_cons_zero]
      refine wpAnyH_ready (rs := [10]) (by kernel_rfl) (by simp) (AllReadyH.cons rfl (fun K hK => ?a5_10) AllReadyH.nil)
      case' a5_10 =>
        go_simp
        have cc := A4.out.cell
        have cf := A4.out.frozen
        go_simp
        have A4 := hid (((A4.out.set 0 (.int .i64 p1)).set 1 (.int .i64 p2)).set 2 (.int .i64 p3))
        simp only [List.set_cons_zero, List.set_cons_succ] at A4
        have hSn : Below W1.heap.size W1 (((wc2.setCell ⟨pA4, 0, none⟩ (.int .i64 p1)).setCell ⟨pA4, 1, none⟩ (.int .i64 p2)).setCell ⟨pA4, 2, none⟩ (.int .i64 p3)) := (bl_put (bl_put (bl_put hS (p := ⟨pA4, 0, none⟩) (.int .i64 p1) qA4) (p := ⟨pA4, 1, none⟩) (.int .i64 p2) qA4) (p := ⟨pA4, 2, none⟩) (.int .i64 p3) qA4)
        generalize (((wc2.setCell ⟨pA4, 0, none⟩ (.int .i64 p1)).setCell ⟨pA4, 1, none⟩ (.int .i64 p2)).setCell ⟨pA4, 2, none⟩ (.int .i64 p3)) = wc3 at A4 hSn  ⊢
        clear cc cf
        refine hK.out _ _ (hSn) (fun hSn => ?_)
        clear hK K hS
        have hS := hSn
        clear hSn
        try simp only [Act.put, List.setIfInBounds_toArray, List.set_cons_zero, List.set_cons_succ, List.getElem_toArray, List.getElem_cons_succ, List.getElem_cons_zero]
        refine wpAnyH_take (i := 11) (v := ?_) rfl (by kernel_rfl) (by kernel_rfl) (by kernel_rfl) (fun _ _ _ h => h) (Or.inl ⟨by rfl, ?_⟩) hS ?_
        rotate_left
        · intro wz hz; go_simp; try with_reducible rfl
        try simp only [Act.put, List.setIfInBounds_toArray, List.set_cons_zero, List.set_cons_succ, List.getElem_toArray, List.getElem_cons_succ, List.getElem_cons_zero]
        refine wpAnyH_done (by kernel_rfl) ?_ _
  all_goals (
    have B3 : Hid (Below w.heap.size w wc3) := bl_tr B1.out hS
    have x1 := X1c.out wc3 hS
    have x4 := A4.out.cell
    have z2 := G2.out wc3 hS
    have RQ : Hid (Calls Tryz.prog 47 #[.slice a' t.ls.length c'] wc3 fun e w' => e = .returned (.bool (Tt.rise t.ls)) ∧ Below wc3.heap.size wc3 w') := rising_any wc3 _ t.ls (Sl.below HS.out B3.out)
    have z3 : Hid (∀ wz, Below wc3.heap.size wc3 wz → wz.cell? ⟨b, o + 3, none⟩ = some (.slice a t.ks.length c)) := fun wz hz => G3.out wz (bl_tr hS hz)
    have TQ : Hid (∀ wz, Below wc3.heap.size wc3 wz → Calls Tryz.prog 48 #[.slice a t.ks.length c] wz fun e w' => e = .returned (.bool (Tt.rightL t.ks)) ∧ Below wz.heap.size wz w') := fun wz hz => HIH.out wz _ t.ks (TAtL.below HL.out (bl_tr B3.out hz))
    have HE : ∀ wz, (binOp .eql 98 (.agg #[.int .i64 t.n, .int .i64 t.ls.length, .int .i64 t.ks.length]) (.agg #[.int .i64 p1, .int .i64 p2, .int .i64 p3])).run Tryz.prog wz = .ok (.bool (t.n == p1 && ((t.ls.length : Int) == p2 && (t.ks.length : Int) == p3))) wz := fun wz => eq_shape wz _ _ _ _ _ _
    generalize (t.n == p1 && ((t.ls.length : Int) == p2 && (t.ks.length : Int) == p3)) = q at HE HR
    generalize Tt.rise t.ls = r at RQ HR
    generalize Tt.rightL t.ks = z at TQ HR
    clear X1c A4 G0 G2 G3 HIH HS HL HP hS NQ qA4
    cases ok with
    | false =>
      simp only [Bool.false_and] at HR
      clear RQ TQ HE
      go_wp2
      go_ret
      exact ⟨ret_bool HR.out.symm, B3.out⟩
    | true =>
      cases q with
      | false =>
        simp only [Bool.false_and, Bool.and_false] at HR
        clear RQ TQ
        go_wp2
        go_ret
        exact ⟨ret_bool HR.out.symm, B3.out⟩
      | true =>
        cases r with
        | false =>
          simp only [Bool.false_and, Bool.and_false] at HR
          clear TQ
          go_wp2_with (go_at_call 47; refine (RQ.out).mono ?_; rintro e w5 ⟨rfl, hb5⟩)
          go_ret
          exact ⟨ret_bool HR.out.symm, bl_tr B3.out hb5⟩
        | true =>
          simp only [Bool.true_and, Bool.and_true] at HR
          go_wp2_with (first
            | (go_at_call 47; refine (RQ.out).mono ?_; rintro e w5 ⟨rfl, hb5⟩; have z5 := z3.out w5 hb5; have HB5 := hid hb5; clear hb5 RQ)
            | (go_at_call 48; refine (TQ.out _ HB5.out).mono ?_; rintro e w6 ⟨rfl, hb6⟩))
          go_ret
          exact ⟨ret_bool HR.out.symm, bl_tr (bl_tr B3.out HB5.out) hb6⟩)
theorem right_any : ∀ n, RightOf n
  | 0 => fun w b o t h => by obtain ⟨m, e⟩ := h.pos; cases e
  | n + 1 => right_step n (rights_step n (right_any n))
/-- 0: right; 4: too deep; 1: not right. -/
def Tt.errno (t : Tt) : Int := if 100000 < t.deepest then 4 else if t.right then 0 else 1

set_option maxHeartbeats 1000000 in
set_option maxRecDepth 100000 in
theorem RightType_any (w : World) (n : Nat) (vs : List Value) (t : Tt) (h : TAt w Any n vs t) : Calls Tryz.prog 7 #[.agg vs.toArray] w fun e w' => e = .returned (.int .i64 t.errno) ∧ Below w.heap.size w w' := by
  have hP : Hid (PAt (w.alloc (.cells vs.toArray 25)) Any n w.heap.size 0 t) := PAt.box h _ trivial
  have DQ : Hid (Calls Tryz.prog 23 #[.pointer (some ⟨w.heap.size, 0, none⟩), .int .i64 1] (w.alloc (.cells vs.toArray 25)) fun e w' => e = .returned (.bool (decide (100000 < (1 : Int) + t.deepest - 1))) ∧ w' = w.alloc (.cells vs.toArray 25)) := deep_any n _ _ _ t 1 hP.out (by decide) (by decide)
  have RQ : Hid (Calls Tryz.prog 24 #[.pointer (some ⟨w.heap.size, 0, none⟩)] (w.alloc (.cells vs.toArray 25)) fun e w' => e = .returned (.bool t.right) ∧ Below (w.alloc (.cells vs.toArray 25)).heap.size (w.alloc (.cells vs.toArray 25)) w') := right_any n _ _ _ t hP.out
  have B1 : Hid (Below w.heap.size w (w.alloc (.cells vs.toArray 25))) := bl_alloc (Below.refl _ _) _
  obtain ⟨a', c', a, c, rfl⟩ := h.form
  clear h hP
  have q : decide (100000 < (1 : Int) + t.deepest - 1) = decide (100000 < t.deepest) := by
    apply decide_eq_decide.2
    omega
  rw [q] at DQ
  clear q
  by_cases hd : 100000 < t.deepest
  · have HE : Hid (t.errno = 4) := by show _ = _; unfold Tt.errno; rw [if_pos hd]
    rw [decide_eq_true hd] at DQ
    clear hd RQ
    go_enter Tryz.func7, Tryz.ntmps7
    go_wp2_with (go_at_call 23; refine (DQ.out).mono ?_; rintro e w3 ⟨rfl, hw⟩; rw [hw]; clear hw w3)
    go_ret
    exact ⟨ret_int HE.out.symm, B1.out⟩
  · rw [decide_eq_false hd] at DQ
    cases hr : t.right with
    | true =>
      have HE : Hid (t.errno = 0) := by show _ = _; unfold Tt.errno; rw [if_neg hd, hr]; rfl
      rw [hr] at RQ
      clear hd hr
      go_enter Tryz.func7, Tryz.ntmps7
      go_wp2_with (first
        | (go_at_call 23; refine (DQ.out).mono ?_; rintro e w3 ⟨rfl, hw⟩; rw [hw]; clear hw w3)
        | (go_at_call 24; refine (RQ.out).mono ?_; rintro e w4 ⟨rfl, hb4⟩))
      go_ret
      exact ⟨ret_int HE.out.symm, bl_tr B1.out hb4⟩
    | false =>
      have HE : Hid (t.errno = 1) := by show _ = _; unfold Tt.errno; rw [if_neg hd, hr]; rfl
      rw [hr] at RQ
      clear hd hr
      go_enter Tryz.func7, Tryz.ntmps7
      go_wp2_with (first
        | (go_at_call 23; refine (DQ.out).mono ?_; rintro e w3 ⟨rfl, hw⟩; rw [hw]; clear hw w3)
        | (go_at_call 24; refine (RQ.out).mono ?_; rintro e w4 ⟨rfl, hb4⟩))
      go_ret
      exact ⟨ret_int HE.out.symm, bl_tr B1.out hb4⟩
end Go.Proofs.YtfeppchgmobfpaaGreatDoor
