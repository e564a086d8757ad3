/- Which types are right. What is bound: a map and a list of what was hidden. -/
import Derived.Maps.OwnSet
import Derived.Test.YtigliglmejkakaaGreatRap
namespace Go.Proofs.YtigliglmejkakaaGreat.Tgt
open Go.RowKit
set_option linter.unusedVariables false
set_option linter.unusedSimpArgs false

/-- Has the node what its kind names? -/
def Tt.own (k n : Int) (l c : Nat) : Bool := (Tt.near k n c).2 && (n == (Tt.near k n c).1.1 && ((l : Int) == (Tt.near k n c).1.2.1 && (c : Int) == (Tt.near k n c).1.2.2))
mutual
def Tt.right : Tt → Bool
  | .mk k n ls ks => Tt.own k n ls.length ks.length && (Tt.rise ls && Tt.rightL ks)
def Tt.rightL : List Tt → Bool
  | [] => true
  | x :: r => Tt.right x && Tt.rightL r
end
theorem Tt.right_mk (t : Tt) : t.right = (Tt.own t.k t.n t.ls.length t.ks.length && (Tt.rise t.ls && Tt.rightL t.ks)) := by cases t; rw [Tt.right]; rfl
theorem Tt.rightL_drop {l : List Tt} {k : Nat} {x : Tt} (hx : l[k]? = some x) : Tt.rightL (l.drop k) = (x.right && Tt.rightL (l.drop (k + 1))) := by
  rw [Tt.drop_at hx, Tt.rightL]
def RightOf (n : Nat) : Prop := ∀ (w : World) (b o : Nat) (t : Tt), PAt w Any n b o t →
  Calls Tryz.prog 29 #[.pointer (some ⟨b, o, none⟩)] w fun e w' => e = .returned (.bool t.right) ∧ Below w.heap.size w w'
def RightsOf (n : Nat) : Prop := ∀ (w : World) (v : Value) (l : List Tt), TAtL w Any n v l →
  Calls Tryz.prog 63 #[v] w fun e w' => e = .returned (.bool (Tt.rightL l)) ∧ Below w.heap.size w w'

set_option maxHeartbeats 1000000 in
set_option maxRecDepth 100000 in
theorem rights_step (n : Nat) (ih : RightOf n) : RightsOf n := by
  intro w v l hL
  obtain ⟨a, c, rfl, hm⟩ := hL.form
  unfold maxLen at hm
  have HL : Hid (TAtL w Any n (.slice a l.length c) l) := hL
  clear hL
  go_enter Tryz.func63, Tryz.ntmps63
  go_wp2
  go_loopw [6] (fun v wr => ∃ k : Nat, v = .int .i64 k ∧ k ≤ l.length ∧ Hid (Tt.rightL l = Tt.rightL (l.drop k)) ∧ Below w.heap.size w wr) (fun v _ => l.length - (intOf v).toNat)
  case atStart => exact ⟨0, rfl, Nat.zero_le _, rfl, Below.refl _ _⟩
  case round =>
    obtain ⟨k, rfl, hkl, hH, hB⟩ := hrel
    by_cases hlt : k < l.length
    · obtain ⟨x, hxk⟩ : ∃ x, l[k]? = some x := ⟨_, List.getElem?_eq_getElem hlt⟩
      obtain ⟨b, o, rfl, hP⟩ := (HL.out.below hB).elem hxk
      have HX : Hid (Tt.rightL l = (x.right && Tt.rightL (l.drop (k + 1)))) := hH.out.trans (Tt.rightL_drop hxk)
      have HQ : Hid (Calls Tryz.prog 29 #[.pointer (some ⟨b, o + k * 4, none⟩)] wr fun e w' => e = .returned (.bool x.right) ∧ Below wr.heap.size wr w') := ih wr b _ x hP
      have HB : Hid (Below w.heap.size w wr) := hB
      clear hP hH hB
      cases hr : x.right with
      | true =>
        rw [hr] at HQ HX
        rw [Bool.true_and] at HX
        go_wp2_with (go_at_call 29; refine (HQ.out).mono ?_; rintro e w3 ⟨rfl, hb3⟩)
        go_roundw
        case rel => exact ⟨k + 1, by go_num, by omega, HX, bl_tr HB.out hb3⟩
        case measure => simp [intOf]; omega
      | false =>
        rw [hr] at HQ HX
        rw [Bool.false_and] at HX
        go_wp2_with (go_at_call 29; refine (HQ.out).mono ?_; rintro e w3 ⟨rfl, hb3⟩)
        go_ret
        exact ⟨ret_bool HX.out.symm, bl_tr HB.out hb3⟩
    · have HX : Hid (Tt.rightL l = true) := by
        show _ = _
        rw [hH.out, List.drop_eq_nil_of_le (by omega), Tt.rightL]
      clear hH HL
      go_wp2
      go_ret
      exact ⟨ret_bool HX.out.symm, hB⟩

set_option maxHeartbeats 1000000 in
set_option maxRecDepth 100000 in
theorem right_step (n : Nat) (ih : RightsOf n) : RightOf (n + 1) := by
  intro w b o t hP
  obtain ⟨a', c', a, c, e0, e1, e2, e3, hk, hn, hS, hL⟩ := hP.cells
  have HR : Hid (t.right = (Tt.own t.k t.n t.ls.length t.ks.length && (Tt.rise t.ls && Tt.rightL t.ks))) := Tt.right_mk t
  have HIH : Hid _ := ih
  have hbl := hP.lt
  have f1 : ∀ ob, (w.alloc ob).cell? ⟨b, o + 1, none⟩ = some (.int .i64 t.n) := fun ob => ((bl_alloc (Below.refl _ _) ob).cell hbl).trans e1
  have f2 : ∀ ob, (w.alloc ob).cell? ⟨b, o + 2, none⟩ = some (.slice a' t.ls.length c') := fun ob => ((bl_alloc (Below.refl _ _) ob).cell hbl).trans e2
  have f3 : ∀ ob, (w.alloc ob).cell? ⟨b, o + 3, none⟩ = some (.slice a t.ks.length c) := fun ob => ((bl_alloc (Below.refl _ _) ob).cell hbl).trans e3
  have HP : Hid _ := hP
  have HS : Hid _ := hS
  have HL : Hid _ := hL
  clear hP hS hL ih
  go_enter Tryz.func29, Tryz.ntmps29
  go_wp2_with fail
  go_region
  have B1 : Hid (Below w.heap.size w ((w.alloc (.cells #[.int .i64 t.n, .int .i64 t.ls.length, .int .i64 t.ks.length] 138)).drew)) := (bl_alloc (Below.refl _ _) _).drew
  have X1 : Hid (Arr ((w.alloc (.cells #[.int .i64 t.n, .int .i64 t.ls.length, .int .i64 t.ks.length] 138)).drew) w.heap.size 138 [.int .i64 t.n, .int .i64 t.ls.length, .int .i64 t.ks.length]) := Arr.stays ⟨heap_alloc_at _ _⟩ (Below.refl _ _).drew
  generalize ((w.alloc (.cells #[.int .i64 t.n, .int .i64 t.ls.length, .int .i64 t.ks.length] 138)).drew) = W1 at B1 X1 ⊢
  have g0 : ∀ wz, Below W1.heap.size W1 wz → wz.cell? ⟨b, o, none⟩ = some (.int .i64 t.k) := fun wz hz => ((bl_tr B1.out hz).cell hbl).trans e0
  have G2 : Hid (∀ wz, Below W1.heap.size W1 wz → wz.cell? ⟨b, o + 2, none⟩ = some (.slice a' t.ls.length c')) := fun wz hz => ((bl_tr B1.out hz).cell hbl).trans e2
  have G3 : Hid (∀ wz, Below W1.heap.size W1 wz → wz.cell? ⟨b, o + 3, none⟩ = some (.slice a t.ks.length c)) := fun wz hz => ((bl_tr B1.out hz).cell hbl).trans e3
  have G0 : Hid _ := g0
  have X1c : Hid (∀ wz, Below W1.heap.size W1 wz → ∀ j, wz.cell? ⟨w.heap.size, j, none⟩ = _) := fun wz hz => (X1.out.stays hz).cell
  have NQ : Hid (∀ wz, Calls Tryz.prog 61 #[.int .i64 t.k, .agg #[.int .i64 t.n, .int .i64 t.ls.length, .int .i64 t.ks.length]] wz fun e w' => e = .returned (.tuple #[shp (Tt.near t.k t.n t.ks.length).1, .bool (Tt.near t.k t.n t.ks.length).2]) ∧ Below wz.heap.size wz w') := fun wz => near_any wz _ _ _ _
  unfold Tt.own at HR
  generalize hq : Tt.near t.k t.n t.ks.length = q at NQ HR
  obtain ⟨⟨p1, p2, p3⟩, ok⟩ := q
  simp only [shp] at NQ HR
  clear e0 e1 e2 e3 f1 f2 f3 hk hn g0 hq
  go_wp2_with fail
  refine wp_region_held_drew (S := fun wz => Below W1.heap.size W1 wz) (by kernel_rfl) ((Below.refl _ _).drew) (fun hS => ?_)
  generalize W1.drew = wc0 at hS ⊢
  refine wpAnyH_take (i := 0) (v := ?_) rfl (by kernel_rfl) (by kernel_rfl) (by kernel_rfl) (fun _ _ _ h => h) (Or.inl ⟨by rfl, ?_⟩) hS ?_
  rotate_left
  · intro wz hz; go_simp; try with_reducible rfl
  try simp only [Act.put, List.setIfInBounds_toArray, List.set_cons_zero, List.set_cons_succ, List.getElem_toArray, List.getElem_cons_succ, List.getElem_cons_zero]
  refine wpAnyH_take (i := 1) (v := ?_) rfl (by kernel_rfl) (by kernel_rfl) (by kernel_rfl) (fun _ _ _ h => h) (Or.inl ⟨by rfl, ?_⟩) hS ?_
  rotate_left
  · intro wz hz; go_simp; try with_reducible rfl
  try simp only [Act.put, List.setIfInBounds_toArray, List.set_cons_zero, List.set_cons_succ, List.getElem_toArray, List.getElem_cons_succ, List.getElem_cons_zero]
  refine wpAnyH_take (i := 2) (v := ?_) rfl (by kernel_rfl) (by kernel_rfl) (by kernel_rfl) (fun _ _ _ h => h) (Or.inl ⟨by rfl, ?_⟩) hS ?_
  rotate_left
  · intro wz hz; go_simp; try with_reducible rfl
  try simp only [Act.put, List.setIfInBounds_toArray, List.set_cons_zero, List.set_cons_succ, List.getElem_toArray, List.getElem_cons_succ, List.getElem_cons_zero]
  refine wpAnyH_take (i := 3) (v := ?_) rfl (by kernel_rfl) (by kernel_rfl) (by kernel_rfl) (fun _ _ _ h => h) (Or.inl ⟨by rfl, ?_⟩) hS ?_
  rotate_left
  · intro wz hz; have yy0 := G0.out wz hz; have yy1 := X1c.out wz hz; go_simp; try with_reducible rfl
  try simp only [Act.put, List.setIfInBounds_toArray, List.set_cons_zero, List.set_cons_succ, List.getElem_toArray, List.getElem_cons_succ, List.getElem_cons_zero]
  refine wpAnyH_take (i := 4) (v := ?_) rfl (by kernel_rfl) (by kernel_rfl) (by kernel_rfl) (fun _ _ _ h => h) (Or.inl ⟨by rfl, ?_⟩) hS ?_
  rotate_left
  · intro wz hz; have yy0 := G0.out wz hz; have yy1 := X1c.out wz hz; go_simp; try with_reducible rfl
  try simp only [Act.put, List.setIfInBounds_toArray, List.set_cons_zero, List.set_cons_succ, List.getElem_toArray, List.getElem_cons_succ, List.getElem_cons_zero]
  refine wpAnyH_ready (rs := [5, 9]) (by kernel_rfl) (by simp) (AllReadyH.cons rfl (fun K hK => ?a1_5) (AllReadyH.cons rfl (fun K hK => ?a1_9) AllReadyH.nil))
  case' a1_5 =>
    go_simp
    refine (NQ.out wc0).mono ?_
    rintro e wc1 ⟨rfl, hb⟩
    refine hK.out _ _ (bl_on hS hb) (fun hSn => ?_)
    clear hK K hS
    have hS := hSn
    clear hSn
    try simp only [Act.put, List.setIfInBounds_toArray, List.set_cons_zero, List.set_cons_succ, List.getElem_toArray, List.getElem_cons_succ, List.getElem_cons_zero]
    clear hb
    refine wpAnyH_take (i := 6) (v := ?_) rfl (by kernel_rfl) (by kernel_rfl) (by kernel_rfl) (fun _ _ _ h => h) (Or.inl ⟨by rfl, ?_⟩) hS ?_
    rotate_left
    · intro wz hz; go_simp; try with_reducible rfl
    try simp only [Act.put, List.setIfInBounds_toArray, List.set_cons_zero, List.set_cons_succ, List.getElem_toArray, List.getElem_cons_succ, List.getElem_cons_zero]
    refine wpAnyH_take (i := 7) (v := ?_) rfl (by kernel_rfl) (by kernel_rfl) (by kernel_rfl) (fun _ _ _ h => h) (Or.inl ⟨by rfl, ?_⟩) hS ?_
    rotate_left
    · intro wz hz; go_simp; try with_reducible rfl
    try simp only [Act.put, List.setIfInBounds_toArray, List.set_cons_zero, List.set_cons_succ, List.getElem_toArray, List.getElem_cons_succ, List.getElem_cons_zero]
    refine wpAnyH_take (i := 8) (v := ?_) rfl (by kernel_rfl) (by kernel_rfl) (by kernel_rfl) (fun _ _ _ h => h) (Or.inl ⟨by rfl, ?_⟩) hS ?_
    rotate_left
    · intro wz hz; go_simp; try with_reducible rfl
    try simp only [Act.put, List.setIfInBounds_toArray, List.set_cons_zero, List.set_cons_succ, List.getElem_toArray, List.getElem_cons_succ, List.getElem_cons_zero]
    refine wpAnyH_ready (rs := [9]) (by kernel_rfl) (by simp) (AllReadyH.cons rfl (fun K hK => ?a2_9) AllReadyH.nil)
    case' a2_9 =>
      go_simp
      have A4 : Hid (Arr (wc1.alloc (.cells #[.int .i64 0, .int .i64 0, .int .i64 0] 138)) wc1.heap.size 138 [.int .i64 0, .int .i64 0, .int .i64 0]) := ⟨heap_alloc_at _ _⟩
      have hbn : Below wc1.heap.size wc1 (wc1.alloc (.cells #[.int .i64 0, .int .i64 0, .int .i64 0] 138)) := bl_alloc (Below.refl _ _) _
      have hSn := bl_on hS hbn
      generalize hwn : wc1.alloc (.cells #[.int .i64 0, .int .i64 0, .int .i64 0] 138) = wc2 at A4 hSn  ⊢
      have qA4 : W1.heap.size ≤ wc1.heap.size := hS.size
      generalize hpA4 : wc1.heap.size = pA4 at A4 qA4  ⊢
      clear hbn hwn hpA4
      refine hK.out _ _ (hSn) (fun hSn => ?_)
      clear hK K hS
      have hS := hSn
      clear hSn
      try simp only [Act.put, List.setIfInBounds_toArray, List.set_cons_zero, List.set_cons_succ, List.getElem_toArray, List.getElem_cons_succ, List.getElem_cons_zero]
      refine wpAnyH_ready (rs := [10]) (by kernel_rfl) (by simp) (AllReadyH.cons rfl (fun K hK => ?a3_10) AllReadyH.nil)
      case' a3_10 =>
        go_simp
        have cc := A4.out.cell
        have cf := A4.out.frozen
        go_simp
        have A4 := hid (((A4.out.set 0 (.int .i64 p1)).set 1 (.int .i64 p2)).set 2 (.int .i64 p3))
        simp only [List.set_cons_zero, List.set_cons_succ] at A4
        have hSn : Below W1.heap.size W1 (((wc2.setCell ⟨pA4, 0, none⟩ (.int .i64 p1)).setCell ⟨pA4, 1, none⟩ (.int .i64 p2)).setCell ⟨pA4, 2, none⟩ (.int .i64 p3)) := (bl_put (bl_put (bl_put hS (p := ⟨pA4, 0, none⟩) (.int .i64 p1) qA4) (p := ⟨pA4, 1, none⟩) (.int .i64 p2) qA4) (p := ⟨pA4, 2, none⟩) (.int .i64 p3) qA4)
        generalize (((wc2.setCell ⟨pA4, 0, none⟩ (.int .i64 p1)).setCell ⟨pA4, 1, none⟩ (.int .i64 p2)).setCell ⟨pA4, 2, none⟩ (.int .i64 p3)) = wc3 at A4 hSn  ⊢
        clear cc cf
        refine hK.out _ _ (hSn) (fun hSn => ?_)
        clear hK K hS
        have hS := hSn
        clear hSn
        try simp only [Act.put, List.setIfInBounds_toArray, List.set_cons_zero, List.set_cons_succ, List.getElem_toArray, List.getElem_cons_succ, List.getElem_cons_zero]
        refine wpAnyH_take (i := 11) (v := ?_) rfl (by kernel_rfl) (by kernel_rfl) (by kernel_rfl) (fun _ _ _ h => h) (Or.inl ⟨by rfl, ?_⟩) hS ?_
        rotate_left
        · intro wz hz; go_simp; try with_reducible rfl
        try simp only [Act.put, List.setIfInBounds_toArray, List.set_cons_zero, List.set_cons_succ, List.getElem_toArray, List.getElem_cons_succ, List.getElem_cons_zero]
        refine wpAnyH_done (by kernel_rfl) ?_ _
  case' a1_9 =>
    go_simp
    have A4 : Hid (Arr (wc0.alloc (.cells #[.int .i64 0, .int .i64 0, .int .i64 0] 138)) wc0.heap.size 138 [.int .i64 0, .int .i64 0, .int .i64 0]) := ⟨heap_alloc_at _ _⟩
    have hbn : Below wc0.heap.size wc0 (wc0.alloc (.cells #[.int .i64 0, .int .i64 0, .int .i64 0] 138)) := bl_alloc (Below.refl _ _) _
    have hSn := bl_on hS hbn
    generalize hwn : wc0.alloc (.cells #[.int .i64 0, .int .i64 0, .int .i64 0] 138) = wc1 at A4 hSn  ⊢
    have qA4 : W1.heap.size ≤ wc0.heap.size := hS.size
    generalize hpA4 : wc0.heap.size = pA4 at A4 qA4  ⊢
    clear hbn hwn hpA4
    refine hK.out _ _ (hSn) (fun hSn => ?_)
    clear hK K hS
    have hS := hSn
    clear hSn
    try simp only [Act.put, List.setIfInBounds_toArray, List.set_cons_zero, List.set_cons_succ, List.getElem_toArray, List.getElem_cons_succ, List.getElem_cons_zero]
    refine wpAnyH_ready (rs := [5]) (by kernel_rfl) (by simp) (AllReadyH.cons rfl (fun K hK => ?a4_5) AllReadyH.nil)
    case' a4_5 =>
      go_simp
      refine (NQ.out wc1).mono ?_
      rintro e wc2 ⟨rfl, hb⟩
      have A4 := hid (A4.out.stays hb)
      refine hK.out _ _ (bl_on hS hb) (fun hSn => ?_)
      clear hK K hS
      have hS := hSn
      clear hSn
      try simp only [Act.put, List.setIfInBounds_toArray, List.set_cons_zero, List.set_cons_succ, List.getElem_toArray, List.getElem_cons_succ, List.getElem_cons_zero]
      clear hb
      refine wpAnyH_take (i := 6) (v := ?_) rfl (by kernel_rfl) (by kernel_rfl) (by kernel_rfl) (fun _ _ _ h => h) (Or.inl ⟨by rfl, ?_⟩) hS ?_
      rotate_left
      · intro wz hz; go_simp; try with_reducible rfl
      try simp only [Act.put, List.setIfInBounds_toArray, List.set_cons_zero, List.set_cons_succ, List.getElem_toArray, List.getElem_cons_succ, List.getElem_cons_zero]
      refine wpAnyH_take (i := 7) (v := ?_) rfl (by kernel_rfl) (by kernel_rfl) (by kernel_rfl) (fun _ _ _ h => h) (Or.inl ⟨by rfl, ?_⟩) hS ?_
      rotate_left
      · intro wz hz; go_simp; try with_reducible rfl
      try simp only [Act.put, List.setIfInBounds_toArray, List.set_cons_zero, List.set_cons_succ, List.getElem_toArray, List.getElem_cons_succ, List.getElem_cons_zero]
      refine wpAnyH_take (i := 8) (v := ?_) rfl (by kernel_rfl) (by kernel_rfl) (by kernel_rfl) (fun _ _ _ h => h) (Or.inl ⟨by rfl, ?_⟩) hS ?_
      rotate_left
      · intro wz hz; go_simp; try with_reducible rfl
      try simp only [Act.put, List.setIfInBounds_toArray, List.set_cons_zero, List.set_cons_succ, List.getElem_toArray, List.getElem_cons_succ, List.getElem_cons_zero]
      refine wpAnyH_ready (rs := [10]) (by kernel_rfl) (by simp) (AllReadyH.cons rfl (fun K hK => ?a5_10) AllReadyH.nil)
      case' a5_10 =>
        go_simp
        have cc := A4.out.cell
        have cf := A4.out.frozen
        go_simp
        have A4 := hid (((A4.out.set 0 (.int .i64 p1)).set 1 (.int .i64 p2)).set 2 (.int .i64 p3))
        simp only [List.set_cons_zero, List.set_cons_succ] at A4
        have hSn : Below W1.heap.size W1 (((wc2.setCell ⟨pA4, 0, none⟩ (.int .i64 p1)).setCell ⟨pA4, 1, none⟩ (.int .i64 p2)).setCell ⟨pA4, 2, none⟩ (.int .i64 p3)) := (bl_put (bl_put (bl_put hS (p := ⟨pA4, 0, none⟩) (.int .i64 p1) qA4) (p := ⟨pA4, 1, none⟩) (.int .i64 p2) qA4) (p := ⟨pA4, 2, none⟩) (.int .i64 p3) qA4)
        generalize (((wc2.setCell ⟨pA4, 0, none⟩ (.int .i64 p1)).setCell ⟨pA4, 1, none⟩ (.int .i64 p2)).setCell ⟨pA4, 2, none⟩ (.int .i64 p3)) = wc3 at A4 hSn  ⊢
        clear cc cf
        refine hK.out _ _ (hSn) (fun hSn => ?_)
        clear hK K hS
        have hS := hSn
        clear hSn
        try simp only [Act.put, List.setIfInBounds_toArray, List.set_cons_zero, List.set_cons_succ, List.getElem_toArray, List.getElem_cons_succ, List.getElem_cons_zero]
        refine wpAnyH_take (i := 11) (v := ?_) rfl (by kernel_rfl) (by kernel_rfl) (by kernel_rfl) (fun _ _ _ h => h) (Or.inl ⟨by rfl, ?_⟩) hS ?_
        rotate_left
        · intro wz hz; go_simp; try with_reducible rfl
        try simp only [Act.put, List.setIfInBounds_toArray, List.set_cons_zero, List.set_cons_succ, List.getElem_toArray, List.getElem_cons_succ, List.getElem_cons_zero]
        refine wpAnyH_done (by kernel_rfl) ?_ _
  all_goals (
    have B3 : Hid (Below w.heap.size w wc3) := bl_tr B1.out hS
    have x1 := X1c.out wc3 hS
    have x4 := A4.out.cell
    have z2 := G2.out wc3 hS
    have RQ : Hid (Calls Tryz.prog 62 #[.slice a' t.ls.length c'] wc3 fun e w' => e = .returned (.bool (Tt.rise t.ls)) ∧ Below wc3.heap.size wc3 w') := rising_any wc3 _ t.ls (Sl.below HS.out B3.out)
    have z3 : Hid (∀ wz, Below wc3.heap.size wc3 wz → wz.cell? ⟨b, o + 3, none⟩ = some (.slice a t.ks.length c)) := fun wz hz => G3.out wz (bl_tr hS hz)
    have TQ : Hid (∀ wz, Below wc3.heap.size wc3 wz → Calls Tryz.prog 63 #[.slice a t.ks.length c] wz fun e w' => e = .returned (.bool (Tt.rightL t.ks)) ∧ Below wz.heap.size wz w') := fun wz hz => HIH.out wz _ t.ks (TAtL.below HL.out (bl_tr B3.out hz))
    have HE : ∀ wz, (binOp .eql 138 (.agg #[.int .i64 t.n, .int .i64 t.ls.length, .int .i64 t.ks.length]) (.agg #[.int .i64 p1, .int .i64 p2, .int .i64 p3])).run Tryz.prog wz = .ok (.bool (t.n == p1 && ((t.ls.length : Int) == p2 && (t.ks.length : Int) == p3))) wz := fun wz => eq_shape wz _ _ _ _ _ _
    generalize (t.n == p1 && ((t.ls.length : Int) == p2 && (t.ks.length : Int) == p3)) = q at HE HR
    generalize Tt.rise t.ls = r at RQ HR
    generalize Tt.rightL t.ks = z at TQ HR
    clear X1c A4 G0 G2 G3 HIH HS HL HP hS NQ qA4
    cases ok with
    | false =>
      simp only [Bool.false_and] at HR
      clear RQ TQ HE
      go_wp2
      go_ret
      exact ⟨ret_bool HR.out.symm, B3.out⟩
    | true =>
      cases q with
      | false =>
        simp only [Bool.false_and, Bool.and_false] at HR
        clear RQ TQ
        go_wp2
        go_ret
        exact ⟨ret_bool HR.out.symm, B3.out⟩
      | true =>
        cases r with
        | false =>
          simp only [Bool.false_and, Bool.and_false] at HR
          clear TQ
          go_wp2_with (go_at_call 62; refine (RQ.out).mono ?_; rintro e w5 ⟨rfl, hb5⟩)
          go_ret
          exact ⟨ret_bool HR.out.symm, bl_tr B3.out hb5⟩
        | true =>
          simp only [Bool.true_and, Bool.and_true] at HR
          go_wp2_with (first
            | (go_at_call 62; refine (RQ.out).mono ?_; rintro e w5 ⟨rfl, hb5⟩; have z5 := z3.out w5 hb5; have HB5 := hid hb5; clear hb5 RQ)
            | (go_at_call 63; refine (TQ.out _ HB5.out).mono ?_; rintro e w6 ⟨rfl, hb6⟩))
          go_ret
          exact ⟨ret_bool HR.out.symm, bl_tr (bl_tr B3.out HB5.out) hb6⟩)
theorem right_any : ∀ n, RightOf n
  | 0 => fun w b o t h => by obtain ⟨m, e⟩ := h.pos; cases e
  | n + 1 => right_step n (rights_step n (right_any n))
/-- 0: right; 4: too deep; 1: not right. -/
def Tt.errno (t : Tt) : Int := if 100000 < t.deepest then 4 else if t.right then 0 else 1

set_option maxHeartbeats 1000000 in
set_option maxRecDepth 100000 in
theorem RightType_any (w : World) (n : Nat) (vs : List Value) (t : Tt) (h : TAt w Any n vs t) : Calls Tryz.prog 10 #[.agg vs.toArray] w fun e w' => e = .returned (.int .i64 t.errno) ∧ Below w.heap.size w w' := by
  have hP : Hid (PAt (w.alloc (.cells vs.toArray 28)) Any n w.heap.size 0 t) := PAt.box h _ trivial
  have DQ : Hid (Calls Tryz.prog 28 #[.pointer (some ⟨w.heap.size, 0, none⟩), .int .i64 1] (w.alloc (.cells vs.toArray 28)) fun e w' => e = .returned (.bool (decide (100000 < (1 : Int) + t.deepest - 1))) ∧ w' = w.alloc (.cells vs.toArray 28)) := deep_any n _ _ _ t 1 hP.out (by decide) (by decide)
  have RQ : Hid (Calls Tryz.prog 29 #[.pointer (some ⟨w.heap.size, 0, none⟩)] (w.alloc (.cells vs.toArray 28)) fun e w' => e = .returned (.bool t.right) ∧ Below (w.alloc (.cells vs.toArray 28)).heap.size (w.alloc (.cells vs.toArray 28)) w') := right_any n _ _ _ t hP.out
  have B1 : Hid (Below w.heap.size w (w.alloc (.cells vs.toArray 28))) := bl_alloc (Below.refl _ _) _
  obtain ⟨a', c', a, c, rfl⟩ := h.form
  clear h hP
  have q : decide (100000 < (1 : Int) + t.deepest - 1) = decide (100000 < t.deepest) := by
    apply decide_eq_decide.2
    omega
  rw [q] at DQ
  clear q
  by_cases hd : 100000 < t.deepest
  · have HE : Hid (t.errno = 4) := by show _ = _; unfold Tt.errno; rw [if_pos hd]
    rw [decide_eq_true hd] at DQ
    clear hd RQ
    go_enter Tryz.func10, Tryz.ntmps10
    go_wp2_with (go_at_call 28; refine (DQ.out).mono ?_; rintro e w3 ⟨rfl, hw⟩; rw [hw]; clear hw w3)
    go_ret
    exact ⟨ret_int HE.out.symm, B1.out⟩
  · rw [decide_eq_false hd] at DQ
    cases hr : t.right with
    | true =>
      have HE : Hid (t.errno = 0) := by show _ = _; unfold Tt.errno; rw [if_neg hd, hr]; rfl
      rw [hr] at RQ
      clear hd hr
      go_enter Tryz.func10, Tryz.ntmps10
      go_wp2_with (first
        | (go_at_call 28; refine (DQ.out).mono ?_; rintro e w3 ⟨rfl, hw⟩; rw [hw]; clear hw w3)
        | (go_at_call 29; refine (RQ.out).mono ?_; rintro e w4 ⟨rfl, hb4⟩))
      go_ret
      exact ⟨ret_int HE.out.symm, bl_tr B1.out hb4⟩
    | false =>
      have HE : Hid (t.errno = 1) := by show _ = _; unfold Tt.errno; rw [if_neg hd, hr]; rfl
      rw [hr] at RQ
      clear hd hr
      go_enter Tryz.func10, Tryz.ntmps10
      go_wp2_with (first
        | (go_at_call 28; refine (DQ.out).mono ?_; rintro e w3 ⟨rfl, hw⟩; rw [hw]; clear hw w3)
        | (go_at_call 29; refine (RQ.out).mono ?_; rintro e w4 ⟨rfl, hb4⟩))
      go_ret
      exact ⟨ret_int HE.out.symm, bl_tr B1.out hb4⟩
end Go.Proofs.YtigliglmejkakaaGreat.Tgt

namespace Go.Proofs.YtigliglmejkakaaGreat.Tgt
open Go.RowKit
set_option linter.unusedVariables false
set_option linter.unusedSimpArgs false

abbrev HT : TypeId := 186
abbrev IM : TypeId := 72
theorem int_key : Maps.Keyed Tryz.prog 3 := Maps.int_keyed Tryz.underlying3
theorem zero_int (w : World) : (zeroValue 3).run Tryz.prog w = .ok (.int .i64 0) w := by kernel_rfl
theorem keylit (x : Int) : WideAt.IsKeyLit (.int .i64 x) := by simp [WideAt.IsKeyLit]
theorem wf_of {x : Int} (hx : R64 x) : (Lit.int .i64 x).wf = true := by obtain ⟨a, b⟩ := hx; simp [Lit.wf, IntKind.min, IntKind.max, IntKind.signed, IntKind.bits]; omega
theorem r64_zero : R64 0 := ⟨by decide, by decide⟩
/-- Block C is a map that tells what lk tells. -/
def MapIs (w : World) (C n : Nat) (e : List (Int × Int)) : Prop := ∃ D : DataW Unit, w.ownsMap Tryz.prog 3 (plainElem Tryz.prog 3) C n D ∧ Maps.IsMap D ∧ ∀ x : Int, (lk e x = none → Maps.has D (.int .i64 x) = false) ∧ ∀ a, lk e x = some a → Maps.has D (.int .i64 x) = true ∧ ∀ z, D.atKey (.int .i64 x) z = .lit (.int .i64 a)
theorem MapIs.lt {w : World} {C n : Nat} {e : List (Int × Int)} (h : MapIs w C n e) : C < w.heap.size := by obtain ⟨D, h1, -⟩ := h; exact h1.lt
theorem MapIs.le {w : World} {C n m : Nat} {e : List (Int × Int)} (h : MapIs w C n e) (hn : n ≤ m) : MapIs w C m e := by obtain ⟨D, h1, h2⟩ := h; exact ⟨D, h1.mono hn, h2⟩
theorem MapIs.kept {w w' : World} {C n : Nat} {e : List (Int × Int)} {row : Option Nat} (h : MapIs w C n e) (hg : w.grownBy w' row) (hne : some C ≠ row) : MapIs w' C n e := by
  obtain ⟨D, h1, h2⟩ := h
  exact ⟨D, h1.kept hg hne, h2⟩
theorem MapIs.block {w w' : World} {C n : Nat} {e : List (Int × Int)} (h : MapIs w C n e) (hb : w'.heap[C]? = w.heap[C]?) : MapIs w' C n e := by
  obtain ⟨D, ⟨es, cl, h1, h3⟩, h2⟩ := h
  exact ⟨D, ⟨es, cl, hb.trans h1, h3⟩, h2⟩
theorem MapIs.stays {w w' : World} {C n : Nat} {e : List (Int × Int)} (h : MapIs w C n e) (hb : Below w.heap.size w w') : MapIs w' C n e := h.block (hb.block C h.lt)
theorem MapIs.look {w : World} {C n : Nat} {e : List (Int × Int)} (h : MapIs w C n e) (x : Int) (hx : R64 x) : (Instr.lookup IM (.map (some C)) (.int .i64 x) true).run Tryz.prog w = .ok (.tuple #[.int .i64 ((lk e x).getD 0), .bool (lk e x).isSome]) w := by
  obtain ⟨D, h1, h2, h3⟩ := h
  obtain ⟨v, ps, hr, hv⟩ := h1.look_ok int_key Tryz.underlying72 (zero_int w) (plainElem_int Tryz.underlying3 (by decide)) (Maps.keyOf_int_mk Tryz.underlying3 (wf_of hx))
  obtain ⟨c, rfl, hc, -⟩ := plainElem_int_inv Tryz.underlying3 hv
  rw [hr]
  cases hl : lk e x with
  | none =>
    have h4 := (h3 x).1 hl
    rw [Maps.atKey_of_not_has h4] at hc
    have : c = 0 := by simp only [Prod.mk.injEq, DataW.lit.injEq, Lit.int.injEq, true_and] at hc; exact hc.1.symm
    simp [h4, this]
  | some a =>
    obtain ⟨h4, h5⟩ := (h3 x).2 a hl
    rw [h5] at hc
    have : c = a := by simp only [Prod.mk.injEq, DataW.lit.injEq, Lit.int.injEq, true_and] at hc; exact hc.1.symm
    simp [h4, this]
theorem MapIs.put_gen {w : World} {C n : Nat} {e e' : List (Int × Int)} (h : MapIs w C n e) (x a : Int) (hx : R64 x) (ha : R64 a) (hn : n < maxLen) (he : lk e' x = some a) (he2 : ∀ y, y ≠ x → lk e' y = lk e y) : ∃ w', (Instr.mapUpdate IM (.map (some C)) (.int .i64 x) (.int .i64 a)).run Tryz.prog w = .ok () w' ∧ MapIs w' C (n + 1) e' ∧ w.grownBy w' (some C) := by
  obtain ⟨D, h1, h2, h3⟩ := h
  obtain ⟨w', hr, h4, h5⟩ := h1.store int_key Tryz.underlying72 hn (Maps.keyOf_int_mk Tryz.underlying3 (wf_of hx)) (plainElem_int Tryz.underlying3 (wf_of ha))
  refine ⟨w', hr, ⟨_, h4, h4.isMap, fun y => ?_⟩, h5.grown⟩
  by_cases hy : y = x
  · subst hy
    rw [he]
    refine ⟨fun h => (by cases h), fun b hb => ?_⟩
    injection hb with hb
    subst hb
    exact ⟨Maps.has_put_same h2 (keylit y) _, fun z => Maps.atKey_put_same h2 (keylit y) _ _⟩
  · have hne : (Lit.int .i64 y) ≠ .int .i64 x := fun e => hy (by injection e)
    rw [he2 y hy, Maps.has_put_other hne]
    refine ⟨(h3 y).1, fun b hb => ⟨((h3 y).2 b hb).1, fun z => ?_⟩⟩
    rw [Maps.atKey_put_other hne]
    exact ((h3 y).2 b hb).2 z
theorem MapIs.put {w : World} {C n : Nat} {e : List (Int × Int)} (h : MapIs w C n e) (x a : Int) (hx : R64 x) (ha : R64 a) (hn : n < maxLen) : ∃ w', (Instr.mapUpdate IM (.map (some C)) (.int .i64 x) (.int .i64 a)).run Tryz.prog w = .ok () w' ∧ MapIs w' C (n + 1) ((x, a) :: e) ∧ w.grownBy w' (some C) :=
  h.put_gen x a hx ha hn (by rw [lk_cons, if_pos rfl]) (fun y hy => by rw [lk_cons, if_neg (fun e => hy e.symm)])
theorem MapIs.back1 {w : World} {C n : Nat} {p : Int × Int} {r : List (Int × Int)} (h : MapIs w C n (p :: r)) (hx : R64 p.1) {a : Int} (hl : lk r p.1 = some a) (ha : R64 a) (hn : n < maxLen) : ∃ w', (Instr.mapUpdate IM (.map (some C)) (.int .i64 p.1) (.int .i64 a)).run Tryz.prog w = .ok () w' ∧ MapIs w' C (n + 1) r ∧ w.grownBy w' (some C) :=
  h.put_gen p.1 a hx ha hn hl (fun y hy => by rw [lk_cons, if_neg (fun e => hy e.symm)])
theorem MapIs.back2 {w : World} {C n : Nat} {p : Int × Int} {r : List (Int × Int)} (h : MapIs w C n (p :: r)) (hx : R64 p.1) (hl : lk r p.1 = none) (ty : TypeId) : ∃ w', (Builtin.delete_ #[IM, 3] ty #[.map (some C), .int .i64 p.1]).run Tryz.prog w = .ok (.tuple #[]) w' ∧ MapIs w' C n r ∧ w.grownBy w' (some C) := by
  obtain ⟨D, h1, h2, h3⟩ := h
  obtain ⟨w', hr, h4, h5⟩ := h1.drop int_key Tryz.underlying72 (Maps.keyOf_int_mk Tryz.underlying3 (wf_of hx)) ty
  refine ⟨w', hr, ⟨_, h4, h4.isMap, fun y => ?_⟩, h5.grown⟩
  by_cases hy : y = p.1
  · subst hy
    rw [hl]
    exact ⟨fun _ => Maps.has_del_same, fun b hb => (by cases hb)⟩
  · have hne : (Lit.int .i64 y) ≠ .int .i64 p.1 := fun e => hy (by injection e)
    have hl2 : lk (p :: r) y = lk r y := by rw [lk_cons, if_neg (fun e => hy e.symm)]
    rw [Maps.has_del_other hne, ← hl2]
    refine ⟨(h3 y).1, fun b hb => ⟨((h3 y).2 b hb).1, fun z => ?_⟩⟩
    rw [Maps.atKey_del_other hne]
    exact ((h3 y).2 b hb).2 z
theorem map_new (w : World) : MapIs (w.alloc (.map #[] 0)) w.heap.size 0 [] := ⟨_, World.ownsMap_made w _ _ _, ⟨_, rfl⟩, fun x => ⟨fun _ => by simp [Maps.has], fun a h => (by cases h)⟩⟩
/-- What was hidden. -/
def hidc : List (Int × Int) → List Value
  | [] => []
  | p :: r => hidc r ++ [.int .i64 p.1, .int .i64 ((lk r p.1).getD 0), .bool (lk r p.1).isSome]
theorem hidc_len (e : List (Int × Int)) : (hidc e).length = e.length * 3 := by
  induction e with
  | nil => rfl
  | cons p r ih => rw [hidc, List.length_append, ih]; simp; omega
/-- The map's block. -/
def mapBlk : Value → Option Nat
  | .map b => b
  | _ => none
/-- A scope: its map mv, its list lv; all that it owns lies from B on. -/
structure Scp (w : World) (B : Nat) (mv lv : Value) (e : List (Int × Int)) (n : Nat) : Prop where
  row : w.ownsRow B HT 3 lv e.length (hidc e)
  map : (mv = .map none ∧ e = []) ∨ ∃ C, mv = .map (some C) ∧ B ≤ C ∧ MapIs w C n e
  good : ∀ p ∈ e, R64 p.1 ∧ R64 p.2
/-- What a scope owns. -/
def Os (mv lv : Value) : Nat → Prop := fun b => mapBlk mv = some b ∨ lv.ownBlock = some b
theorem Scp.ge {w : World} {B : Nat} {mv lv : Value} {e : List (Int × Int)} {n : Nat} (h : Scp w B mv lv e n) {b : Nat} (hb : Os mv lv b) : B ≤ b ∧ b < w.heap.size := by
  rcases hb with hb | hb
  · rcases h.map with ⟨rfl, -⟩ | ⟨C, rfl, h1, h2⟩
    · cases hb
    · injection hb with hb
      subst hb
      exact ⟨h1, h2.lt⟩
  · exact h.row.lt b hb
theorem Scp.le {w : World} {B : Nat} {mv lv : Value} {e : List (Int × Int)} {n m : Nat} (h : Scp w B mv lv e n) (hn : n ≤ m) : Scp w B mv lv e m := by
  refine ⟨h.row, ?_, h.good⟩
  rcases h.map with h1 | ⟨C, h1, h2, h3⟩
  · exact .inl h1
  · exact .inr ⟨C, h1, h2, h3.le hn⟩
theorem own_block {w w' : World} {base : Nat} {e : TypeId} {size : Nat} {v : Value} {n : Nat} {xs : List Value} (h : w.ownsRow base e size v n xs) (hb : ∀ b, v.ownBlock = some b → w'.heap[b]? = w.heap[b]?) : w'.ownsRow base e size v n xs := by
  refine ⟨h.1, ?_⟩
  rcases h.2 with h1 | ⟨g, cap, cur, rfl, h2, h3, h4⟩
  · exact .inl h1
  · exact .inr ⟨g, cap, cur, rfl, h2, (hb g rfl).trans h3, h4⟩
/-- A scope stays while its own blocks do. -/
theorem Scp.blocks {w w' : World} {B : Nat} {mv lv : Value} {e : List (Int × Int)} {n : Nat} (h : Scp w B mv lv e n) (hb : ∀ b, Os mv lv b → w'.heap[b]? = w.heap[b]?) : Scp w' B mv lv e n := by
  refine ⟨own_block h.row (fun b hb2 => hb b (.inr hb2)), ?_, h.good⟩
  rcases h.map with h1 | ⟨C, rfl, h2, h3⟩
  · exact .inl h1
  · exact .inr ⟨C, rfl, h2, h3.block (hb C (.inl rfl))⟩
theorem Scp.stays {w w' : World} {B : Nat} {mv lv : Value} {e : List (Int × Int)} {n : Nat} (h : Scp w B mv lv e n) (hb : Below w.heap.size w w') : Scp w' B mv lv e n := h.blocks (fun b h1 => hb.block b (h.ge h1).2)
theorem Scp.init (w : World) (B : Nat) : Scp w B (.map none) (.slice none 0 0) [] 0 := ⟨World.ownsRow_nil _ _ _ _, .inl ⟨rfl, rfl⟩, fun p hp => by cases hp⟩
/-- The i-th of what was hidden is the last one. -/
theorem Scp.form {w : World} {B : Nat} {mv lv : Value} {e : List (Int × Int)} {n : Nat} (h : Scp w B mv lv e n) : ∃ a c, lv = .slice a e.length c := by
  rcases h.row.2 with ⟨rfl, h1⟩ | ⟨g, cap, cur, rfl, -⟩
  · rw [h1]; exact ⟨_, _, rfl⟩
  · exact ⟨_, _, rfl⟩
theorem Scp.len {w : World} {B : Nat} {mv lv : Value} {e : List (Int × Int)} {n : Nat} (h : Scp w B mv lv e n) : e.length ≤ maxLen := by
  rcases h.row.2 with ⟨rfl, h1⟩ | ⟨g, cap, cur, rfl, h2, h3, h4, h5, -⟩
  · rw [h1]; exact Nat.zero_le _
  · exact Nat.le_trans h4 h5
end Go.Proofs.YtigliglmejkakaaGreat.Tgt
