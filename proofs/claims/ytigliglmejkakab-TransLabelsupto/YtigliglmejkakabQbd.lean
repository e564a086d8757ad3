/- hidden. -/
import Derived.Test.YtigliglmejkakabQbc
namespace Go.Proofs.Ytigliglmejkakab
open Go.RowKit Go.Shelf
set_option linter.unusedVariables false
set_option linter.unusedSimpArgs false

def hidA (l : List Int) (a : An) : An := if bindE [] l = 0 then (if a.2 = 0 then (Tt.around 11 l a.1, 0) else (zeroA, a.2)) else (zeroA, bindE [] l)

set_option maxRecDepth 100000 in
set_option maxHeartbeats 2000000 in
theorem hidden_of (w : World) (pb po : Nat) (la : Option Addr) (lc : Nat) (l : List Int) (hc : w.cell? ⟨pb, po, none⟩ = some (.slice la l.length lc)) (hl : Ls w Any (.slice la l.length lc) l) (h64 : ∀ x ∈ l, Tgt.R64 x) (hln : l.length ≤ 1048576) (a : An)
    (HR : ∀ W, Below w.heap.size w W → Calls Try.prog 7 #[.pointer (some ⟨pb, po + 1, none⟩)] W (AnsOf W a)) :
    Calls Try.prog 59 #[.pointer (some ⟨pb, po, none⟩)] w (AnsOf w (hidA l a)) := by
  have hpb := World.block_lt_of_cell? _ _ hc
  have HB1 : Hid (Below w.heap.size w (w.alloc (.cells #[.int .i64 0, .int .i64 0, .slice none 0 0, .slice none 0 0] 32))) := bl_alloc (Below.refl _ _) _
  have Y1 : Hid (Arr (w.alloc (.cells #[.int .i64 0, .int .i64 0, .slice none 0 0, .slice none 0 0] 32)) w.heap.size 32 [.int .i64 0, .int .i64 0, .slice none 0 0, .slice none 0 0]) := ⟨heap_alloc_at _ _⟩
  have c1 := (HB1.out.cell (p := ⟨pb, po, none⟩) hpb).trans hc
  have HMB := hid (mayBind_all (w.alloc (.cells #[.int .i64 0, .int .i64 0, .slice none 0 0, .slice none 0 0] 32)) _ l (hl.below HB1.out) h64 hln)
  have HSS : Hid (∀ (W : World) i u, Below w.heap.size w W → Below w.heap.size w (W.setCell ⟨w.heap.size, i, none⟩ u)) := fun W i u h => bl_set _ _ h (Nat.le_refl _)
  have HL := hid hl
  have H64 := hid h64
  have HRR := hid HR
  have HC := hid hc
  clear hl HR h64 hc
  go_enter Try.func59, Try.ntmps59
  go_wp2_with (first | (go_at_call 58; refine HMB.out.mono ?_; rintro e w2 ⟨rfl, bl2⟩; have HB2 := hid (bl_tr HB1.out bl2); have Y2 := hid (Y1.out.stays bl2); have y2 := Y2.out.cell; have hw2 := Y2.out.lt; have z2 := Y2.out.frozen; have c2 := (HB2.out.cell (p := ⟨pb, po, none⟩) hpb).trans HC.out; clear bl2 c1) | (go_at_call 7; refine (HRR.out w2 HB2.out).mono ?_; rintro e w3 ⟨⟨p', q', p, q, N, rfl, hT3⟩, bl3⟩; have HT3 := hid hT3; have bl3' := bl_alloc bl3 (.cells #[.int .i64 a.1.k, .int .i64 a.1.n, .slice p' a.1.ls.length q', .slice p a.1.ks.length q] 32); have HB3 := hid (bl_tr HB2.out bl3'); have Y3 := hid (Y2.out.stays bl3'); have X3 : Hid (Arr (w3.alloc (.cells #[.int .i64 a.1.k, .int .i64 a.1.n, .slice p' a.1.ls.length q', .slice p a.1.ks.length q] 32)) w3.heap.size 32 [.int .i64 a.1.k, .int .i64 a.1.n, .slice p' a.1.ls.length q', .slice p a.1.ks.length q]) := ⟨heap_alloc_at _ _⟩; have x3 := X3.out.cell; have hw3 := (Y2.out.stays bl3).lt; have y3' := (Y2.out.stays bl3).cell; have z3' := (Y2.out.stays bl3).frozen; have hne : ¬ w.heap.size = w3.heap.size := (by omega); have y3 := Y3.out.cell; have z3 := Y3.out.frozen; have c3 := (HB3.out.cell (p := ⟨pb, po, none⟩) hpb).trans HC.out; have H23 := hid bl3; clear bl3 bl3' hT3 c2 y2 z2))
  · have hE : bindE [] l ≠ 0 := by have hq : (bindE [] l != 0) = true := by assumption
                                   simpa using hq
    refine bodyPost_ret (v := .tuple #[.agg #[.int .i64 0, .int .i64 0, .slice none 0 0, .slice none 0 0], .int .i64 (bindE [] l)]) (by rw [results_cell2t (fn := Try.f59) (p := 2) (a := 3) (ty := 32) (by kernel_rfl)]; simp [go_sem, y2, z2]) rfl ?_
    rw [show hidA l a = (zeroA, bindE [] l) from by unfold hidA; rw [if_neg hE]]
    exact AnsOf.err _ (HSS.out _ _ _ (HSS.out _ _ _ (HSS.out _ _ _ (HSS.out _ _ _ HB2.out))))
  · have hE : bindE [] l = 0 := by have hq : (bindE [] l != 0) = false := by assumption
                                   simpa using hq
    have hA : a.2 ≠ 0 := by have hq : (a.2 != 0) = true := by assumption
                            simpa using hq
    refine bodyPost_ret (v := .tuple #[.agg #[.int .i64 0, .int .i64 0, .slice none 0 0, .slice none 0 0], .int .i64 a.2]) (by rw [results_cell2t (fn := Try.f59) (p := 2) (a := 3) (ty := 32) (by kernel_rfl)]; simp [go_sem, y3', z3', hw3, hne]) rfl ?_
    rw [show hidA l a = (zeroA, a.2) from by unfold hidA; rw [if_pos hE, if_neg hA]]
    exact AnsOf.err _ (bl_alloc (HSS.out _ _ _ (HSS.out _ _ _ (HSS.out _ _ _ (HSS.out _ _ _ (bl_tr HB2.out H23.out))))) _)
  · have hE : bindE [] l = 0 := by have hq : (bindE [] l != 0) = false := by assumption
                                   simpa using hq
    have hA : a.2 = 0 := by have hq : (a.2 != 0) = false := by assumption
                            simpa using hq
    have HHA : Hid (hidA l a = (Tt.around 11 l a.1, 0)) := by show _ = _; unfold hidA; rw [if_pos hE, if_pos hA]
    obtain ⟨R, hR⟩ : ∃ R, Tt.around 11 l a.1 = R := ⟨_, rfl⟩
    rw [hR] at HHA
    have HRe := hid hR
    clear hR y3' z3' y3 z3 x3 c3
    have HDB : Hid (Below (w3.alloc (.cells #[.int .i64 a.1.k, .int .i64 a.1.n, .slice p' a.1.ls.length q', .slice p a.1.ks.length q] 32)).heap.size (w3.alloc (.cells #[.int .i64 a.1.k, .int .i64 a.1.n, .slice p' a.1.ls.length q', .slice p a.1.ks.length q] 32)) (w3.alloc (.cells #[.int .i64 a.1.k, .int .i64 a.1.n, .slice p' a.1.ls.length q', .slice p a.1.ks.length q] 32)).drew) := (Below.refl _ _).drew
    have hs0 : Hid (Arr (w3.alloc (.cells #[.int .i64 a.1.k, .int .i64 a.1.n, .slice p' a.1.ls.length q', .slice p a.1.ks.length q] 32)).drew w3.heap.size 32 [.int .i64 a.1.k, .int .i64 a.1.n, .slice p' a.1.ls.length q', .slice p a.1.ks.length q] ∧ Below w.heap.size w (w3.alloc (.cells #[.int .i64 a.1.k, .int .i64 a.1.n, .slice p' a.1.ls.length q', .slice p a.1.ks.length q] 32)).drew) := ⟨X3.out.stays HDB.out, bl_tr HB3.out HDB.out⟩
    have HYd := hid (Y3.out.stays HDB.out)
    have HTd := hid ((HT3.out.below (bl_alloc (Below.refl _ _) (.cells #[.int .i64 a.1.k, .int .i64 a.1.n, .slice p' a.1.ls.length q', .slice p a.1.ks.length q] 32))).below HDB.out)
    clear X3 HB3 Y3 HT3 HDB
    refine wp_region_held_drew (S := fun wz => Arr wz w3.heap.size 32 [.int .i64 a.1.k, .int .i64 a.1.n, .slice p' a.1.ls.length q', .slice p a.1.ks.length q] ∧ Below w.heap.size w wz) (by kernel_rfl) (hs0.out) (fun hS => ?_)
    generalize (w3.alloc (.cells #[.int .i64 a.1.k, .int .i64 a.1.n, .slice p' a.1.ls.length q', .slice p a.1.ks.length q] 32)).drew = wd at hS HTd HYd ⊢
    refine wpAnyH_take (i := 0) (v := ?_) rfl (by kernel_rfl) (by kernel_rfl) (by kernel_rfl) (fun _ _ _ h => h) (Or.inl ⟨by rfl, ?_⟩) hS ?_
    rotate_left
    · intro wz hz; go_simp; try with_reducible rfl
    try simp only [Act.put, List.setIfInBounds_toArray, List.set_cons_zero, List.set_cons_succ, List.getElem_toArray, List.getElem_cons_succ, List.getElem_cons_zero]
    refine wpAnyH_take (i := 1) (v := ?_) rfl (by kernel_rfl) (by kernel_rfl) (by kernel_rfl) (fun _ _ _ h => h) (Or.inl ⟨by rfl, ?_⟩) hS ?_
    rotate_left
    · intro wz hz; go_simp; try with_reducible rfl
    try simp only [Act.put, List.setIfInBounds_toArray, List.set_cons_zero, List.set_cons_succ, List.getElem_toArray, List.getElem_cons_succ, List.getElem_cons_zero]
    refine wpAnyH_take (i := 2) (v := ?_) rfl (by kernel_rfl) (by kernel_rfl) (by kernel_rfl) (fun _ _ _ h => h) (Or.inl ⟨by rfl, ?_⟩) hS ?_
    rotate_left
    · intro wz hz; go_simp; try with_reducible rfl
    try simp only [Act.put, List.setIfInBounds_toArray, List.set_cons_zero, List.set_cons_succ, List.getElem_toArray, List.getElem_cons_succ, List.getElem_cons_zero]
    refine wpAnyH_take (i := 3) (v := ?_) rfl (by kernel_rfl) (by kernel_rfl) (by kernel_rfl) (fun _ _ _ h => h) (Or.inl ⟨by rfl, ?_⟩) hS ?_
    rotate_left
    · intro wz hz; have yy0 := hz.1.cell; have yy1 := (hz.2.cell (p := ⟨pb, po, none⟩) hpb).trans HC.out; go_simp; try with_reducible rfl
    try simp only [Act.put, List.setIfInBounds_toArray, List.set_cons_zero, List.set_cons_succ, List.getElem_toArray, List.getElem_cons_succ, List.getElem_cons_zero]
    refine wpAnyH_take (i := 4) (v := ?_) rfl (by kernel_rfl) (by kernel_rfl) (by kernel_rfl) (fun _ _ _ h => h) (Or.inl ⟨by rfl, ?_⟩) hS ?_
    rotate_left
    · intro wz hz; have yy0 := hz.1.cell; have yy1 := (hz.2.cell (p := ⟨pb, po, none⟩) hpb).trans HC.out; go_simp; try with_reducible rfl
    try simp only [Act.put, List.setIfInBounds_toArray, List.set_cons_zero, List.set_cons_succ, List.getElem_toArray, List.getElem_cons_succ, List.getElem_cons_zero]
    refine wpAnyH_ready (rs := [5]) (by kernel_rfl) (by simp) (AllReadyH.cons rfl (fun K hK => ?a1_5) AllReadyH.nil)
    case' a1_5 =>
      go_simp
      have hbo := bound_all wd (fun b => w2.heap.size ≤ b) 11 ⟨by omega, by omega⟩ la lc l (HL.out.below hS.2) H64.out hln N a.1 p' p q' q HTd.out
      rw [HRe.out] at hbo
      refine Calls.mono hbo ?_
      clear hbo
      rintro e w7 ⟨⟨pp', qq', pp, qq, NN, rfl, hT7⟩, b7⟩
      have HT7 := hid hT7
      have Y7 := hid (HYd.out.stays b7)
      have y7 := Y7.out.cell
      have z7 := Y7.out.frozen
      have hwd := HYd.out.lt
      refine hK.out _ _ (⟨hS.1.stays b7, bl_tr hS.2 b7⟩) (fun hSn => ?_)
      clear hK K hS
      have hS := hSn
      clear hSn
      try simp only [Act.put, List.setIfInBounds_toArray, List.set_cons_zero, List.set_cons_succ, List.getElem_toArray, List.getElem_cons_succ, List.getElem_cons_zero]
      clear b7 hT7 HTd HYd
      refine wpAnyH_ready (rs := [6]) (by kernel_rfl) (by simp) (AllReadyH.cons rfl (fun K hK => ?a2_6) AllReadyH.nil)
      case' a2_6 =>
        go_simp
        refine hK.out _ _ (⟨(((hS.1.other (p := ⟨w.heap.size, 0, none⟩) (by show w3.heap.size ≠ w.heap.size; omega) _).other (p := ⟨w.heap.size, 1, none⟩) (by show w3.heap.size ≠ w.heap.size; omega) _).other (p := ⟨w.heap.size, 2, none⟩) (by show w3.heap.size ≠ w.heap.size; omega) _).other (p := ⟨w.heap.size, 3, none⟩) (by show w3.heap.size ≠ w.heap.size; omega) _, HSS.out _ _ _ (HSS.out _ _ _ (HSS.out _ _ _ (HSS.out _ _ _ hS.2)))⟩) (fun hSn => ?_)
        clear hK K hS
        have hS := hSn
        clear hSn
        try simp only [Act.put, List.setIfInBounds_toArray, List.set_cons_zero, List.set_cons_succ, List.getElem_toArray, List.getElem_cons_succ, List.getElem_cons_zero]
        refine wpAnyH_ready (rs := [7]) (by kernel_rfl) (by simp) (AllReadyH.cons rfl (fun K hK => ?a3_7) AllReadyH.nil)
        case' a3_7 =>
          go_simp
          refine hK.out _ _ (hS) (fun hSn => ?_)
          clear hK K hS
          have hS := hSn
          clear hSn
          try simp only [Act.put, List.setIfInBounds_toArray, List.set_cons_zero, List.set_cons_succ, List.getElem_toArray, List.getElem_cons_succ, List.getElem_cons_zero]
          refine wpAnyH_done (by kernel_rfl) ?_ _
    all_goals (
      go_wp2
      refine bodyPost_ret (v := .tuple #[.agg #[.int .i64 R.k, .int .i64 R.n, .slice pp' R.ls.length qq', .slice pp R.ks.length qq], .int .i64 0]) (by rw [results_cell2t (fn := Try.f59) (p := 2) (a := 3) (ty := 32) (by kernel_rfl)]; simp [go_sem, y7, z7]) rfl ?_
      rw [HHA.out]
      have hK : ∀ (W : World) i u, Tgt.Keeps (fun b => (w2.heap.size ≤ b ∧ b < wd.heap.size) ∨ wd.heap.size + 3 ≤ b) W (W.setCell ⟨w.heap.size, i, none⟩ u) := fun W i u b o v hb hv => by have hb : (w2.heap.size ≤ b ∧ b < wd.heap.size) ∨ wd.heap.size + 3 ≤ b := hb; rw [World.cell?_of_block (w := W) (Below.heap_setCell _ _ _ _ (by show b ≠ w.heap.size; omega))]; exact hv
      exact ⟨⟨pp', qq', pp, qq, _, rfl, HT7.out.move (((hK _ _ _).trans (hK _ _ _)).trans ((hK _ _ _).trans (hK _ _ _))) (fun b hb => by have hb : (w2.heap.size ≤ b ∧ b < wd.heap.size) ∨ wd.heap.size + 3 ≤ b := hb; show w.heap.size ≤ b; omega)⟩, hS.2⟩)
end Go.Proofs.Ytigliglmejkakab
