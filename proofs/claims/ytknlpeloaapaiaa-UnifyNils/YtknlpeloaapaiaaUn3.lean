/- merge of two open metas. -/
import Derived.Deep.Cut
import Derived.Deep.CutRange
import Derived.Deep.RegionHeld
import Derived.Test.YtknlpeloaapaiaaUn2
namespace Go.Proofs.Ytknlpeloaapaiaa
open Go.RowKit
set_option linter.unusedVariables false
set_option linter.unusedSimpArgs false

theorem bl_on {B : Nat} {W w w' : World} (h : Below B W w) (hb : Below w.heap.size w w') (hB : B ≤ w.heap.size := by first | exact Below.size (by assumption) | omega) : Below B W w' := h.trans (hb.mono hB)
theorem bl_put {B : Nat} {W w : World} (h : Below B W w) {p : Addr} (v : Value) (hp : B ≤ p.block) : Below B W (w.setCell p v) := h.setCell hp v

set_option maxHeartbeats 4000000 in
set_option maxRecDepth 100000 in
theorem merge_open (w : World) (J S g cap : Nat) (mv : Value) (more : List Value) (h : Jn w J S g cap mv none none more (.slice none 0 0) 0) : Calls Try.prog 80 #[.pointer (some ⟨J, 0, none⟩), .int .i64 1, .int .i64 0] w fun e w' => e = .returned (.tuple #[]) ∧ (∃ (q0 q1 : Nat) (cv' : Value), Jn w' J S g cap mv (some ⟨q0, 0, none⟩) (some ⟨q1, 0, none⟩) more cv' 2 ∧ Arr w' q1 FT [.int .i64 1, .int .i64 1, .int .i64 0, .int .i64 1, .pointer none, .int .i64 1, .pointer none] ∧ Arr w' q0 FT [.int .i64 1, .int .i64 0, .int .i64 0, .int .i64 0, .pointer none, .int .i64 0, .pointer none] ∧ w.heap.size ≤ q0 ∧ w.heap.size ≤ q1) ∧ Fr J g (.slice none 0 0) w w' := by
  have h1 : Hid (∀ wz, Below w.heap.size w wz → Calls Try.prog 54 #[.pointer (some ⟨S, 0, none⟩), .int .i64 1] wz fun e w' => e = .returned (.agg #[.int .i64 1, .int .i64 0, .int .i64 1, .int .i64 1, .pointer none, .int .i64 1, .pointer none]) ∧ Below wz.heap.size wz w') := fun wz hz => at_nil wz S g cap mv none none more (h.sto.stays hz) 1 (by decide) rfl
  have h0 : Hid (∀ wz, Below w.heap.size w wz → Calls Try.prog 54 #[.pointer (some ⟨S, 0, none⟩), .int .i64 0] wz fun e w' => e = .returned (.agg #[.int .i64 0, .int .i64 0, .int .i64 0, .int .i64 0, .pointer none, .int .i64 1, .pointer none]) ∧ Below wz.heap.size wz w') := fun wz hz => at_nil wz S g cap mv none none more (h.sto.stays hz) 0 (by decide) rfl
  have qJ : Hid (∀ wz, Below w.heap.size w wz → wz.cell? ⟨J, 0, none⟩ = some (.pointer (some ⟨S, 0, none⟩))) := fun wz hz => (h.jn.stays hz).cell 0
  have HH := hid h
  clear h
  go_enter Try.func80, Try.ntmps80
  go_upto_region 0 with fail
  go_cut [6, 7] from 6 to 19 (fun u6 u7 wx => ∃ pX pY : Nat, u6 = .pointer (some ⟨pX, 0, none⟩) ∧ u7 = .pointer (some ⟨pY, 0, none⟩) ∧ ¬ pX = pY ∧ Hid (w.heap.size ≤ pX ∧ w.heap.size ≤ pY) ∧ Hid (Arr wx pX FT [.int .i64 1, .int .i64 0, .int .i64 1, .int .i64 1, .pointer none, .int .i64 1, .pointer none]) ∧ Hid (Arr wx pY FT [.int .i64 0, .int .i64 0, .int .i64 0, .int .i64 0, .pointer none, .int .i64 1, .pointer none]) ∧ Hid (Below w.heap.size w wx))
  case first =>
    refine wp_region_held_drew (S := fun wz => Below w.heap.size w wz) (by kernel_rfl) ((Below.refl _ _).drew) (fun hS => ?_)
    generalize w.drew = wc0 at hS   ⊢
    refine wpAnyH_take (i := 0) (v := ?_) rfl (by kernel_rfl) (by kernel_rfl) (by kernel_rfl) (fun _ _ _ h => h) (Or.inl ⟨by rfl, ?_⟩) hS ?_
    rotate_left
    · intro wz hz; go_simp; try with_reducible rfl
    try simp only [Act.put, List.setIfInBounds_toArray, List.set_cons_zero, List.set_cons_succ, List.getElem_toArray, List.getElem_cons_succ, List.getElem_cons_zero]
    refine wpAnyH_take (i := 1) (v := ?_) rfl (by kernel_rfl) (by kernel_rfl) (by kernel_rfl) (fun _ _ _ h => h) (Or.inl ⟨by rfl, ?_⟩) hS ?_
    rotate_left
    · intro wz hz; go_simp; try with_reducible rfl
    try simp only [Act.put, List.setIfInBounds_toArray, List.set_cons_zero, List.set_cons_succ, List.getElem_toArray, List.getElem_cons_succ, List.getElem_cons_zero]
    refine wpAnyH_take (i := 2) (v := ?_) rfl (by kernel_rfl) (by kernel_rfl) (by kernel_rfl) (fun _ _ _ h => h) (Or.inl ⟨by rfl, ?_⟩) hS ?_
    rotate_left
    · intro wz hz; go_simp; try with_reducible rfl
    try simp only [Act.put, List.setIfInBounds_toArray, List.set_cons_zero, List.set_cons_succ, List.getElem_toArray, List.getElem_cons_succ, List.getElem_cons_zero]
    refine wpAnyH_take (i := 3) (v := ?_) rfl (by kernel_rfl) (by kernel_rfl) (by kernel_rfl) (fun _ _ _ h => h) (Or.inl ⟨by rfl, ?_⟩) hS ?_
    rotate_left
    · intro wz hz; have yy0 := qJ.out wz hz; go_simp; try with_reducible rfl
    try simp only [Act.put, List.setIfInBounds_toArray, List.set_cons_zero, List.set_cons_succ, List.getElem_toArray, List.getElem_cons_succ, List.getElem_cons_zero]
    refine wpAnyH_take (i := 4) (v := ?_) rfl (by kernel_rfl) (by kernel_rfl) (by kernel_rfl) (fun _ _ _ h => h) (Or.inl ⟨by rfl, ?_⟩) hS ?_
    rotate_left
    · intro wz hz; go_simp; try with_reducible rfl
    try simp only [Act.put, List.setIfInBounds_toArray, List.set_cons_zero, List.set_cons_succ, List.getElem_toArray, List.getElem_cons_succ, List.getElem_cons_zero]
    refine wpAnyH_take (i := 6) (v := ?_) rfl (by kernel_rfl) (by kernel_rfl) (by kernel_rfl) (fun _ _ _ h => h) (Or.inl ⟨by rfl, ?_⟩) hS ?_
    rotate_left
    · intro wz hz; go_simp; try with_reducible rfl
    try simp only [Act.put, List.setIfInBounds_toArray, List.set_cons_zero, List.set_cons_succ, List.getElem_toArray, List.getElem_cons_succ, List.getElem_cons_zero]
    refine wpAnyH_take (i := 7) (v := ?_) rfl (by kernel_rfl) (by kernel_rfl) (by kernel_rfl) (fun _ _ _ h => h) (Or.inl ⟨by rfl, ?_⟩) hS ?_
    rotate_left
    · intro wz hz; go_simp; try with_reducible rfl
    try simp only [Act.put, List.setIfInBounds_toArray, List.set_cons_zero, List.set_cons_succ, List.getElem_toArray, List.getElem_cons_succ, List.getElem_cons_zero]
    refine wpAnyH_take (i := 8) (v := ?_) rfl (by kernel_rfl) (by kernel_rfl) (by kernel_rfl) (fun _ _ _ h => h) (Or.inl ⟨by rfl, ?_⟩) hS ?_
    rotate_left
    · intro wz hz; go_simp; try with_reducible rfl
    try simp only [Act.put, List.setIfInBounds_toArray, List.set_cons_zero, List.set_cons_succ, List.getElem_toArray, List.getElem_cons_succ, List.getElem_cons_zero]
    refine wpAnyH_take (i := 9) (v := ?_) rfl (by kernel_rfl) (by kernel_rfl) (by kernel_rfl) (fun _ _ _ h => h) (Or.inl ⟨by rfl, ?_⟩) hS ?_
    rotate_left
    · intro wz hz; have yy0 := qJ.out wz hz; go_simp; try with_reducible rfl
    try simp only [Act.put, List.setIfInBounds_toArray, List.set_cons_zero, List.set_cons_succ, List.getElem_toArray, List.getElem_cons_succ, List.getElem_cons_zero]
    refine wpAnyH_take (i := 10) (v := ?_) rfl (by kernel_rfl) (by kernel_rfl) (by kernel_rfl) (fun _ _ _ h => h) (Or.inl ⟨by rfl, ?_⟩) hS ?_
    rotate_left
    · intro wz hz; go_simp; try with_reducible rfl
    try simp only [Act.put, List.setIfInBounds_toArray, List.set_cons_zero, List.set_cons_succ, List.getElem_toArray, List.getElem_cons_succ, List.getElem_cons_zero]
    refine wpAnyH_ready (rs := [5, 12, 13]) (by kernel_rfl) (by simp) (AllReadyH.cons rfl (fun K hK => ?a1_5) (AllReadyH.cons rfl (fun K hK => ?a1_12) (AllReadyH.cons rfl (fun K hK => ?a1_13) AllReadyH.nil)))
    case' a1_5 =>
      go_simp
      refine (h1.out wc0 hS).mono ?_
      rintro e wc1 ⟨rfl, hb⟩
      refine hK.out _ _ (bl_on hS hb) (fun hSn => ?_)
      clear hK K hS
      have hS := hSn
      clear hSn
      try simp only [Act.put, List.setIfInBounds_toArray, List.set_cons_zero, List.set_cons_succ, List.getElem_toArray, List.getElem_cons_succ, List.getElem_cons_zero]
      clear hb
      refine wpAnyH_ready (rs := [11, 12, 13]) (by kernel_rfl) (by simp) (AllReadyH.cons rfl (fun K hK => ?a2_11) (AllReadyH.cons rfl (fun K hK => ?a2_12) (AllReadyH.cons rfl (fun K hK => ?a2_13) AllReadyH.nil)))
      case' a2_11 =>
        go_simp
        refine (h0.out wc1 hS).mono ?_
        rintro e wc2 ⟨rfl, hb⟩
        refine hK.out _ _ (bl_on hS hb) (fun hSn => ?_)
        clear hK K hS
        have hS := hSn
        clear hSn
        try simp only [Act.put, List.setIfInBounds_toArray, List.set_cons_zero, List.set_cons_succ, List.getElem_toArray, List.getElem_cons_succ, List.getElem_cons_zero]
        clear hb
        refine wpAnyH_ready (rs := [12, 13]) (by kernel_rfl) (by simp) (AllReadyH.cons rfl (fun K hK => ?a3_12) (AllReadyH.cons rfl (fun K hK => ?a3_13) AllReadyH.nil))
        case' a3_12 =>
          go_simp
          have X : Hid (Arr (wc2.alloc (.cells #[.int .i64 0, .int .i64 0, .int .i64 0, .int .i64 0, .pointer none, .int .i64 0, .pointer none] FT)) wc2.heap.size FT [.int .i64 0, .int .i64 0, .int .i64 0, .int .i64 0, .pointer none, .int .i64 0, .pointer none]) := ⟨heap_alloc_at _ _⟩
          have hbn : Below wc2.heap.size wc2 (wc2.alloc (.cells #[.int .i64 0, .int .i64 0, .int .i64 0, .int .i64 0, .pointer none, .int .i64 0, .pointer none] FT)) := bl_alloc (Below.refl _ _) _
          have hSn := bl_on hS hbn
          generalize hwn : wc2.alloc (.cells #[.int .i64 0, .int .i64 0, .int .i64 0, .int .i64 0, .pointer none, .int .i64 0, .pointer none] FT) = wc3 at X hSn  ⊢
          have qX : w.heap.size ≤ wc2.heap.size := hS.size
          generalize hpX : wc2.heap.size = pX at X qX  ⊢
          clear hbn hwn hpX
          refine hK.out _ _ (hSn) (fun hSn => ?_)
          clear hK K hS
          have hS := hSn
          clear hSn
          try simp only [Act.put, List.setIfInBounds_toArray, List.set_cons_zero, List.set_cons_succ, List.getElem_toArray, List.getElem_cons_succ, List.getElem_cons_zero]
          refine wpAnyH_ready (rs := [13]) (by kernel_rfl) (by simp) (AllReadyH.cons rfl (fun K hK => ?a4_13) AllReadyH.nil)
          case' a4_13 =>
            go_simp
            have Y : Hid (Arr (wc3.alloc (.cells #[.int .i64 0, .int .i64 0, .int .i64 0, .int .i64 0, .pointer none, .int .i64 0, .pointer none] FT)) wc3.heap.size FT [.int .i64 0, .int .i64 0, .int .i64 0, .int .i64 0, .pointer none, .int .i64 0, .pointer none]) := ⟨heap_alloc_at _ _⟩
            have hbn : Below wc3.heap.size wc3 (wc3.alloc (.cells #[.int .i64 0, .int .i64 0, .int .i64 0, .int .i64 0, .pointer none, .int .i64 0, .pointer none] FT)) := bl_alloc (Below.refl _ _) _
            have hSn := bl_on hS hbn
            have nYX : ¬ pX = wc3.heap.size := by have := X.out.lt; omega
            have X := hid (X.out.stays hbn)
            generalize hwn : wc3.alloc (.cells #[.int .i64 0, .int .i64 0, .int .i64 0, .int .i64 0, .pointer none, .int .i64 0, .pointer none] FT) = wc4 at Y hSn X ⊢
            have qY : w.heap.size ≤ wc3.heap.size := hS.size
            generalize hpY : wc3.heap.size = pY at Y qY nYX ⊢
            clear hbn hwn hpY
            refine hK.out _ _ (hSn) (fun hSn => ?_)
            clear hK K hS
            have hS := hSn
            clear hSn
            try simp only [Act.put, List.setIfInBounds_toArray, List.set_cons_zero, List.set_cons_succ, List.getElem_toArray, List.getElem_cons_succ, List.getElem_cons_zero]
            refine wpAnyH_ready (rs := [14]) (by kernel_rfl) (by simp) (AllReadyH.cons rfl (fun K hK => ?a5_14) AllReadyH.nil)
            case' a5_14 =>
              go_simp
              have cc := X.out.cell
              have cf := X.out.frozen
              go_simp
              have X := hid (((((((X.out.set 0 (.int .i64 1)).set 1 (.int .i64 0)).set 2 (.int .i64 1)).set 3 (.int .i64 1)).set 4 (.pointer none)).set 5 (.int .i64 1)).set 6 (.pointer none))
              have Y := hid (((((((Y.out.other (p := ⟨pX, 0, none⟩) (by show ¬ pY = pX; omega) (.int .i64 1)).other (p := ⟨pX, 1, none⟩) (by show ¬ pY = pX; omega) (.int .i64 0)).other (p := ⟨pX, 2, none⟩) (by show ¬ pY = pX; omega) (.int .i64 1)).other (p := ⟨pX, 3, none⟩) (by show ¬ pY = pX; omega) (.int .i64 1)).other (p := ⟨pX, 4, none⟩) (by show ¬ pY = pX; omega) (.pointer none)).other (p := ⟨pX, 5, none⟩) (by show ¬ pY = pX; omega) (.int .i64 1)).other (p := ⟨pX, 6, none⟩) (by show ¬ pY = pX; omega) (.pointer none))
              simp only [List.set_cons_zero, List.set_cons_succ] at X
              have hSn : Below w.heap.size w (((((((wc4.setCell ⟨pX, 0, none⟩ (.int .i64 1)).setCell ⟨pX, 1, none⟩ (.int .i64 0)).setCell ⟨pX, 2, none⟩ (.int .i64 1)).setCell ⟨pX, 3, none⟩ (.int .i64 1)).setCell ⟨pX, 4, none⟩ (.pointer none)).setCell ⟨pX, 5, none⟩ (.int .i64 1)).setCell ⟨pX, 6, none⟩ (.pointer none)) := (bl_put (bl_put (bl_put (bl_put (bl_put (bl_put (bl_put hS (p := ⟨pX, 0, none⟩) (.int .i64 1) qX) (p := ⟨pX, 1, none⟩) (.int .i64 0) qX) (p := ⟨pX, 2, none⟩) (.int .i64 1) qX) (p := ⟨pX, 3, none⟩) (.int .i64 1) qX) (p := ⟨pX, 4, none⟩) (.pointer none) qX) (p := ⟨pX, 5, none⟩) (.int .i64 1) qX) (p := ⟨pX, 6, none⟩) (.pointer none) qX)
              generalize (((((((wc4.setCell ⟨pX, 0, none⟩ (.int .i64 1)).setCell ⟨pX, 1, none⟩ (.int .i64 0)).setCell ⟨pX, 2, none⟩ (.int .i64 1)).setCell ⟨pX, 3, none⟩ (.int .i64 1)).setCell ⟨pX, 4, none⟩ (.pointer none)).setCell ⟨pX, 5, none⟩ (.int .i64 1)).setCell ⟨pX, 6, none⟩ (.pointer none)) = wc5 at X hSn Y ⊢
              clear cc cf
              refine hK.out _ _ (hSn) (fun hSn => ?_)
              clear hK K hS
              have hS := hSn
              clear hSn
              try simp only [Act.put, List.setIfInBounds_toArray, List.set_cons_zero, List.set_cons_succ, List.getElem_toArray, List.getElem_cons_succ, List.getElem_cons_zero]
              refine wpAnyH_ready (rs := [15]) (by kernel_rfl) (by simp) (AllReadyH.cons rfl (fun K hK => ?a6_15) AllReadyH.nil)
              case' a6_15 =>
                go_simp
                have cc := Y.out.cell
                have cf := Y.out.frozen
                go_simp
                have Y := hid (((((((Y.out.set 0 (.int .i64 0)).set 1 (.int .i64 0)).set 2 (.int .i64 0)).set 3 (.int .i64 0)).set 4 (.pointer none)).set 5 (.int .i64 1)).set 6 (.pointer none))
                have X := hid (((((((X.out.other (p := ⟨pY, 0, none⟩) (by show ¬ pX = pY; omega) (.int .i64 0)).other (p := ⟨pY, 1, none⟩) (by show ¬ pX = pY; omega) (.int .i64 0)).other (p := ⟨pY, 2, none⟩) (by show ¬ pX = pY; omega) (.int .i64 0)).other (p := ⟨pY, 3, none⟩) (by show ¬ pX = pY; omega) (.int .i64 0)).other (p := ⟨pY, 4, none⟩) (by show ¬ pX = pY; omega) (.pointer none)).other (p := ⟨pY, 5, none⟩) (by show ¬ pX = pY; omega) (.int .i64 1)).other (p := ⟨pY, 6, none⟩) (by show ¬ pX = pY; omega) (.pointer none))
                simp only [List.set_cons_zero, List.set_cons_succ] at Y
                have hSn : Below w.heap.size w (((((((wc5.setCell ⟨pY, 0, none⟩ (.int .i64 0)).setCell ⟨pY, 1, none⟩ (.int .i64 0)).setCell ⟨pY, 2, none⟩ (.int .i64 0)).setCell ⟨pY, 3, none⟩ (.int .i64 0)).setCell ⟨pY, 4, none⟩ (.pointer none)).setCell ⟨pY, 5, none⟩ (.int .i64 1)).setCell ⟨pY, 6, none⟩ (.pointer none)) := (bl_put (bl_put (bl_put (bl_put (bl_put (bl_put (bl_put hS (p := ⟨pY, 0, none⟩) (.int .i64 0) qY) (p := ⟨pY, 1, none⟩) (.int .i64 0) qY) (p := ⟨pY, 2, none⟩) (.int .i64 0) qY) (p := ⟨pY, 3, none⟩) (.int .i64 0) qY) (p := ⟨pY, 4, none⟩) (.pointer none) qY) (p := ⟨pY, 5, none⟩) (.int .i64 1) qY) (p := ⟨pY, 6, none⟩) (.pointer none) qY)
                generalize (((((((wc5.setCell ⟨pY, 0, none⟩ (.int .i64 0)).setCell ⟨pY, 1, none⟩ (.int .i64 0)).setCell ⟨pY, 2, none⟩ (.int .i64 0)).setCell ⟨pY, 3, none⟩ (.int .i64 0)).setCell ⟨pY, 4, none⟩ (.pointer none)).setCell ⟨pY, 5, none⟩ (.int .i64 1)).setCell ⟨pY, 6, none⟩ (.pointer none)) = wc6 at Y hSn X ⊢
                clear cc cf
                refine hK.out _ _ (hSn) (fun hSn => ?_)
                clear hK K hS
                have hS := hSn
                clear hSn
                try simp only [Act.put, List.setIfInBounds_toArray, List.set_cons_zero, List.set_cons_succ, List.getElem_toArray, List.getElem_cons_succ, List.getElem_cons_zero]
                refine wpAnyH_done (by kernel_rfl) ?_ _
        case' a3_13 =>
          go_simp
          have Y : Hid (Arr (wc2.alloc (.cells #[.int .i64 0, .int .i64 0, .int .i64 0, .int .i64 0, .pointer none, .int .i64 0, .pointer none] FT)) wc2.heap.size FT [.int .i64 0, .int .i64 0, .int .i64 0, .int .i64 0, .pointer none, .int .i64 0, .pointer none]) := ⟨heap_alloc_at _ _⟩
          have hbn : Below wc2.heap.size wc2 (wc2.alloc (.cells #[.int .i64 0, .int .i64 0, .int .i64 0, .int .i64 0, .pointer none, .int .i64 0, .pointer none] FT)) := bl_alloc (Below.refl _ _) _
          have hSn := bl_on hS hbn
          generalize hwn : wc2.alloc (.cells #[.int .i64 0, .int .i64 0, .int .i64 0, .int .i64 0, .pointer none, .int .i64 0, .pointer none] FT) = wc3 at Y hSn  ⊢
          have qY : w.heap.size ≤ wc2.heap.size := hS.size
          generalize hpY : wc2.heap.size = pY at Y qY  ⊢
          clear hbn hwn hpY
          refine hK.out _ _ (hSn) (fun hSn => ?_)
          clear hK K hS
          have hS := hSn
          clear hSn
          try simp only [Act.put, List.setIfInBounds_toArray, List.set_cons_zero, List.set_cons_succ, List.getElem_toArray, List.getElem_cons_succ, List.getElem_cons_zero]
          refine wpAnyH_ready (rs := [12]) (by kernel_rfl) (by simp) (AllReadyH.cons rfl (fun K hK => ?a7_12) AllReadyH.nil)
          case' a7_12 =>
            go_simp
            have X : Hid (Arr (wc3.alloc (.cells #[.int .i64 0, .int .i64 0, .int .i64 0, .int .i64 0, .pointer none, .int .i64 0, .pointer none] FT)) wc3.heap.size FT [.int .i64 0, .int .i64 0, .int .i64 0, .int .i64 0, .pointer none, .int .i64 0, .pointer none]) := ⟨heap_alloc_at _ _⟩
            have hbn : Below wc3.heap.size wc3 (wc3.alloc (.cells #[.int .i64 0, .int .i64 0, .int .i64 0, .int .i64 0, .pointer none, .int .i64 0, .pointer none] FT)) := bl_alloc (Below.refl _ _) _
            have hSn := bl_on hS hbn
            have nXY : ¬ pY = wc3.heap.size := by have := Y.out.lt; omega
            have Y := hid (Y.out.stays hbn)
            generalize hwn : wc3.alloc (.cells #[.int .i64 0, .int .i64 0, .int .i64 0, .int .i64 0, .pointer none, .int .i64 0, .pointer none] FT) = wc4 at X hSn Y ⊢
            have qX : w.heap.size ≤ wc3.heap.size := hS.size
            generalize hpX : wc3.heap.size = pX at X qX nXY ⊢
            clear hbn hwn hpX
            refine hK.out _ _ (hSn) (fun hSn => ?_)
            clear hK K hS
            have hS := hSn
            clear hSn
            try simp only [Act.put, List.setIfInBounds_toArray, List.set_cons_zero, List.set_cons_succ, List.getElem_toArray, List.getElem_cons_succ, List.getElem_cons_zero]
            refine wpAnyH_ready (rs := [14]) (by kernel_rfl) (by simp) (AllReadyH.cons rfl (fun K hK => ?a8_14) AllReadyH.nil)
            case' a8_14 =>
              go_simp
              have cc := X.out.cell
              have cf := X.out.frozen
              go_simp
              have X := hid (((((((X.out.set 0 (.int .i64 1)).set 1 (.int .i64 0)).set 2 (.int .i64 1)).set 3 (.int .i64 1)).set 4 (.pointer none)).set 5 (.int .i64 1)).set 6 (.pointer none))
              have Y := hid (((((((Y.out.other (p := ⟨pX, 0, none⟩) (by show ¬ pY = pX; omega) (.int .i64 1)).other (p := ⟨pX, 1, none⟩) (by show ¬ pY = pX; omega) (.int .i64 0)).other (p := ⟨pX, 2, none⟩) (by show ¬ pY = pX; omega) (.int .i64 1)).other (p := ⟨pX, 3, none⟩) (by show ¬ pY = pX; omega) (.int .i64 1)).other (p := ⟨pX, 4, none⟩) (by show ¬ pY = pX; omega) (.pointer none)).other (p := ⟨pX, 5, none⟩) (by show ¬ pY = pX; omega) (.int .i64 1)).other (p := ⟨pX, 6, none⟩) (by show ¬ pY = pX; omega) (.pointer none))
              simp only [List.set_cons_zero, List.set_cons_succ] at X
              have hSn : Below w.heap.size w (((((((wc4.setCell ⟨pX, 0, none⟩ (.int .i64 1)).setCell ⟨pX, 1, none⟩ (.int .i64 0)).setCell ⟨pX, 2, none⟩ (.int .i64 1)).setCell ⟨pX, 3, none⟩ (.int .i64 1)).setCell ⟨pX, 4, none⟩ (.pointer none)).setCell ⟨pX, 5, none⟩ (.int .i64 1)).setCell ⟨pX, 6, none⟩ (.pointer none)) := (bl_put (bl_put (bl_put (bl_put (bl_put (bl_put (bl_put hS (p := ⟨pX, 0, none⟩) (.int .i64 1) qX) (p := ⟨pX, 1, none⟩) (.int .i64 0) qX) (p := ⟨pX, 2, none⟩) (.int .i64 1) qX) (p := ⟨pX, 3, none⟩) (.int .i64 1) qX) (p := ⟨pX, 4, none⟩) (.pointer none) qX) (p := ⟨pX, 5, none⟩) (.int .i64 1) qX) (p := ⟨pX, 6, none⟩) (.pointer none) qX)
              generalize (((((((wc4.setCell ⟨pX, 0, none⟩ (.int .i64 1)).setCell ⟨pX, 1, none⟩ (.int .i64 0)).setCell ⟨pX, 2, none⟩ (.int .i64 1)).setCell ⟨pX, 3, none⟩ (.int .i64 1)).setCell ⟨pX, 4, none⟩ (.pointer none)).setCell ⟨pX, 5, none⟩ (.int .i64 1)).setCell ⟨pX, 6, none⟩ (.pointer none)) = wc5 at X hSn Y ⊢
              clear cc cf
              refine hK.out _ _ (hSn) (fun hSn => ?_)
              clear hK K hS
              have hS := hSn
              clear hSn
              try simp only [Act.put, List.setIfInBounds_toArray, List.set_cons_zero, List.set_cons_succ, List.getElem_toArray, List.getElem_cons_succ, List.getElem_cons_zero]
              refine wpAnyH_ready (rs := [15]) (by kernel_rfl) (by simp) (AllReadyH.cons rfl (fun K hK => ?a9_15) AllReadyH.nil)
              case' a9_15 =>
                go_simp
                have cc := Y.out.cell
                have cf := Y.out.frozen
                go_simp
                have Y := hid (((((((Y.out.set 0 (.int .i64 0)).set 1 (.int .i64 0)).set 2 (.int .i64 0)).set 3 (.int .i64 0)).set 4 (.pointer none)).set 5 (.int .i64 1)).set 6 (.pointer none))
                have X := hid (((((((X.out.other (p := ⟨pY, 0, none⟩) (by show ¬ pX = pY; omega) (.int .i64 0)).other (p := ⟨pY, 1, none⟩) (by show ¬ pX = pY; omega) (.int .i64 0)).other (p := ⟨pY, 2, none⟩) (by show ¬ pX = pY; omega) (.int .i64 0)).other (p := ⟨pY, 3, none⟩) (by show ¬ pX = pY; omega) (.int .i64 0)).other (p := ⟨pY, 4, none⟩) (by show ¬ pX = pY; omega) (.pointer none)).other (p := ⟨pY, 5, none⟩) (by show ¬ pX = pY; omega) (.int .i64 1)).other (p := ⟨pY, 6, none⟩) (by show ¬ pX = pY; omega) (.pointer none))
                simp only [List.set_cons_zero, List.set_cons_succ] at Y
                have hSn : Below w.heap.size w (((((((wc5.setCell ⟨pY, 0, none⟩ (.int .i64 0)).setCell ⟨pY, 1, none⟩ (.int .i64 0)).setCell ⟨pY, 2, none⟩ (.int .i64 0)).setCell ⟨pY, 3, none⟩ (.int .i64 0)).setCell ⟨pY, 4, none⟩ (.pointer none)).setCell ⟨pY, 5, none⟩ (.int .i64 1)).setCell ⟨pY, 6, none⟩ (.pointer none)) := (bl_put (bl_put (bl_put (bl_put (bl_put (bl_put (bl_put hS (p := ⟨pY, 0, none⟩) (.int .i64 0) qY) (p := ⟨pY, 1, none⟩) (.int .i64 0) qY) (p := ⟨pY, 2, none⟩) (.int .i64 0) qY) (p := ⟨pY, 3, none⟩) (.int .i64 0) qY) (p := ⟨pY, 4, none⟩) (.pointer none) qY) (p := ⟨pY, 5, none⟩) (.int .i64 1) qY) (p := ⟨pY, 6, none⟩) (.pointer none) qY)
                generalize (((((((wc5.setCell ⟨pY, 0, none⟩ (.int .i64 0)).setCell ⟨pY, 1, none⟩ (.int .i64 0)).setCell ⟨pY, 2, none⟩ (.int .i64 0)).setCell ⟨pY, 3, none⟩ (.int .i64 0)).setCell ⟨pY, 4, none⟩ (.pointer none)).setCell ⟨pY, 5, none⟩ (.int .i64 1)).setCell ⟨pY, 6, none⟩ (.pointer none)) = wc6 at Y hSn X ⊢
                clear cc cf
                refine hK.out _ _ (hSn) (fun hSn => ?_)
                clear hK K hS
                have hS := hSn
                clear hSn
                try simp only [Act.put, List.setIfInBounds_toArray, List.set_cons_zero, List.set_cons_succ, List.getElem_toArray, List.getElem_cons_succ, List.getElem_cons_zero]
                refine wpAnyH_done (by kernel_rfl) ?_ _
      case' a2_12 =>
        go_simp
        have X : Hid (Arr (wc1.alloc (.cells #[.int .i64 0, .int .i64 0, .int .i64 0, .int .i64 0, .pointer none, .int .i64 0, .pointer none] FT)) wc1.heap.size FT [.int .i64 0, .int .i64 0, .int .i64 0, .int .i64 0, .pointer none, .int .i64 0, .pointer none]) := ⟨heap_alloc_at _ _⟩
        have hbn : Below wc1.heap.size wc1 (wc1.alloc (.cells #[.int .i64 0, .int .i64 0, .int .i64 0, .int .i64 0, .pointer none, .int .i64 0, .pointer none] FT)) := bl_alloc (Below.refl _ _) _
        have hSn := bl_on hS hbn
        generalize hwn : wc1.alloc (.cells #[.int .i64 0, .int .i64 0, .int .i64 0, .int .i64 0, .pointer none, .int .i64 0, .pointer none] FT) = wc2 at X hSn  ⊢
        have qX : w.heap.size ≤ wc1.heap.size := hS.size
        generalize hpX : wc1.heap.size = pX at X qX  ⊢
        clear hbn hwn hpX
        refine hK.out _ _ (hSn) (fun hSn => ?_)
        clear hK K hS
        have hS := hSn
        clear hSn
        try simp only [Act.put, List.setIfInBounds_toArray, List.set_cons_zero, List.set_cons_succ, List.getElem_toArray, List.getElem_cons_succ, List.getElem_cons_zero]
        refine wpAnyH_ready (rs := [11, 13]) (by kernel_rfl) (by simp) (AllReadyH.cons rfl (fun K hK => ?a10_11) (AllReadyH.cons rfl (fun K hK => ?a10_13) AllReadyH.nil))
        case' a10_11 =>
          go_simp
          refine (h0.out wc2 hS).mono ?_
          rintro e wc3 ⟨rfl, hb⟩
          have X := hid (X.out.stays hb)
          refine hK.out _ _ (bl_on hS hb) (fun hSn => ?_)
          clear hK K hS
          have hS := hSn
          clear hSn
          try simp only [Act.put, List.setIfInBounds_toArray, List.set_cons_zero, List.set_cons_succ, List.getElem_toArray, List.getElem_cons_succ, List.getElem_cons_zero]
          clear hb
          refine wpAnyH_ready (rs := [13]) (by kernel_rfl) (by simp) (AllReadyH.cons rfl (fun K hK => ?a11_13) AllReadyH.nil)
          case' a11_13 =>
            go_simp
            have Y : Hid (Arr (wc3.alloc (.cells #[.int .i64 0, .int .i64 0, .int .i64 0, .int .i64 0, .pointer none, .int .i64 0, .pointer none] FT)) wc3.heap.size FT [.int .i64 0, .int .i64 0, .int .i64 0, .int .i64 0, .pointer none, .int .i64 0, .pointer none]) := ⟨heap_alloc_at _ _⟩
            have hbn : Below wc3.heap.size wc3 (wc3.alloc (.cells #[.int .i64 0, .int .i64 0, .int .i64 0, .int .i64 0, .pointer none, .int .i64 0, .pointer none] FT)) := bl_alloc (Below.refl _ _) _
            have hSn := bl_on hS hbn
            have nYX : ¬ pX = wc3.heap.size := by have := X.out.lt; omega
            have X := hid (X.out.stays hbn)
            generalize hwn : wc3.alloc (.cells #[.int .i64 0, .int .i64 0, .int .i64 0, .int .i64 0, .pointer none, .int .i64 0, .pointer none] FT) = wc4 at Y hSn X ⊢
            have qY : w.heap.size ≤ wc3.heap.size := hS.size
            generalize hpY : wc3.heap.size = pY at Y qY nYX ⊢
            clear hbn hwn hpY
            refine hK.out _ _ (hSn) (fun hSn => ?_)
            clear hK K hS
            have hS := hSn
            clear hSn
            try simp only [Act.put, List.setIfInBounds_toArray, List.set_cons_zero, List.set_cons_succ, List.getElem_toArray, List.getElem_cons_succ, List.getElem_cons_zero]
            refine wpAnyH_ready (rs := [14]) (by kernel_rfl) (by simp) (AllReadyH.cons rfl (fun K hK => ?a12_14) AllReadyH.nil)
            case' a12_14 =>
              go_simp
              have cc := X.out.cell
              have cf := X.out.frozen
              go_simp
              have X := hid (((((((X.out.set 0 (.int .i64 1)).set 1 (.int .i64 0)).set 2 (.int .i64 1)).set 3 (.int .i64 1)).set 4 (.pointer none)).set 5 (.int .i64 1)).set 6 (.pointer none))
              have Y := hid (((((((Y.out.other (p := ⟨pX, 0, none⟩) (by show ¬ pY = pX; omega) (.int .i64 1)).other (p := ⟨pX, 1, none⟩) (by show ¬ pY = pX; omega) (.int .i64 0)).other (p := ⟨pX, 2, none⟩) (by show ¬ pY = pX; omega) (.int .i64 1)).other (p := ⟨pX, 3, none⟩) (by show ¬ pY = pX; omega) (.int .i64 1)).other (p := ⟨pX, 4, none⟩) (by show ¬ pY = pX; omega) (.pointer none)).other (p := ⟨pX, 5, none⟩) (by show ¬ pY = pX; omega) (.int .i64 1)).other (p := ⟨pX, 6, none⟩) (by show ¬ pY = pX; omega) (.pointer none))
              simp only [List.set_cons_zero, List.set_cons_succ] at X
              have hSn : Below w.heap.size w (((((((wc4.setCell ⟨pX, 0, none⟩ (.int .i64 1)).setCell ⟨pX, 1, none⟩ (.int .i64 0)).setCell ⟨pX, 2, none⟩ (.int .i64 1)).setCell ⟨pX, 3, none⟩ (.int .i64 1)).setCell ⟨pX, 4, none⟩ (.pointer none)).setCell ⟨pX, 5, none⟩ (.int .i64 1)).setCell ⟨pX, 6, none⟩ (.pointer none)) := (bl_put (bl_put (bl_put (bl_put (bl_put (bl_put (bl_put hS (p := ⟨pX, 0, none⟩) (.int .i64 1) qX) (p := ⟨pX, 1, none⟩) (.int .i64 0) qX) (p := ⟨pX, 2, none⟩) (.int .i64 1) qX) (p := ⟨pX, 3, none⟩) (.int .i64 1) qX) (p := ⟨pX, 4, none⟩) (.pointer none) qX) (p := ⟨pX, 5, none⟩) (.int .i64 1) qX) (p := ⟨pX, 6, none⟩) (.pointer none) qX)
              generalize (((((((wc4.setCell ⟨pX, 0, none⟩ (.int .i64 1)).setCell ⟨pX, 1, none⟩ (.int .i64 0)).setCell ⟨pX, 2, none⟩ (.int .i64 1)).setCell ⟨pX, 3, none⟩ (.int .i64 1)).setCell ⟨pX, 4, none⟩ (.pointer none)).setCell ⟨pX, 5, none⟩ (.int .i64 1)).setCell ⟨pX, 6, none⟩ (.pointer none)) = wc5 at X hSn Y ⊢
              clear cc cf
              refine hK.out _ _ (hSn) (fun hSn => ?_)
              clear hK K hS
              have hS := hSn
              clear hSn
              try simp only [Act.put, List.setIfInBounds_toArray, List.set_cons_zero, List.set_cons_succ, List.getElem_toArray, List.getElem_cons_succ, List.getElem_cons_zero]
              refine wpAnyH_ready (rs := [15]) (by kernel_rfl) (by simp) (AllReadyH.cons rfl (fun K hK => ?a13_15) AllReadyH.nil)
              case' a13_15 =>
                go_simp
                have cc := Y.out.cell
                have cf := Y.out.frozen
                go_simp
                have Y := hid (((((((Y.out.set 0 (.int .i64 0)).set 1 (.int .i64 0)).set 2 (.int .i64 0)).set 3 (.int .i64 0)).set 4 (.pointer none)).set 5 (.int .i64 1)).set 6 (.pointer none))
                have X := hid (((((((X.out.other (p := ⟨pY, 0, none⟩) (by show ¬ pX = pY; omega) (.int .i64 0)).other (p := ⟨pY, 1, none⟩) (by show ¬ pX = pY; omega) (.int .i64 0)).other (p := ⟨pY, 2, none⟩) (by show ¬ pX = pY; omega) (.int .i64 0)).other (p := ⟨pY, 3, none⟩) (by show ¬ pX = pY; omega) (.int .i64 0)).other (p := ⟨pY, 4, none⟩) (by show ¬ pX = pY; omega) (.pointer none)).other (p := ⟨pY, 5, none⟩) (by show ¬ pX = pY; omega) (.int .i64 1)).other (p := ⟨pY, 6, none⟩) (by show ¬ pX = pY; omega) (.pointer none))
                simp only [List.set_cons_zero, List.set_cons_succ] at Y
                have hSn : Below w.heap.size w (((((((wc5.setCell ⟨pY, 0, none⟩ (.int .i64 0)).setCell ⟨pY, 1, none⟩ (.int .i64 0)).setCell ⟨pY, 2, none⟩ (.int .i64 0)).setCell ⟨pY, 3, none⟩ (.int .i64 0)).setCell ⟨pY, 4, none⟩ (.pointer none)).setCell ⟨pY, 5, none⟩ (.int .i64 1)).setCell ⟨pY, 6, none⟩ (.pointer none)) := (bl_put (bl_put (bl_put (bl_put (bl_put (bl_put (bl_put hS (p := ⟨pY, 0, none⟩) (.int .i64 0) qY) (p := ⟨pY, 1, none⟩) (.int .i64 0) qY) (p := ⟨pY, 2, none⟩) (.int .i64 0) qY) (p := ⟨pY, 3, none⟩) (.int .i64 0) qY) (p := ⟨pY, 4, none⟩) (.pointer none) qY) (p := ⟨pY, 5, none⟩) (.int .i64 1) qY) (p := ⟨pY, 6, none⟩) (.pointer none) qY)
                generalize (((((((wc5.setCell ⟨pY, 0, none⟩ (.int .i64 0)).setCell ⟨pY, 1, none⟩ (.int .i64 0)).setCell ⟨pY, 2, none⟩ (.int .i64 0)).setCell ⟨pY, 3, none⟩ (.int .i64 0)).setCell ⟨pY, 4, none⟩ (.pointer none)).setCell ⟨pY, 5, none⟩ (.int .i64 1)).setCell ⟨pY, 6, none⟩ (.pointer none)) = wc6 at Y hSn X ⊢
                clear cc cf
                refine hK.out _ _ (hSn) (fun hSn => ?_)
                clear hK K hS
                have hS := hSn
                clear hSn
                try simp only [Act.put, List.setIfInBounds_toArray, List.set_cons_zero, List.set_cons_succ, List.getElem_toArray, List.getElem_cons_succ, List.getElem_cons_zero]
                refine wpAnyH_done (by kernel_rfl) ?_ _
        case' a10_13 =>
          go_simp
          have Y : Hid (Arr (wc2.alloc (.cells #[.int .i64 0, .int .i64 0, .int .i64 0, .int .i64 0, .pointer none, .int .i64 0, .pointer none] FT)) wc2.heap.size FT [.int .i64 0, .int .i64 0, .int .i64 0, .int .i64 0, .pointer none, .int .i64 0, .pointer none]) := ⟨heap_alloc_at _ _⟩
          have hbn : Below wc2.heap.size wc2 (wc2.alloc (.cells #[.int .i64 0, .int .i64 0, .int .i64 0, .int .i64 0, .pointer none, .int .i64 0, .pointer none] FT)) := bl_alloc (Below.refl _ _) _
          have hSn := bl_on hS hbn
          have nYX : ¬ pX = wc2.heap.size := by have := X.out.lt; omega
          have X := hid (X.out.stays hbn)
          generalize hwn : wc2.alloc (.cells #[.int .i64 0, .int .i64 0, .int .i64 0, .int .i64 0, .pointer none, .int .i64 0, .pointer none] FT) = wc3 at Y hSn X ⊢
          have qY : w.heap.size ≤ wc2.heap.size := hS.size
          generalize hpY : wc2.heap.size = pY at Y qY nYX ⊢
          clear hbn hwn hpY
          refine hK.out _ _ (hSn) (fun hSn => ?_)
          clear hK K hS
          have hS := hSn
          clear hSn
          try simp only [Act.put, List.setIfInBounds_toArray, List.set_cons_zero, List.set_cons_succ, List.getElem_toArray, List.getElem_cons_succ, List.getElem_cons_zero]
          refine wpAnyH_ready (rs := [11]) (by kernel_rfl) (by simp) (AllReadyH.cons rfl (fun K hK => ?a14_11) AllReadyH.nil)
          case' a14_11 =>
            go_simp
            refine (h0.out wc3 hS).mono ?_
            rintro e wc4 ⟨rfl, hb⟩
            have X := hid (X.out.stays hb)
            have Y := hid (Y.out.stays hb)
            refine hK.out _ _ (bl_on hS hb) (fun hSn => ?_)
            clear hK K hS
            have hS := hSn
            clear hSn
            try simp only [Act.put, List.setIfInBounds_toArray, List.set_cons_zero, List.set_cons_succ, List.getElem_toArray, List.getElem_cons_succ, List.getElem_cons_zero]
            clear hb
            refine wpAnyH_ready (rs := [14]) (by kernel_rfl) (by simp) (AllReadyH.cons rfl (fun K hK => ?a15_14) AllReadyH.nil)
            case' a15_14 =>
              go_simp
              have cc := X.out.cell
              have cf := X.out.frozen
              go_simp
              have X := hid (((((((X.out.set 0 (.int .i64 1)).set 1 (.int .i64 0)).set 2 (.int .i64 1)).set 3 (.int .i64 1)).set 4 (.pointer none)).set 5 (.int .i64 1)).set 6 (.pointer none))
              have Y := hid (((((((Y.out.other (p := ⟨pX, 0, none⟩) (by show ¬ pY = pX; omega) (.int .i64 1)).other (p := ⟨pX, 1, none⟩) (by show ¬ pY = pX; omega) (.int .i64 0)).other (p := ⟨pX, 2, none⟩) (by show ¬ pY = pX; omega) (.int .i64 1)).other (p := ⟨pX, 3, none⟩) (by show ¬ pY = pX; omega) (.int .i64 1)).other (p := ⟨pX, 4, none⟩) (by show ¬ pY = pX; omega) (.pointer none)).other (p := ⟨pX, 5, none⟩) (by show ¬ pY = pX; omega) (.int .i64 1)).other (p := ⟨pX, 6, none⟩) (by show ¬ pY = pX; omega) (.pointer none))
              simp only [List.set_cons_zero, List.set_cons_succ] at X
              have hSn : Below w.heap.size w (((((((wc4.setCell ⟨pX, 0, none⟩ (.int .i64 1)).setCell ⟨pX, 1, none⟩ (.int .i64 0)).setCell ⟨pX, 2, none⟩ (.int .i64 1)).setCell ⟨pX, 3, none⟩ (.int .i64 1)).setCell ⟨pX, 4, none⟩ (.pointer none)).setCell ⟨pX, 5, none⟩ (.int .i64 1)).setCell ⟨pX, 6, none⟩ (.pointer none)) := (bl_put (bl_put (bl_put (bl_put (bl_put (bl_put (bl_put hS (p := ⟨pX, 0, none⟩) (.int .i64 1) qX) (p := ⟨pX, 1, none⟩) (.int .i64 0) qX) (p := ⟨pX, 2, none⟩) (.int .i64 1) qX) (p := ⟨pX, 3, none⟩) (.int .i64 1) qX) (p := ⟨pX, 4, none⟩) (.pointer none) qX) (p := ⟨pX, 5, none⟩) (.int .i64 1) qX) (p := ⟨pX, 6, none⟩) (.pointer none) qX)
              generalize (((((((wc4.setCell ⟨pX, 0, none⟩ (.int .i64 1)).setCell ⟨pX, 1, none⟩ (.int .i64 0)).setCell ⟨pX, 2, none⟩ (.int .i64 1)).setCell ⟨pX, 3, none⟩ (.int .i64 1)).setCell ⟨pX, 4, none⟩ (.pointer none)).setCell ⟨pX, 5, none⟩ (.int .i64 1)).setCell ⟨pX, 6, none⟩ (.pointer none)) = wc5 at X hSn Y ⊢
              clear cc cf
              refine hK.out _ _ (hSn) (fun hSn => ?_)
              clear hK K hS
              have hS := hSn
              clear hSn
              try simp only [Act.put, List.setIfInBounds_toArray, List.set_cons_zero, List.set_cons_succ, List.getElem_toArray, List.getElem_cons_succ, List.getElem_cons_zero]
              refine wpAnyH_ready (rs := [15]) (by kernel_rfl) (by simp) (AllReadyH.cons rfl (fun K hK => ?a16_15) AllReadyH.nil)
              case' a16_15 =>
                go_simp
                have cc := Y.out.cell
                have cf := Y.out.frozen
                go_simp
                have Y := hid (((((((Y.out.set 0 (.int .i64 0)).set 1 (.int .i64 0)).set 2 (.int .i64 0)).set 3 (.int .i64 0)).set 4 (.pointer none)).set 5 (.int .i64 1)).set 6 (.pointer none))
                have X := hid (((((((X.out.other (p := ⟨pY, 0, none⟩) (by show ¬ pX = pY; omega) (.int .i64 0)).other (p := ⟨pY, 1, none⟩) (by show ¬ pX = pY; omega) (.int .i64 0)).other (p := ⟨pY, 2, none⟩) (by show ¬ pX = pY; omega) (.int .i64 0)).other (p := ⟨pY, 3, none⟩) (by show ¬ pX = pY; omega) (.int .i64 0)).other (p := ⟨pY, 4, none⟩) (by show ¬ pX = pY; omega) (.pointer none)).other (p := ⟨pY, 5, none⟩) (by show ¬ pX = pY; omega) (.int .i64 1)).other (p := ⟨pY, 6, none⟩) (by show ¬ pX = pY; omega) (.pointer none))
                simp only [List.set_cons_zero, List.set_cons_succ] at Y
                have hSn : Below w.heap.size w (((((((wc5.setCell ⟨pY, 0, none⟩ (.int .i64 0)).setCell ⟨pY, 1, none⟩ (.int .i64 0)).setCell ⟨pY, 2, none⟩ (.int .i64 0)).setCell ⟨pY, 3, none⟩ (.int .i64 0)).setCell ⟨pY, 4, none⟩ (.pointer none)).setCell ⟨pY, 5, none⟩ (.int .i64 1)).setCell ⟨pY, 6, none⟩ (.pointer none)) := (bl_put (bl_put (bl_put (bl_put (bl_put (bl_put (bl_put hS (p := ⟨pY, 0, none⟩) (.int .i64 0) qY) (p := ⟨pY, 1, none⟩) (.int .i64 0) qY) (p := ⟨pY, 2, none⟩) (.int .i64 0) qY) (p := ⟨pY, 3, none⟩) (.int .i64 0) qY) (p := ⟨pY, 4, none⟩) (.pointer none) qY) (p := ⟨pY, 5, none⟩) (.int .i64 1) qY) (p := ⟨pY, 6, none⟩) (.pointer none) qY)
                generalize (((((((wc5.setCell ⟨pY, 0, none⟩ (.int .i64 0)).setCell ⟨pY, 1, none⟩ (.int .i64 0)).setCell ⟨pY, 2, none⟩ (.int .i64 0)).setCell ⟨pY, 3, none⟩ (.int .i64 0)).setCell ⟨pY, 4, none⟩ (.pointer none)).setCell ⟨pY, 5, none⟩ (.int .i64 1)).setCell ⟨pY, 6, none⟩ (.pointer none)) = wc6 at Y hSn X ⊢
                clear cc cf
                refine hK.out _ _ (hSn) (fun hSn => ?_)
                clear hK K hS
                have hS := hSn
                clear hSn
                try simp only [Act.put, List.setIfInBounds_toArray, List.set_cons_zero, List.set_cons_succ, List.getElem_toArray, List.getElem_cons_succ, List.getElem_cons_zero]
                refine wpAnyH_done (by kernel_rfl) ?_ _
      case' a2_13 =>
        go_simp
        have Y : Hid (Arr (wc1.alloc (.cells #[.int .i64 0, .int .i64 0, .int .i64 0, .int .i64 0, .pointer none, .int .i64 0, .pointer none] FT)) wc1.heap.size FT [.int .i64 0, .int .i64 0, .int .i64 0, .int .i64 0, .pointer none, .int .i64 0, .pointer none]) := ⟨heap_alloc_at _ _⟩
        have hbn : Below wc1.heap.size wc1 (wc1.alloc (.cells #[.int .i64 0, .int .i64 0, .int .i64 0, .int .i64 0, .pointer none, .int .i64 0, .pointer none] FT)) := bl_alloc (Below.refl _ _) _
        have hSn := bl_on hS hbn
        generalize hwn : wc1.alloc (.cells #[.int .i64 0, .int .i64 0, .int .i64 0, .int .i64 0, .pointer none, .int .i64 0, .pointer none] FT) = wc2 at Y hSn  ⊢
        have qY : w.heap.size ≤ wc1.heap.size := hS.size
        generalize hpY : wc1.heap.size = pY at Y qY  ⊢
        clear hbn hwn hpY
        refine hK.out _ _ (hSn) (fun hSn => ?_)
        clear hK K hS
        have hS := hSn
        clear hSn
        try simp only [Act.put, List.setIfInBounds_toArray, List.set_cons_zero, List.set_cons_succ, List.getElem_toArray, List.getElem_cons_succ, List.getElem_cons_zero]
        refine wpAnyH_ready (rs := [11, 12]) (by kernel_rfl) (by simp) (AllReadyH.cons rfl (fun K hK => ?a17_11) (AllReadyH.cons rfl (fun K hK => ?a17_12) AllReadyH.nil))
        case' a17_11 =>
          go_simp
          refine (h0.out wc2 hS).mono ?_
          rintro e wc3 ⟨rfl, hb⟩
          have Y := hid (Y.out.stays hb)
          refine hK.out _ _ (bl_on hS hb) (fun hSn => ?_)
          clear hK K hS
          have hS := hSn
          clear hSn
          try simp only [Act.put, List.setIfInBounds_toArray, List.set_cons_zero, List.set_cons_succ, List.getElem_toArray, List.getElem_cons_succ, List.getElem_cons_zero]
          clear hb
          refine wpAnyH_ready (rs := [12]) (by kernel_rfl) (by simp) (AllReadyH.cons rfl (fun K hK => ?a18_12) AllReadyH.nil)
          case' a18_12 =>
            go_simp
            have X : Hid (Arr (wc3.alloc (.cells #[.int .i64 0, .int .i64 0, .int .i64 0, .int .i64 0, .pointer none, .int .i64 0, .pointer none] FT)) wc3.heap.size FT [.int .i64 0, .int .i64 0, .int .i64 0, .int .i64 0, .pointer none, .int .i64 0, .pointer none]) := ⟨heap_alloc_at _ _⟩
            have hbn : Below wc3.heap.size wc3 (wc3.alloc (.cells #[.int .i64 0, .int .i64 0, .int .i64 0, .int .i64 0, .pointer none, .int .i64 0, .pointer none] FT)) := bl_alloc (Below.refl _ _) _
            have hSn := bl_on hS hbn
            have nXY : ¬ pY = wc3.heap.size := by have := Y.out.lt; omega
            have Y := hid (Y.out.stays hbn)
            generalize hwn : wc3.alloc (.cells #[.int .i64 0, .int .i64 0, .int .i64 0, .int .i64 0, .pointer none, .int .i64 0, .pointer none] FT) = wc4 at X hSn Y ⊢
            have qX : w.heap.size ≤ wc3.heap.size := hS.size
            generalize hpX : wc3.heap.size = pX at X qX nXY ⊢
            clear hbn hwn hpX
            refine hK.out _ _ (hSn) (fun hSn => ?_)
            clear hK K hS
            have hS := hSn
            clear hSn
            try simp only [Act.put, List.setIfInBounds_toArray, List.set_cons_zero, List.set_cons_succ, List.getElem_toArray, List.getElem_cons_succ, List.getElem_cons_zero]
            refine wpAnyH_ready (rs := [14]) (by kernel_rfl) (by simp) (AllReadyH.cons rfl (fun K hK => ?a19_14) AllReadyH.nil)
            case' a19_14 =>
              go_simp
              have cc := X.out.cell
              have cf := X.out.frozen
              go_simp
              have X := hid (((((((X.out.set 0 (.int .i64 1)).set 1 (.int .i64 0)).set 2 (.int .i64 1)).set 3 (.int .i64 1)).set 4 (.pointer none)).set 5 (.int .i64 1)).set 6 (.pointer none))
              have Y := hid (((((((Y.out.other (p := ⟨pX, 0, none⟩) (by show ¬ pY = pX; omega) (.int .i64 1)).other (p := ⟨pX, 1, none⟩) (by show ¬ pY = pX; omega) (.int .i64 0)).other (p := ⟨pX, 2, none⟩) (by show ¬ pY = pX; omega) (.int .i64 1)).other (p := ⟨pX, 3, none⟩) (by show ¬ pY = pX; omega) (.int .i64 1)).other (p := ⟨pX, 4, none⟩) (by show ¬ pY = pX; omega) (.pointer none)).other (p := ⟨pX, 5, none⟩) (by show ¬ pY = pX; omega) (.int .i64 1)).other (p := ⟨pX, 6, none⟩) (by show ¬ pY = pX; omega) (.pointer none))
              simp only [List.set_cons_zero, List.set_cons_succ] at X
              have hSn : Below w.heap.size w (((((((wc4.setCell ⟨pX, 0, none⟩ (.int .i64 1)).setCell ⟨pX, 1, none⟩ (.int .i64 0)).setCell ⟨pX, 2, none⟩ (.int .i64 1)).setCell ⟨pX, 3, none⟩ (.int .i64 1)).setCell ⟨pX, 4, none⟩ (.pointer none)).setCell ⟨pX, 5, none⟩ (.int .i64 1)).setCell ⟨pX, 6, none⟩ (.pointer none)) := (bl_put (bl_put (bl_put (bl_put (bl_put (bl_put (bl_put hS (p := ⟨pX, 0, none⟩) (.int .i64 1) qX) (p := ⟨pX, 1, none⟩) (.int .i64 0) qX) (p := ⟨pX, 2, none⟩) (.int .i64 1) qX) (p := ⟨pX, 3, none⟩) (.int .i64 1) qX) (p := ⟨pX, 4, none⟩) (.pointer none) qX) (p := ⟨pX, 5, none⟩) (.int .i64 1) qX) (p := ⟨pX, 6, none⟩) (.pointer none) qX)
              generalize (((((((wc4.setCell ⟨pX, 0, none⟩ (.int .i64 1)).setCell ⟨pX, 1, none⟩ (.int .i64 0)).setCell ⟨pX, 2, none⟩ (.int .i64 1)).setCell ⟨pX, 3, none⟩ (.int .i64 1)).setCell ⟨pX, 4, none⟩ (.pointer none)).setCell ⟨pX, 5, none⟩ (.int .i64 1)).setCell ⟨pX, 6, none⟩ (.pointer none)) = wc5 at X hSn Y ⊢
              clear cc cf
              refine hK.out _ _ (hSn) (fun hSn => ?_)
              clear hK K hS
              have hS := hSn
              clear hSn
              try simp only [Act.put, List.setIfInBounds_toArray, List.set_cons_zero, List.set_cons_succ, List.getElem_toArray, List.getElem_cons_succ, List.getElem_cons_zero]
              refine wpAnyH_ready (rs := [15]) (by kernel_rfl) (by simp) (AllReadyH.cons rfl (fun K hK => ?a20_15) AllReadyH.nil)
              case' a20_15 =>
                go_simp
                have cc := Y.out.cell
                have cf := Y.out.frozen
                go_simp
                have Y := hid (((((((Y.out.set 0 (.int .i64 0)).set 1 (.int .i64 0)).set 2 (.int .i64 0)).set 3 (.int .i64 0)).set 4 (.pointer none)).set 5 (.int .i64 1)).set 6 (.pointer none))
                have X := hid (((((((X.out.other (p := ⟨pY, 0, none⟩) (by show ¬ pX = pY; omega) (.int .i64 0)).other (p := ⟨pY, 1, none⟩) (by show ¬ pX = pY; omega) (.int .i64 0)).other (p := ⟨pY, 2, none⟩) (by show ¬ pX = pY; omega) (.int .i64 0)).other (p := ⟨pY, 3, none⟩) (by show ¬ pX = pY; omega) (.int .i64 0)).other (p := ⟨pY, 4, none⟩) (by show ¬ pX = pY; omega) (.pointer none)).other (p := ⟨pY, 5, none⟩) (by show ¬ pX = pY; omega) (.int .i64 1)).other (p := ⟨pY, 6, none⟩) (by show ¬ pX = pY; omega) (.pointer none))
                simp only [List.set_cons_zero, List.set_cons_succ] at Y
                have hSn : Below w.heap.size w (((((((wc5.setCell ⟨pY, 0, none⟩ (.int .i64 0)).setCell ⟨pY, 1, none⟩ (.int .i64 0)).setCell ⟨pY, 2, none⟩ (.int .i64 0)).setCell ⟨pY, 3, none⟩ (.int .i64 0)).setCell ⟨pY, 4, none⟩ (.pointer none)).setCell ⟨pY, 5, none⟩ (.int .i64 1)).setCell ⟨pY, 6, none⟩ (.pointer none)) := (bl_put (bl_put (bl_put (bl_put (bl_put (bl_put (bl_put hS (p := ⟨pY, 0, none⟩) (.int .i64 0) qY) (p := ⟨pY, 1, none⟩) (.int .i64 0) qY) (p := ⟨pY, 2, none⟩) (.int .i64 0) qY) (p := ⟨pY, 3, none⟩) (.int .i64 0) qY) (p := ⟨pY, 4, none⟩) (.pointer none) qY) (p := ⟨pY, 5, none⟩) (.int .i64 1) qY) (p := ⟨pY, 6, none⟩) (.pointer none) qY)
                generalize (((((((wc5.setCell ⟨pY, 0, none⟩ (.int .i64 0)).setCell ⟨pY, 1, none⟩ (.int .i64 0)).setCell ⟨pY, 2, none⟩ (.int .i64 0)).setCell ⟨pY, 3, none⟩ (.int .i64 0)).setCell ⟨pY, 4, none⟩ (.pointer none)).setCell ⟨pY, 5, none⟩ (.int .i64 1)).setCell ⟨pY, 6, none⟩ (.pointer none)) = wc6 at Y hSn X ⊢
                clear cc cf
                refine hK.out _ _ (hSn) (fun hSn => ?_)
                clear hK K hS
                have hS := hSn
                clear hSn
                try simp only [Act.put, List.setIfInBounds_toArray, List.set_cons_zero, List.set_cons_succ, List.getElem_toArray, List.getElem_cons_succ, List.getElem_cons_zero]
                refine wpAnyH_done (by kernel_rfl) ?_ _
        case' a17_12 =>
          go_simp
          have X : Hid (Arr (wc2.alloc (.cells #[.int .i64 0, .int .i64 0, .int .i64 0, .int .i64 0, .pointer none, .int .i64 0, .pointer none] FT)) wc2.heap.size FT [.int .i64 0, .int .i64 0, .int .i64 0, .int .i64 0, .pointer none, .int .i64 0, .pointer none]) := ⟨heap_alloc_at _ _⟩
          have hbn : Below wc2.heap.size wc2 (wc2.alloc (.cells #[.int .i64 0, .int .i64 0, .int .i64 0, .int .i64 0, .pointer none, .int .i64 0, .pointer none] FT)) := bl_alloc (Below.refl _ _) _
          have hSn := bl_on hS hbn
          have nXY : ¬ pY = wc2.heap.size := by have := Y.out.lt; omega
          have Y := hid (Y.out.stays hbn)
          generalize hwn : wc2.alloc (.cells #[.int .i64 0, .int .i64 0, .int .i64 0, .int .i64 0, .pointer none, .int .i64 0, .pointer none] FT) = wc3 at X hSn Y ⊢
          have qX : w.heap.size ≤ wc2.heap.size := hS.size
          generalize hpX : wc2.heap.size = pX at X qX nXY ⊢
          clear hbn hwn hpX
          refine hK.out _ _ (hSn) (fun hSn => ?_)
          clear hK K hS
          have hS := hSn
          clear hSn
          try simp only [Act.put, List.setIfInBounds_toArray, List.set_cons_zero, List.set_cons_succ, List.getElem_toArray, List.getElem_cons_succ, List.getElem_cons_zero]
          refine wpAnyH_ready (rs := [11]) (by kernel_rfl) (by simp) (AllReadyH.cons rfl (fun K hK => ?a21_11) AllReadyH.nil)
          case' a21_11 =>
            go_simp
            refine (h0.out wc3 hS).mono ?_
            rintro e wc4 ⟨rfl, hb⟩
            have Y := hid (Y.out.stays hb)
            have X := hid (X.out.stays hb)
            refine hK.out _ _ (bl_on hS hb) (fun hSn => ?_)
            clear hK K hS
            have hS := hSn
            clear hSn
            try simp only [Act.put, List.setIfInBounds_toArray, List.set_cons_zero, List.set_cons_succ, List.getElem_toArray, List.getElem_cons_succ, List.getElem_cons_zero]
            clear hb
            refine wpAnyH_ready (rs := [14]) (by kernel_rfl) (by simp) (AllReadyH.cons rfl (fun K hK => ?a22_14) AllReadyH.nil)
            case' a22_14 =>
              go_simp
              have cc := X.out.cell
              have cf := X.out.frozen
              go_simp
              have X := hid (((((((X.out.set 0 (.int .i64 1)).set 1 (.int .i64 0)).set 2 (.int .i64 1)).set 3 (.int .i64 1)).set 4 (.pointer none)).set 5 (.int .i64 1)).set 6 (.pointer none))
              have Y := hid (((((((Y.out.other (p := ⟨pX, 0, none⟩) (by show ¬ pY = pX; omega) (.int .i64 1)).other (p := ⟨pX, 1, none⟩) (by show ¬ pY = pX; omega) (.int .i64 0)).other (p := ⟨pX, 2, none⟩) (by show ¬ pY = pX; omega) (.int .i64 1)).other (p := ⟨pX, 3, none⟩) (by show ¬ pY = pX; omega) (.int .i64 1)).other (p := ⟨pX, 4, none⟩) (by show ¬ pY = pX; omega) (.pointer none)).other (p := ⟨pX, 5, none⟩) (by show ¬ pY = pX; omega) (.int .i64 1)).other (p := ⟨pX, 6, none⟩) (by show ¬ pY = pX; omega) (.pointer none))
              simp only [List.set_cons_zero, List.set_cons_succ] at X
              have hSn : Below w.heap.size w (((((((wc4.setCell ⟨pX, 0, none⟩ (.int .i64 1)).setCell ⟨pX, 1, none⟩ (.int .i64 0)).setCell ⟨pX, 2, none⟩ (.int .i64 1)).setCell ⟨pX, 3, none⟩ (.int .i64 1)).setCell ⟨pX, 4, none⟩ (.pointer none)).setCell ⟨pX, 5, none⟩ (.int .i64 1)).setCell ⟨pX, 6, none⟩ (.pointer none)) := (bl_put (bl_put (bl_put (bl_put (bl_put (bl_put (bl_put hS (p := ⟨pX, 0, none⟩) (.int .i64 1) qX) (p := ⟨pX, 1, none⟩) (.int .i64 0) qX) (p := ⟨pX, 2, none⟩) (.int .i64 1) qX) (p := ⟨pX, 3, none⟩) (.int .i64 1) qX) (p := ⟨pX, 4, none⟩) (.pointer none) qX) (p := ⟨pX, 5, none⟩) (.int .i64 1) qX) (p := ⟨pX, 6, none⟩) (.pointer none) qX)
              generalize (((((((wc4.setCell ⟨pX, 0, none⟩ (.int .i64 1)).setCell ⟨pX, 1, none⟩ (.int .i64 0)).setCell ⟨pX, 2, none⟩ (.int .i64 1)).setCell ⟨pX, 3, none⟩ (.int .i64 1)).setCell ⟨pX, 4, none⟩ (.pointer none)).setCell ⟨pX, 5, none⟩ (.int .i64 1)).setCell ⟨pX, 6, none⟩ (.pointer none)) = wc5 at X hSn Y ⊢
              clear cc cf
              refine hK.out _ _ (hSn) (fun hSn => ?_)
              clear hK K hS
              have hS := hSn
              clear hSn
              try simp only [Act.put, List.setIfInBounds_toArray, List.set_cons_zero, List.set_cons_succ, List.getElem_toArray, List.getElem_cons_succ, List.getElem_cons_zero]
              refine wpAnyH_ready (rs := [15]) (by kernel_rfl) (by simp) (AllReadyH.cons rfl (fun K hK => ?a23_15) AllReadyH.nil)
              case' a23_15 =>
                go_simp
                have cc := Y.out.cell
                have cf := Y.out.frozen
                go_simp
                have Y := hid (((((((Y.out.set 0 (.int .i64 0)).set 1 (.int .i64 0)).set 2 (.int .i64 0)).set 3 (.int .i64 0)).set 4 (.pointer none)).set 5 (.int .i64 1)).set 6 (.pointer none))
                have X := hid (((((((X.out.other (p := ⟨pY, 0, none⟩) (by show ¬ pX = pY; omega) (.int .i64 0)).other (p := ⟨pY, 1, none⟩) (by show ¬ pX = pY; omega) (.int .i64 0)).other (p := ⟨pY, 2, none⟩) (by show ¬ pX = pY; omega) (.int .i64 0)).other (p := ⟨pY, 3, none⟩) (by show ¬ pX = pY; omega) (.int .i64 0)).other (p := ⟨pY, 4, none⟩) (by show ¬ pX = pY; omega) (.pointer none)).other (p := ⟨pY, 5, none⟩) (by show ¬ pX = pY; omega) (.int .i64 1)).other (p := ⟨pY, 6, none⟩) (by show ¬ pX = pY; omega) (.pointer none))
                simp only [List.set_cons_zero, List.set_cons_succ] at Y
                have hSn : Below w.heap.size w (((((((wc5.setCell ⟨pY, 0, none⟩ (.int .i64 0)).setCell ⟨pY, 1, none⟩ (.int .i64 0)).setCell ⟨pY, 2, none⟩ (.int .i64 0)).setCell ⟨pY, 3, none⟩ (.int .i64 0)).setCell ⟨pY, 4, none⟩ (.pointer none)).setCell ⟨pY, 5, none⟩ (.int .i64 1)).setCell ⟨pY, 6, none⟩ (.pointer none)) := (bl_put (bl_put (bl_put (bl_put (bl_put (bl_put (bl_put hS (p := ⟨pY, 0, none⟩) (.int .i64 0) qY) (p := ⟨pY, 1, none⟩) (.int .i64 0) qY) (p := ⟨pY, 2, none⟩) (.int .i64 0) qY) (p := ⟨pY, 3, none⟩) (.int .i64 0) qY) (p := ⟨pY, 4, none⟩) (.pointer none) qY) (p := ⟨pY, 5, none⟩) (.int .i64 1) qY) (p := ⟨pY, 6, none⟩) (.pointer none) qY)
                generalize (((((((wc5.setCell ⟨pY, 0, none⟩ (.int .i64 0)).setCell ⟨pY, 1, none⟩ (.int .i64 0)).setCell ⟨pY, 2, none⟩ (.int .i64 0)).setCell ⟨pY, 3, none⟩ (.int .i64 0)).setCell ⟨pY, 4, none⟩ (.pointer none)).setCell ⟨pY, 5, none⟩ (.int .i64 1)).setCell ⟨pY, 6, none⟩ (.pointer none)) = wc6 at Y hSn X ⊢
                clear cc cf
                refine hK.out _ _ (hSn) (fun hSn => ?_)
                clear hK K hS
                have hS := hSn
                clear hSn
                try simp only [Act.put, List.setIfInBounds_toArray, List.set_cons_zero, List.set_cons_succ, List.getElem_toArray, List.getElem_cons_succ, List.getElem_cons_zero]
                refine wpAnyH_done (by kernel_rfl) ?_ _
    case' a1_12 =>
      go_simp
      have X : Hid (Arr (wc0.alloc (.cells #[.int .i64 0, .int .i64 0, .int .i64 0, .int .i64 0, .pointer none, .int .i64 0, .pointer none] FT)) wc0.heap.size FT [.int .i64 0, .int .i64 0, .int .i64 0, .int .i64 0, .pointer none, .int .i64 0, .pointer none]) := ⟨heap_alloc_at _ _⟩
      have hbn : Below wc0.heap.size wc0 (wc0.alloc (.cells #[.int .i64 0, .int .i64 0, .int .i64 0, .int .i64 0, .pointer none, .int .i64 0, .pointer none] FT)) := bl_alloc (Below.refl _ _) _
      have hSn := bl_on hS hbn
      generalize hwn : wc0.alloc (.cells #[.int .i64 0, .int .i64 0, .int .i64 0, .int .i64 0, .pointer none, .int .i64 0, .pointer none] FT) = wc1 at X hSn  ⊢
      have qX : w.heap.size ≤ wc0.heap.size := hS.size
      generalize hpX : wc0.heap.size = pX at X qX  ⊢
      clear hbn hwn hpX
      refine hK.out _ _ (hSn) (fun hSn => ?_)
      clear hK K hS
      have hS := hSn
      clear hSn
      try simp only [Act.put, List.setIfInBounds_toArray, List.set_cons_zero, List.set_cons_succ, List.getElem_toArray, List.getElem_cons_succ, List.getElem_cons_zero]
      refine wpAnyH_ready (rs := [5, 13]) (by kernel_rfl) (by simp) (AllReadyH.cons rfl (fun K hK => ?a24_5) (AllReadyH.cons rfl (fun K hK => ?a24_13) AllReadyH.nil))
      case' a24_5 =>
        go_simp
        refine (h1.out wc1 hS).mono ?_
        rintro e wc2 ⟨rfl, hb⟩
        have X := hid (X.out.stays hb)
        refine hK.out _ _ (bl_on hS hb) (fun hSn => ?_)
        clear hK K hS
        have hS := hSn
        clear hSn
        try simp only [Act.put, List.setIfInBounds_toArray, List.set_cons_zero, List.set_cons_succ, List.getElem_toArray, List.getElem_cons_succ, List.getElem_cons_zero]
        clear hb
        refine wpAnyH_ready (rs := [11, 13]) (by kernel_rfl) (by simp) (AllReadyH.cons rfl (fun K hK => ?a25_11) (AllReadyH.cons rfl (fun K hK => ?a25_13) AllReadyH.nil))
        case' a25_11 =>
          go_simp
          refine (h0.out wc2 hS).mono ?_
          rintro e wc3 ⟨rfl, hb⟩
          have X := hid (X.out.stays hb)
          refine hK.out _ _ (bl_on hS hb) (fun hSn => ?_)
          clear hK K hS
          have hS := hSn
          clear hSn
          try simp only [Act.put, List.setIfInBounds_toArray, List.set_cons_zero, List.set_cons_succ, List.getElem_toArray, List.getElem_cons_succ, List.getElem_cons_zero]
          clear hb
          refine wpAnyH_ready (rs := [13]) (by kernel_rfl) (by simp) (AllReadyH.cons rfl (fun K hK => ?a26_13) AllReadyH.nil)
          case' a26_13 =>
            go_simp
            have Y : Hid (Arr (wc3.alloc (.cells #[.int .i64 0, .int .i64 0, .int .i64 0, .int .i64 0, .pointer none, .int .i64 0, .pointer none] FT)) wc3.heap.size FT [.int .i64 0, .int .i64 0, .int .i64 0, .int .i64 0, .pointer none, .int .i64 0, .pointer none]) := ⟨heap_alloc_at _ _⟩
            have hbn : Below wc3.heap.size wc3 (wc3.alloc (.cells #[.int .i64 0, .int .i64 0, .int .i64 0, .int .i64 0, .pointer none, .int .i64 0, .pointer none] FT)) := bl_alloc (Below.refl _ _) _
            have hSn := bl_on hS hbn
            have nYX : ¬ pX = wc3.heap.size := by have := X.out.lt; omega
            have X := hid (X.out.stays hbn)
            generalize hwn : wc3.alloc (.cells #[.int .i64 0, .int .i64 0, .int .i64 0, .int .i64 0, .pointer none, .int .i64 0, .pointer none] FT) = wc4 at Y hSn X ⊢
            have qY : w.heap.size ≤ wc3.heap.size := hS.size
            generalize hpY : wc3.heap.size = pY at Y qY nYX ⊢
            clear hbn hwn hpY
            refine hK.out _ _ (hSn) (fun hSn => ?_)
            clear hK K hS
            have hS := hSn
            clear hSn
            try simp only [Act.put, List.setIfInBounds_toArray, List.set_cons_zero, List.set_cons_succ, List.getElem_toArray, List.getElem_cons_succ, List.getElem_cons_zero]
            refine wpAnyH_ready (rs := [14]) (by kernel_rfl) (by simp) (AllReadyH.cons rfl (fun K hK => ?a27_14) AllReadyH.nil)
            case' a27_14 =>
              go_simp
              have cc := X.out.cell
              have cf := X.out.frozen
              go_simp
              have X := hid (((((((X.out.set 0 (.int .i64 1)).set 1 (.int .i64 0)).set 2 (.int .i64 1)).set 3 (.int .i64 1)).set 4 (.pointer none)).set 5 (.int .i64 1)).set 6 (.pointer none))
              have Y := hid (((((((Y.out.other (p := ⟨pX, 0, none⟩) (by show ¬ pY = pX; omega) (.int .i64 1)).other (p := ⟨pX, 1, none⟩) (by show ¬ pY = pX; omega) (.int .i64 0)).other (p := ⟨pX, 2, none⟩) (by show ¬ pY = pX; omega) (.int .i64 1)).other (p := ⟨pX, 3, none⟩) (by show ¬ pY = pX; omega) (.int .i64 1)).other (p := ⟨pX, 4, none⟩) (by show ¬ pY = pX; omega) (.pointer none)).other (p := ⟨pX, 5, none⟩) (by show ¬ pY = pX; omega) (.int .i64 1)).other (p := ⟨pX, 6, none⟩) (by show ¬ pY = pX; omega) (.pointer none))
              simp only [List.set_cons_zero, List.set_cons_succ] at X
              have hSn : Below w.heap.size w (((((((wc4.setCell ⟨pX, 0, none⟩ (.int .i64 1)).setCell ⟨pX, 1, none⟩ (.int .i64 0)).setCell ⟨pX, 2, none⟩ (.int .i64 1)).setCell ⟨pX, 3, none⟩ (.int .i64 1)).setCell ⟨pX, 4, none⟩ (.pointer none)).setCell ⟨pX, 5, none⟩ (.int .i64 1)).setCell ⟨pX, 6, none⟩ (.pointer none)) := (bl_put (bl_put (bl_put (bl_put (bl_put (bl_put (bl_put hS (p := ⟨pX, 0, none⟩) (.int .i64 1) qX) (p := ⟨pX, 1, none⟩) (.int .i64 0) qX) (p := ⟨pX, 2, none⟩) (.int .i64 1) qX) (p := ⟨pX, 3, none⟩) (.int .i64 1) qX) (p := ⟨pX, 4, none⟩) (.pointer none) qX) (p := ⟨pX, 5, none⟩) (.int .i64 1) qX) (p := ⟨pX, 6, none⟩) (.pointer none) qX)
              generalize (((((((wc4.setCell ⟨pX, 0, none⟩ (.int .i64 1)).setCell ⟨pX, 1, none⟩ (.int .i64 0)).setCell ⟨pX, 2, none⟩ (.int .i64 1)).setCell ⟨pX, 3, none⟩ (.int .i64 1)).setCell ⟨pX, 4, none⟩ (.pointer none)).setCell ⟨pX, 5, none⟩ (.int .i64 1)).setCell ⟨pX, 6, none⟩ (.pointer none)) = wc5 at X hSn Y ⊢
              clear cc cf
              refine hK.out _ _ (hSn) (fun hSn => ?_)
              clear hK K hS
              have hS := hSn
              clear hSn
              try simp only [Act.put, List.setIfInBounds_toArray, List.set_cons_zero, List.set_cons_succ, List.getElem_toArray, List.getElem_cons_succ, List.getElem_cons_zero]
              refine wpAnyH_ready (rs := [15]) (by kernel_rfl) (by simp) (AllReadyH.cons rfl (fun K hK => ?a28_15) AllReadyH.nil)
              case' a28_15 =>
                go_simp
                have cc := Y.out.cell
                have cf := Y.out.frozen
                go_simp
                have Y := hid (((((((Y.out.set 0 (.int .i64 0)).set 1 (.int .i64 0)).set 2 (.int .i64 0)).set 3 (.int .i64 0)).set 4 (.pointer none)).set 5 (.int .i64 1)).set 6 (.pointer none))
                have X := hid (((((((X.out.other (p := ⟨pY, 0, none⟩) (by show ¬ pX = pY; omega) (.int .i64 0)).other (p := ⟨pY, 1, none⟩) (by show ¬ pX = pY; omega) (.int .i64 0)).other (p := ⟨pY, 2, none⟩) (by show ¬ pX = pY; omega) (.int .i64 0)).other (p := ⟨pY, 3, none⟩) (by show ¬ pX = pY; omega) (.int .i64 0)).other (p := ⟨pY, 4, none⟩) (by show ¬ pX = pY; omega) (.pointer none)).other (p := ⟨pY, 5, none⟩) (by show ¬ pX = pY; omega) (.int .i64 1)).other (p := ⟨pY, 6, none⟩) (by show ¬ pX = pY; omega) (.pointer none))
                simp only [List.set_cons_zero, List.set_cons_succ] at Y
                have hSn : Below w.heap.size w (((((((wc5.setCell ⟨pY, 0, none⟩ (.int .i64 0)).setCell ⟨pY, 1, none⟩ (.int .i64 0)).setCell ⟨pY, 2, none⟩ (.int .i64 0)).setCell ⟨pY, 3, none⟩ (.int .i64 0)).setCell ⟨pY, 4, none⟩ (.pointer none)).setCell ⟨pY, 5, none⟩ (.int .i64 1)).setCell ⟨pY, 6, none⟩ (.pointer none)) := (bl_put (bl_put (bl_put (bl_put (bl_put (bl_put (bl_put hS (p := ⟨pY, 0, none⟩) (.int .i64 0) qY) (p := ⟨pY, 1, none⟩) (.int .i64 0) qY) (p := ⟨pY, 2, none⟩) (.int .i64 0) qY) (p := ⟨pY, 3, none⟩) (.int .i64 0) qY) (p := ⟨pY, 4, none⟩) (.pointer none) qY) (p := ⟨pY, 5, none⟩) (.int .i64 1) qY) (p := ⟨pY, 6, none⟩) (.pointer none) qY)
                generalize (((((((wc5.setCell ⟨pY, 0, none⟩ (.int .i64 0)).setCell ⟨pY, 1, none⟩ (.int .i64 0)).setCell ⟨pY, 2, none⟩ (.int .i64 0)).setCell ⟨pY, 3, none⟩ (.int .i64 0)).setCell ⟨pY, 4, none⟩ (.pointer none)).setCell ⟨pY, 5, none⟩ (.int .i64 1)).setCell ⟨pY, 6, none⟩ (.pointer none)) = wc6 at Y hSn X ⊢
                clear cc cf
                refine hK.out _ _ (hSn) (fun hSn => ?_)
                clear hK K hS
                have hS := hSn
                clear hSn
                try simp only [Act.put, List.setIfInBounds_toArray, List.set_cons_zero, List.set_cons_succ, List.getElem_toArray, List.getElem_cons_succ, List.getElem_cons_zero]
                refine wpAnyH_done (by kernel_rfl) ?_ _
        case' a25_13 =>
          go_simp
          have Y : Hid (Arr (wc2.alloc (.cells #[.int .i64 0, .int .i64 0, .int .i64 0, .int .i64 0, .pointer none, .int .i64 0, .pointer none] FT)) wc2.heap.size FT [.int .i64 0, .int .i64 0, .int .i64 0, .int .i64 0, .pointer none, .int .i64 0, .pointer none]) := ⟨heap_alloc_at _ _⟩
          have hbn : Below wc2.heap.size wc2 (wc2.alloc (.cells #[.int .i64 0, .int .i64 0, .int .i64 0, .int .i64 0, .pointer none, .int .i64 0, .pointer none] FT)) := bl_alloc (Below.refl _ _) _
          have hSn := bl_on hS hbn
          have nYX : ¬ pX = wc2.heap.size := by have := X.out.lt; omega
          have X := hid (X.out.stays hbn)
          generalize hwn : wc2.alloc (.cells #[.int .i64 0, .int .i64 0, .int .i64 0, .int .i64 0, .pointer none, .int .i64 0, .pointer none] FT) = wc3 at Y hSn X ⊢
          have qY : w.heap.size ≤ wc2.heap.size := hS.size
          generalize hpY : wc2.heap.size = pY at Y qY nYX ⊢
          clear hbn hwn hpY
          refine hK.out _ _ (hSn) (fun hSn => ?_)
          clear hK K hS
          have hS := hSn
          clear hSn
          try simp only [Act.put, List.setIfInBounds_toArray, List.set_cons_zero, List.set_cons_succ, List.getElem_toArray, List.getElem_cons_succ, List.getElem_cons_zero]
          refine wpAnyH_ready (rs := [11]) (by kernel_rfl) (by simp) (AllReadyH.cons rfl (fun K hK => ?a29_11) AllReadyH.nil)
          case' a29_11 =>
            go_simp
            refine (h0.out wc3 hS).mono ?_
            rintro e wc4 ⟨rfl, hb⟩
            have X := hid (X.out.stays hb)
            have Y := hid (Y.out.stays hb)
            refine hK.out _ _ (bl_on hS hb) (fun hSn => ?_)
            clear hK K hS
            have hS := hSn
            clear hSn
            try simp only [Act.put, List.setIfInBounds_toArray, List.set_cons_zero, List.set_cons_succ, List.getElem_toArray, List.getElem_cons_succ, List.getElem_cons_zero]
            clear hb
            refine wpAnyH_ready (rs := [14]) (by kernel_rfl) (by simp) (AllReadyH.cons rfl (fun K hK => ?a30_14) AllReadyH.nil)
            case' a30_14 =>
              go_simp
              have cc := X.out.cell
              have cf := X.out.frozen
              go_simp
              have X := hid (((((((X.out.set 0 (.int .i64 1)).set 1 (.int .i64 0)).set 2 (.int .i64 1)).set 3 (.int .i64 1)).set 4 (.pointer none)).set 5 (.int .i64 1)).set 6 (.pointer none))
              have Y := hid (((((((Y.out.other (p := ⟨pX, 0, none⟩) (by show ¬ pY = pX; omega) (.int .i64 1)).other (p := ⟨pX, 1, none⟩) (by show ¬ pY = pX; omega) (.int .i64 0)).other (p := ⟨pX, 2, none⟩) (by show ¬ pY = pX; omega) (.int .i64 1)).other (p := ⟨pX, 3, none⟩) (by show ¬ pY = pX; omega) (.int .i64 1)).other (p := ⟨pX, 4, none⟩) (by show ¬ pY = pX; omega) (.pointer none)).other (p := ⟨pX, 5, none⟩) (by show ¬ pY = pX; omega) (.int .i64 1)).other (p := ⟨pX, 6, none⟩) (by show ¬ pY = pX; omega) (.pointer none))
              simp only [List.set_cons_zero, List.set_cons_succ] at X
              have hSn : Below w.heap.size w (((((((wc4.setCell ⟨pX, 0, none⟩ (.int .i64 1)).setCell ⟨pX, 1, none⟩ (.int .i64 0)).setCell ⟨pX, 2, none⟩ (.int .i64 1)).setCell ⟨pX, 3, none⟩ (.int .i64 1)).setCell ⟨pX, 4, none⟩ (.pointer none)).setCell ⟨pX, 5, none⟩ (.int .i64 1)).setCell ⟨pX, 6, none⟩ (.pointer none)) := (bl_put (bl_put (bl_put (bl_put (bl_put (bl_put (bl_put hS (p := ⟨pX, 0, none⟩) (.int .i64 1) qX) (p := ⟨pX, 1, none⟩) (.int .i64 0) qX) (p := ⟨pX, 2, none⟩) (.int .i64 1) qX) (p := ⟨pX, 3, none⟩) (.int .i64 1) qX) (p := ⟨pX, 4, none⟩) (.pointer none) qX) (p := ⟨pX, 5, none⟩) (.int .i64 1) qX) (p := ⟨pX, 6, none⟩) (.pointer none) qX)
              generalize (((((((wc4.setCell ⟨pX, 0, none⟩ (.int .i64 1)).setCell ⟨pX, 1, none⟩ (.int .i64 0)).setCell ⟨pX, 2, none⟩ (.int .i64 1)).setCell ⟨pX, 3, none⟩ (.int .i64 1)).setCell ⟨pX, 4, none⟩ (.pointer none)).setCell ⟨pX, 5, none⟩ (.int .i64 1)).setCell ⟨pX, 6, none⟩ (.pointer none)) = wc5 at X hSn Y ⊢
              clear cc cf
              refine hK.out _ _ (hSn) (fun hSn => ?_)
              clear hK K hS
              have hS := hSn
              clear hSn
              try simp only [Act.put, List.setIfInBounds_toArray, List.set_cons_zero, List.set_cons_succ, List.getElem_toArray, List.getElem_cons_succ, List.getElem_cons_zero]
              refine wpAnyH_ready (rs := [15]) (by kernel_rfl) (by simp) (AllReadyH.cons rfl (fun K hK => ?a31_15) AllReadyH.nil)
              case' a31_15 =>
                go_simp
                have cc := Y.out.cell
                have cf := Y.out.frozen
                go_simp
                have Y := hid (((((((Y.out.set 0 (.int .i64 0)).set 1 (.int .i64 0)).set 2 (.int .i64 0)).set 3 (.int .i64 0)).set 4 (.pointer none)).set 5 (.int .i64 1)).set 6 (.pointer none))
                have X := hid (((((((X.out.other (p := ⟨pY, 0, none⟩) (by show ¬ pX = pY; omega) (.int .i64 0)).other (p := ⟨pY, 1, none⟩) (by show ¬ pX = pY; omega) (.int .i64 0)).other (p := ⟨pY, 2, none⟩) (by show ¬ pX = pY; omega) (.int .i64 0)).other (p := ⟨pY, 3, none⟩) (by show ¬ pX = pY; omega) (.int .i64 0)).other (p := ⟨pY, 4, none⟩) (by show ¬ pX = pY; omega) (.pointer none)).other (p := ⟨pY, 5, none⟩) (by show ¬ pX = pY; omega) (.int .i64 1)).other (p := ⟨pY, 6, none⟩) (by show ¬ pX = pY; omega) (.pointer none))
                simp only [List.set_cons_zero, List.set_cons_succ] at Y
                have hSn : Below w.heap.size w (((((((wc5.setCell ⟨pY, 0, none⟩ (.int .i64 0)).setCell ⟨pY, 1, none⟩ (.int .i64 0)).setCell ⟨pY, 2, none⟩ (.int .i64 0)).setCell ⟨pY, 3, none⟩ (.int .i64 0)).setCell ⟨pY, 4, none⟩ (.pointer none)).setCell ⟨pY, 5, none⟩ (.int .i64 1)).setCell ⟨pY, 6, none⟩ (.pointer none)) := (bl_put (bl_put (bl_put (bl_put (bl_put (bl_put (bl_put hS (p := ⟨pY, 0, none⟩) (.int .i64 0) qY) (p := ⟨pY, 1, none⟩) (.int .i64 0) qY) (p := ⟨pY, 2, none⟩) (.int .i64 0) qY) (p := ⟨pY, 3, none⟩) (.int .i64 0) qY) (p := ⟨pY, 4, none⟩) (.pointer none) qY) (p := ⟨pY, 5, none⟩) (.int .i64 1) qY) (p := ⟨pY, 6, none⟩) (.pointer none) qY)
                generalize (((((((wc5.setCell ⟨pY, 0, none⟩ (.int .i64 0)).setCell ⟨pY, 1, none⟩ (.int .i64 0)).setCell ⟨pY, 2, none⟩ (.int .i64 0)).setCell ⟨pY, 3, none⟩ (.int .i64 0)).setCell ⟨pY, 4, none⟩ (.pointer none)).setCell ⟨pY, 5, none⟩ (.int .i64 1)).setCell ⟨pY, 6, none⟩ (.pointer none)) = wc6 at Y hSn X ⊢
                clear cc cf
                refine hK.out _ _ (hSn) (fun hSn => ?_)
                clear hK K hS
                have hS := hSn
                clear hSn
                try simp only [Act.put, List.setIfInBounds_toArray, List.set_cons_zero, List.set_cons_succ, List.getElem_toArray, List.getElem_cons_succ, List.getElem_cons_zero]
                refine wpAnyH_done (by kernel_rfl) ?_ _
      case' a24_13 =>
        go_simp
        have Y : Hid (Arr (wc1.alloc (.cells #[.int .i64 0, .int .i64 0, .int .i64 0, .int .i64 0, .pointer none, .int .i64 0, .pointer none] FT)) wc1.heap.size FT [.int .i64 0, .int .i64 0, .int .i64 0, .int .i64 0, .pointer none, .int .i64 0, .pointer none]) := ⟨heap_alloc_at _ _⟩
        have hbn : Below wc1.heap.size wc1 (wc1.alloc (.cells #[.int .i64 0, .int .i64 0, .int .i64 0, .int .i64 0, .pointer none, .int .i64 0, .pointer none] FT)) := bl_alloc (Below.refl _ _) _
        have hSn := bl_on hS hbn
        have nYX : ¬ pX = wc1.heap.size := by have := X.out.lt; omega
        have X := hid (X.out.stays hbn)
        generalize hwn : wc1.alloc (.cells #[.int .i64 0, .int .i64 0, .int .i64 0, .int .i64 0, .pointer none, .int .i64 0, .pointer none] FT) = wc2 at Y hSn X ⊢
        have qY : w.heap.size ≤ wc1.heap.size := hS.size
        generalize hpY : wc1.heap.size = pY at Y qY nYX ⊢
        clear hbn hwn hpY
        refine hK.out _ _ (hSn) (fun hSn => ?_)
        clear hK K hS
        have hS := hSn
        clear hSn
        try simp only [Act.put, List.setIfInBounds_toArray, List.set_cons_zero, List.set_cons_succ, List.getElem_toArray, List.getElem_cons_succ, List.getElem_cons_zero]
        refine wpAnyH_ready (rs := [5]) (by kernel_rfl) (by simp) (AllReadyH.cons rfl (fun K hK => ?a32_5) AllReadyH.nil)
        case' a32_5 =>
          go_simp
          refine (h1.out wc2 hS).mono ?_
          rintro e wc3 ⟨rfl, hb⟩
          have X := hid (X.out.stays hb)
          have Y := hid (Y.out.stays hb)
          refine hK.out _ _ (bl_on hS hb) (fun hSn => ?_)
          clear hK K hS
          have hS := hSn
          clear hSn
          try simp only [Act.put, List.setIfInBounds_toArray, List.set_cons_zero, List.set_cons_succ, List.getElem_toArray, List.getElem_cons_succ, List.getElem_cons_zero]
          clear hb
          refine wpAnyH_ready (rs := [11]) (by kernel_rfl) (by simp) (AllReadyH.cons rfl (fun K hK => ?a33_11) AllReadyH.nil)
          case' a33_11 =>
            go_simp
            refine (h0.out wc3 hS).mono ?_
            rintro e wc4 ⟨rfl, hb⟩
            have X := hid (X.out.stays hb)
            have Y := hid (Y.out.stays hb)
            refine hK.out _ _ (bl_on hS hb) (fun hSn => ?_)
            clear hK K hS
            have hS := hSn
            clear hSn
            try simp only [Act.put, List.setIfInBounds_toArray, List.set_cons_zero, List.set_cons_succ, List.getElem_toArray, List.getElem_cons_succ, List.getElem_cons_zero]
            clear hb
            refine wpAnyH_ready (rs := [14]) (by kernel_rfl) (by simp) (AllReadyH.cons rfl (fun K hK => ?a34_14) AllReadyH.nil)
            case' a34_14 =>
              go_simp
              have cc := X.out.cell
              have cf := X.out.frozen
              go_simp
              have X := hid (((((((X.out.set 0 (.int .i64 1)).set 1 (.int .i64 0)).set 2 (.int .i64 1)).set 3 (.int .i64 1)).set 4 (.pointer none)).set 5 (.int .i64 1)).set 6 (.pointer none))
              have Y := hid (((((((Y.out.other (p := ⟨pX, 0, none⟩) (by show ¬ pY = pX; omega) (.int .i64 1)).other (p := ⟨pX, 1, none⟩) (by show ¬ pY = pX; omega) (.int .i64 0)).other (p := ⟨pX, 2, none⟩) (by show ¬ pY = pX; omega) (.int .i64 1)).other (p := ⟨pX, 3, none⟩) (by show ¬ pY = pX; omega) (.int .i64 1)).other (p := ⟨pX, 4, none⟩) (by show ¬ pY = pX; omega) (.pointer none)).other (p := ⟨pX, 5, none⟩) (by show ¬ pY = pX; omega) (.int .i64 1)).other (p := ⟨pX, 6, none⟩) (by show ¬ pY = pX; omega) (.pointer none))
              simp only [List.set_cons_zero, List.set_cons_succ] at X
              have hSn : Below w.heap.size w (((((((wc4.setCell ⟨pX, 0, none⟩ (.int .i64 1)).setCell ⟨pX, 1, none⟩ (.int .i64 0)).setCell ⟨pX, 2, none⟩ (.int .i64 1)).setCell ⟨pX, 3, none⟩ (.int .i64 1)).setCell ⟨pX, 4, none⟩ (.pointer none)).setCell ⟨pX, 5, none⟩ (.int .i64 1)).setCell ⟨pX, 6, none⟩ (.pointer none)) := (bl_put (bl_put (bl_put (bl_put (bl_put (bl_put (bl_put hS (p := ⟨pX, 0, none⟩) (.int .i64 1) qX) (p := ⟨pX, 1, none⟩) (.int .i64 0) qX) (p := ⟨pX, 2, none⟩) (.int .i64 1) qX) (p := ⟨pX, 3, none⟩) (.int .i64 1) qX) (p := ⟨pX, 4, none⟩) (.pointer none) qX) (p := ⟨pX, 5, none⟩) (.int .i64 1) qX) (p := ⟨pX, 6, none⟩) (.pointer none) qX)
              generalize (((((((wc4.setCell ⟨pX, 0, none⟩ (.int .i64 1)).setCell ⟨pX, 1, none⟩ (.int .i64 0)).setCell ⟨pX, 2, none⟩ (.int .i64 1)).setCell ⟨pX, 3, none⟩ (.int .i64 1)).setCell ⟨pX, 4, none⟩ (.pointer none)).setCell ⟨pX, 5, none⟩ (.int .i64 1)).setCell ⟨pX, 6, none⟩ (.pointer none)) = wc5 at X hSn Y ⊢
              clear cc cf
              refine hK.out _ _ (hSn) (fun hSn => ?_)
              clear hK K hS
              have hS := hSn
              clear hSn
              try simp only [Act.put, List.setIfInBounds_toArray, List.set_cons_zero, List.set_cons_succ, List.getElem_toArray, List.getElem_cons_succ, List.getElem_cons_zero]
              refine wpAnyH_ready (rs := [15]) (by kernel_rfl) (by simp) (AllReadyH.cons rfl (fun K hK => ?a35_15) AllReadyH.nil)
              case' a35_15 =>
                go_simp
                have cc := Y.out.cell
                have cf := Y.out.frozen
                go_simp
                have Y := hid (((((((Y.out.set 0 (.int .i64 0)).set 1 (.int .i64 0)).set 2 (.int .i64 0)).set 3 (.int .i64 0)).set 4 (.pointer none)).set 5 (.int .i64 1)).set 6 (.pointer none))
                have X := hid (((((((X.out.other (p := ⟨pY, 0, none⟩) (by show ¬ pX = pY; omega) (.int .i64 0)).other (p := ⟨pY, 1, none⟩) (by show ¬ pX = pY; omega) (.int .i64 0)).other (p := ⟨pY, 2, none⟩) (by show ¬ pX = pY; omega) (.int .i64 0)).other (p := ⟨pY, 3, none⟩) (by show ¬ pX = pY; omega) (.int .i64 0)).other (p := ⟨pY, 4, none⟩) (by show ¬ pX = pY; omega) (.pointer none)).other (p := ⟨pY, 5, none⟩) (by show ¬ pX = pY; omega) (.int .i64 1)).other (p := ⟨pY, 6, none⟩) (by show ¬ pX = pY; omega) (.pointer none))
                simp only [List.set_cons_zero, List.set_cons_succ] at Y
                have hSn : Below w.heap.size w (((((((wc5.setCell ⟨pY, 0, none⟩ (.int .i64 0)).setCell ⟨pY, 1, none⟩ (.int .i64 0)).setCell ⟨pY, 2, none⟩ (.int .i64 0)).setCell ⟨pY, 3, none⟩ (.int .i64 0)).setCell ⟨pY, 4, none⟩ (.pointer none)).setCell ⟨pY, 5, none⟩ (.int .i64 1)).setCell ⟨pY, 6, none⟩ (.pointer none)) := (bl_put (bl_put (bl_put (bl_put (bl_put (bl_put (bl_put hS (p := ⟨pY, 0, none⟩) (.int .i64 0) qY) (p := ⟨pY, 1, none⟩) (.int .i64 0) qY) (p := ⟨pY, 2, none⟩) (.int .i64 0) qY) (p := ⟨pY, 3, none⟩) (.int .i64 0) qY) (p := ⟨pY, 4, none⟩) (.pointer none) qY) (p := ⟨pY, 5, none⟩) (.int .i64 1) qY) (p := ⟨pY, 6, none⟩) (.pointer none) qY)
                generalize (((((((wc5.setCell ⟨pY, 0, none⟩ (.int .i64 0)).setCell ⟨pY, 1, none⟩ (.int .i64 0)).setCell ⟨pY, 2, none⟩ (.int .i64 0)).setCell ⟨pY, 3, none⟩ (.int .i64 0)).setCell ⟨pY, 4, none⟩ (.pointer none)).setCell ⟨pY, 5, none⟩ (.int .i64 1)).setCell ⟨pY, 6, none⟩ (.pointer none)) = wc6 at Y hSn X ⊢
                clear cc cf
                refine hK.out _ _ (hSn) (fun hSn => ?_)
                clear hK K hS
                have hS := hSn
                clear hSn
                try simp only [Act.put, List.setIfInBounds_toArray, List.set_cons_zero, List.set_cons_succ, List.getElem_toArray, List.getElem_cons_succ, List.getElem_cons_zero]
                refine wpAnyH_done (by kernel_rfl) ?_ _
    case' a1_13 =>
      go_simp
      have Y : Hid (Arr (wc0.alloc (.cells #[.int .i64 0, .int .i64 0, .int .i64 0, .int .i64 0, .pointer none, .int .i64 0, .pointer none] FT)) wc0.heap.size FT [.int .i64 0, .int .i64 0, .int .i64 0, .int .i64 0, .pointer none, .int .i64 0, .pointer none]) := ⟨heap_alloc_at _ _⟩
      have hbn : Below wc0.heap.size wc0 (wc0.alloc (.cells #[.int .i64 0, .int .i64 0, .int .i64 0, .int .i64 0, .pointer none, .int .i64 0, .pointer none] FT)) := bl_alloc (Below.refl _ _) _
      have hSn := bl_on hS hbn
      generalize hwn : wc0.alloc (.cells #[.int .i64 0, .int .i64 0, .int .i64 0, .int .i64 0, .pointer none, .int .i64 0, .pointer none] FT) = wc1 at Y hSn  ⊢
      have qY : w.heap.size ≤ wc0.heap.size := hS.size
      generalize hpY : wc0.heap.size = pY at Y qY  ⊢
      clear hbn hwn hpY
      refine hK.out _ _ (hSn) (fun hSn => ?_)
      clear hK K hS
      have hS := hSn
      clear hSn
      try simp only [Act.put, List.setIfInBounds_toArray, List.set_cons_zero, List.set_cons_succ, List.getElem_toArray, List.getElem_cons_succ, List.getElem_cons_zero]
      refine wpAnyH_ready (rs := [5, 12]) (by kernel_rfl) (by simp) (AllReadyH.cons rfl (fun K hK => ?a36_5) (AllReadyH.cons rfl (fun K hK => ?a36_12) AllReadyH.nil))
      case' a36_5 =>
        go_simp
        refine (h1.out wc1 hS).mono ?_
        rintro e wc2 ⟨rfl, hb⟩
        have Y := hid (Y.out.stays hb)
        refine hK.out _ _ (bl_on hS hb) (fun hSn => ?_)
        clear hK K hS
        have hS := hSn
        clear hSn
        try simp only [Act.put, List.setIfInBounds_toArray, List.set_cons_zero, List.set_cons_succ, List.getElem_toArray, List.getElem_cons_succ, List.getElem_cons_zero]
        clear hb
        refine wpAnyH_ready (rs := [11, 12]) (by kernel_rfl) (by simp) (AllReadyH.cons rfl (fun K hK => ?a37_11) (AllReadyH.cons rfl (fun K hK => ?a37_12) AllReadyH.nil))
        case' a37_11 =>
          go_simp
          refine (h0.out wc2 hS).mono ?_
          rintro e wc3 ⟨rfl, hb⟩
          have Y := hid (Y.out.stays hb)
          refine hK.out _ _ (bl_on hS hb) (fun hSn => ?_)
          clear hK K hS
          have hS := hSn
          clear hSn
          try simp only [Act.put, List.setIfInBounds_toArray, List.set_cons_zero, List.set_cons_succ, List.getElem_toArray, List.getElem_cons_succ, List.getElem_cons_zero]
          clear hb
          refine wpAnyH_ready (rs := [12]) (by kernel_rfl) (by simp) (AllReadyH.cons rfl (fun K hK => ?a38_12) AllReadyH.nil)
          case' a38_12 =>
            go_simp
            have X : Hid (Arr (wc3.alloc (.cells #[.int .i64 0, .int .i64 0, .int .i64 0, .int .i64 0, .pointer none, .int .i64 0, .pointer none] FT)) wc3.heap.size FT [.int .i64 0, .int .i64 0, .int .i64 0, .int .i64 0, .pointer none, .int .i64 0, .pointer none]) := ⟨heap_alloc_at _ _⟩
            have hbn : Below wc3.heap.size wc3 (wc3.alloc (.cells #[.int .i64 0, .int .i64 0, .int .i64 0, .int .i64 0, .pointer none, .int .i64 0, .pointer none] FT)) := bl_alloc (Below.refl _ _) _
            have hSn := bl_on hS hbn
            have nXY : ¬ pY = wc3.heap.size := by have := Y.out.lt; omega
            have Y := hid (Y.out.stays hbn)
            generalize hwn : wc3.alloc (.cells #[.int .i64 0, .int .i64 0, .int .i64 0, .int .i64 0, .pointer none, .int .i64 0, .pointer none] FT) = wc4 at X hSn Y ⊢
            have qX : w.heap.size ≤ wc3.heap.size := hS.size
            generalize hpX : wc3.heap.size = pX at X qX nXY ⊢
            clear hbn hwn hpX
            refine hK.out _ _ (hSn) (fun hSn => ?_)
            clear hK K hS
            have hS := hSn
            clear hSn
            try simp only [Act.put, List.setIfInBounds_toArray, List.set_cons_zero, List.set_cons_succ, List.getElem_toArray, List.getElem_cons_succ, List.getElem_cons_zero]
            refine wpAnyH_ready (rs := [14]) (by kernel_rfl) (by simp) (AllReadyH.cons rfl (fun K hK => ?a39_14) AllReadyH.nil)
            case' a39_14 =>
              go_simp
              have cc := X.out.cell
              have cf := X.out.frozen
              go_simp
              have X := hid (((((((X.out.set 0 (.int .i64 1)).set 1 (.int .i64 0)).set 2 (.int .i64 1)).set 3 (.int .i64 1)).set 4 (.pointer none)).set 5 (.int .i64 1)).set 6 (.pointer none))
              have Y := hid (((((((Y.out.other (p := ⟨pX, 0, none⟩) (by show ¬ pY = pX; omega) (.int .i64 1)).other (p := ⟨pX, 1, none⟩) (by show ¬ pY = pX; omega) (.int .i64 0)).other (p := ⟨pX, 2, none⟩) (by show ¬ pY = pX; omega) (.int .i64 1)).other (p := ⟨pX, 3, none⟩) (by show ¬ pY = pX; omega) (.int .i64 1)).other (p := ⟨pX, 4, none⟩) (by show ¬ pY = pX; omega) (.pointer none)).other (p := ⟨pX, 5, none⟩) (by show ¬ pY = pX; omega) (.int .i64 1)).other (p := ⟨pX, 6, none⟩) (by show ¬ pY = pX; omega) (.pointer none))
              simp only [List.set_cons_zero, List.set_cons_succ] at X
              have hSn : Below w.heap.size w (((((((wc4.setCell ⟨pX, 0, none⟩ (.int .i64 1)).setCell ⟨pX, 1, none⟩ (.int .i64 0)).setCell ⟨pX, 2, none⟩ (.int .i64 1)).setCell ⟨pX, 3, none⟩ (.int .i64 1)).setCell ⟨pX, 4, none⟩ (.pointer none)).setCell ⟨pX, 5, none⟩ (.int .i64 1)).setCell ⟨pX, 6, none⟩ (.pointer none)) := (bl_put (bl_put (bl_put (bl_put (bl_put (bl_put (bl_put hS (p := ⟨pX, 0, none⟩) (.int .i64 1) qX) (p := ⟨pX, 1, none⟩) (.int .i64 0) qX) (p := ⟨pX, 2, none⟩) (.int .i64 1) qX) (p := ⟨pX, 3, none⟩) (.int .i64 1) qX) (p := ⟨pX, 4, none⟩) (.pointer none) qX) (p := ⟨pX, 5, none⟩) (.int .i64 1) qX) (p := ⟨pX, 6, none⟩) (.pointer none) qX)
              generalize (((((((wc4.setCell ⟨pX, 0, none⟩ (.int .i64 1)).setCell ⟨pX, 1, none⟩ (.int .i64 0)).setCell ⟨pX, 2, none⟩ (.int .i64 1)).setCell ⟨pX, 3, none⟩ (.int .i64 1)).setCell ⟨pX, 4, none⟩ (.pointer none)).setCell ⟨pX, 5, none⟩ (.int .i64 1)).setCell ⟨pX, 6, none⟩ (.pointer none)) = wc5 at X hSn Y ⊢
              clear cc cf
              refine hK.out _ _ (hSn) (fun hSn => ?_)
              clear hK K hS
              have hS := hSn
              clear hSn
              try simp only [Act.put, List.setIfInBounds_toArray, List.set_cons_zero, List.set_cons_succ, List.getElem_toArray, List.getElem_cons_succ, List.getElem_cons_zero]
              refine wpAnyH_ready (rs := [15]) (by kernel_rfl) (by simp) (AllReadyH.cons rfl (fun K hK => ?a40_15) AllReadyH.nil)
              case' a40_15 =>
                go_simp
                have cc := Y.out.cell
                have cf := Y.out.frozen
                go_simp
                have Y := hid (((((((Y.out.set 0 (.int .i64 0)).set 1 (.int .i64 0)).set 2 (.int .i64 0)).set 3 (.int .i64 0)).set 4 (.pointer none)).set 5 (.int .i64 1)).set 6 (.pointer none))
                have X := hid (((((((X.out.other (p := ⟨pY, 0, none⟩) (by show ¬ pX = pY; omega) (.int .i64 0)).other (p := ⟨pY, 1, none⟩) (by show ¬ pX = pY; omega) (.int .i64 0)).other (p := ⟨pY, 2, none⟩) (by show ¬ pX = pY; omega) (.int .i64 0)).other (p := ⟨pY, 3, none⟩) (by show ¬ pX = pY; omega) (.int .i64 0)).other (p := ⟨pY, 4, none⟩) (by show ¬ pX = pY; omega) (.pointer none)).other (p := ⟨pY, 5, none⟩) (by show ¬ pX = pY; omega) (.int .i64 1)).other (p := ⟨pY, 6, none⟩) (by show ¬ pX = pY; omega) (.pointer none))
                simp only [List.set_cons_zero, List.set_cons_succ] at Y
                have hSn : Below w.heap.size w (((((((wc5.setCell ⟨pY, 0, none⟩ (.int .i64 0)).setCell ⟨pY, 1, none⟩ (.int .i64 0)).setCell ⟨pY, 2, none⟩ (.int .i64 0)).setCell ⟨pY, 3, none⟩ (.int .i64 0)).setCell ⟨pY, 4, none⟩ (.pointer none)).setCell ⟨pY, 5, none⟩ (.int .i64 1)).setCell ⟨pY, 6, none⟩ (.pointer none)) := (bl_put (bl_put (bl_put (bl_put (bl_put (bl_put (bl_put hS (p := ⟨pY, 0, none⟩) (.int .i64 0) qY) (p := ⟨pY, 1, none⟩) (.int .i64 0) qY) (p := ⟨pY, 2, none⟩) (.int .i64 0) qY) (p := ⟨pY, 3, none⟩) (.int .i64 0) qY) (p := ⟨pY, 4, none⟩) (.pointer none) qY) (p := ⟨pY, 5, none⟩) (.int .i64 1) qY) (p := ⟨pY, 6, none⟩) (.pointer none) qY)
                generalize (((((((wc5.setCell ⟨pY, 0, none⟩ (.int .i64 0)).setCell ⟨pY, 1, none⟩ (.int .i64 0)).setCell ⟨pY, 2, none⟩ (.int .i64 0)).setCell ⟨pY, 3, none⟩ (.int .i64 0)).setCell ⟨pY, 4, none⟩ (.pointer none)).setCell ⟨pY, 5, none⟩ (.int .i64 1)).setCell ⟨pY, 6, none⟩ (.pointer none)) = wc6 at Y hSn X ⊢
                clear cc cf
                refine hK.out _ _ (hSn) (fun hSn => ?_)
                clear hK K hS
                have hS := hSn
                clear hSn
                try simp only [Act.put, List.setIfInBounds_toArray, List.set_cons_zero, List.set_cons_succ, List.getElem_toArray, List.getElem_cons_succ, List.getElem_cons_zero]
                refine wpAnyH_done (by kernel_rfl) ?_ _
        case' a37_12 =>
          go_simp
          have X : Hid (Arr (wc2.alloc (.cells #[.int .i64 0, .int .i64 0, .int .i64 0, .int .i64 0, .pointer none, .int .i64 0, .pointer none] FT)) wc2.heap.size FT [.int .i64 0, .int .i64 0, .int .i64 0, .int .i64 0, .pointer none, .int .i64 0, .pointer none]) := ⟨heap_alloc_at _ _⟩
          have hbn : Below wc2.heap.size wc2 (wc2.alloc (.cells #[.int .i64 0, .int .i64 0, .int .i64 0, .int .i64 0, .pointer none, .int .i64 0, .pointer none] FT)) := bl_alloc (Below.refl _ _) _
          have hSn := bl_on hS hbn
          have nXY : ¬ pY = wc2.heap.size := by have := Y.out.lt; omega
          have Y := hid (Y.out.stays hbn)
          generalize hwn : wc2.alloc (.cells #[.int .i64 0, .int .i64 0, .int .i64 0, .int .i64 0, .pointer none, .int .i64 0, .pointer none] FT) = wc3 at X hSn Y ⊢
          have qX : w.heap.size ≤ wc2.heap.size := hS.size
          generalize hpX : wc2.heap.size = pX at X qX nXY ⊢
          clear hbn hwn hpX
          refine hK.out _ _ (hSn) (fun hSn => ?_)
          clear hK K hS
          have hS := hSn
          clear hSn
          try simp only [Act.put, List.setIfInBounds_toArray, List.set_cons_zero, List.set_cons_succ, List.getElem_toArray, List.getElem_cons_succ, List.getElem_cons_zero]
          refine wpAnyH_ready (rs := [11]) (by kernel_rfl) (by simp) (AllReadyH.cons rfl (fun K hK => ?a41_11) AllReadyH.nil)
          case' a41_11 =>
            go_simp
            refine (h0.out wc3 hS).mono ?_
            rintro e wc4 ⟨rfl, hb⟩
            have Y := hid (Y.out.stays hb)
            have X := hid (X.out.stays hb)
            refine hK.out _ _ (bl_on hS hb) (fun hSn => ?_)
            clear hK K hS
            have hS := hSn
            clear hSn
            try simp only [Act.put, List.setIfInBounds_toArray, List.set_cons_zero, List.set_cons_succ, List.getElem_toArray, List.getElem_cons_succ, List.getElem_cons_zero]
            clear hb
            refine wpAnyH_ready (rs := [14]) (by kernel_rfl) (by simp) (AllReadyH.cons rfl (fun K hK => ?a42_14) AllReadyH.nil)
            case' a42_14 =>
              go_simp
              have cc := X.out.cell
              have cf := X.out.frozen
              go_simp
              have X := hid (((((((X.out.set 0 (.int .i64 1)).set 1 (.int .i64 0)).set 2 (.int .i64 1)).set 3 (.int .i64 1)).set 4 (.pointer none)).set 5 (.int .i64 1)).set 6 (.pointer none))
              have Y := hid (((((((Y.out.other (p := ⟨pX, 0, none⟩) (by show ¬ pY = pX; omega) (.int .i64 1)).other (p := ⟨pX, 1, none⟩) (by show ¬ pY = pX; omega) (.int .i64 0)).other (p := ⟨pX, 2, none⟩) (by show ¬ pY = pX; omega) (.int .i64 1)).other (p := ⟨pX, 3, none⟩) (by show ¬ pY = pX; omega) (.int .i64 1)).other (p := ⟨pX, 4, none⟩) (by show ¬ pY = pX; omega) (.pointer none)).other (p := ⟨pX, 5, none⟩) (by show ¬ pY = pX; omega) (.int .i64 1)).other (p := ⟨pX, 6, none⟩) (by show ¬ pY = pX; omega) (.pointer none))
              simp only [List.set_cons_zero, List.set_cons_succ] at X
              have hSn : Below w.heap.size w (((((((wc4.setCell ⟨pX, 0, none⟩ (.int .i64 1)).setCell ⟨pX, 1, none⟩ (.int .i64 0)).setCell ⟨pX, 2, none⟩ (.int .i64 1)).setCell ⟨pX, 3, none⟩ (.int .i64 1)).setCell ⟨pX, 4, none⟩ (.pointer none)).setCell ⟨pX, 5, none⟩ (.int .i64 1)).setCell ⟨pX, 6, none⟩ (.pointer none)) := (bl_put (bl_put (bl_put (bl_put (bl_put (bl_put (bl_put hS (p := ⟨pX, 0, none⟩) (.int .i64 1) qX) (p := ⟨pX, 1, none⟩) (.int .i64 0) qX) (p := ⟨pX, 2, none⟩) (.int .i64 1) qX) (p := ⟨pX, 3, none⟩) (.int .i64 1) qX) (p := ⟨pX, 4, none⟩) (.pointer none) qX) (p := ⟨pX, 5, none⟩) (.int .i64 1) qX) (p := ⟨pX, 6, none⟩) (.pointer none) qX)
              generalize (((((((wc4.setCell ⟨pX, 0, none⟩ (.int .i64 1)).setCell ⟨pX, 1, none⟩ (.int .i64 0)).setCell ⟨pX, 2, none⟩ (.int .i64 1)).setCell ⟨pX, 3, none⟩ (.int .i64 1)).setCell ⟨pX, 4, none⟩ (.pointer none)).setCell ⟨pX, 5, none⟩ (.int .i64 1)).setCell ⟨pX, 6, none⟩ (.pointer none)) = wc5 at X hSn Y ⊢
              clear cc cf
              refine hK.out _ _ (hSn) (fun hSn => ?_)
              clear hK K hS
              have hS := hSn
              clear hSn
              try simp only [Act.put, List.setIfInBounds_toArray, List.set_cons_zero, List.set_cons_succ, List.getElem_toArray, List.getElem_cons_succ, List.getElem_cons_zero]
              refine wpAnyH_ready (rs := [15]) (by kernel_rfl) (by simp) (AllReadyH.cons rfl (fun K hK => ?a43_15) AllReadyH.nil)
              case' a43_15 =>
                go_simp
                have cc := Y.out.cell
                have cf := Y.out.frozen
                go_simp
                have Y := hid (((((((Y.out.set 0 (.int .i64 0)).set 1 (.int .i64 0)).set 2 (.int .i64 0)).set 3 (.int .i64 0)).set 4 (.pointer none)).set 5 (.int .i64 1)).set 6 (.pointer none))
                have X := hid (((((((X.out.other (p := ⟨pY, 0, none⟩) (by show ¬ pX = pY; omega) (.int .i64 0)).other (p := ⟨pY, 1, none⟩) (by show ¬ pX = pY; omega) (.int .i64 0)).other (p := ⟨pY, 2, none⟩) (by show ¬ pX = pY; omega) (.int .i64 0)).other (p := ⟨pY, 3, none⟩) (by show ¬ pX = pY; omega) (.int .i64 0)).other (p := ⟨pY, 4, none⟩) (by show ¬ pX = pY; omega) (.pointer none)).other (p := ⟨pY, 5, none⟩) (by show ¬ pX = pY; omega) (.int .i64 1)).other (p := ⟨pY, 6, none⟩) (by show ¬ pX = pY; omega) (.pointer none))
                simp only [List.set_cons_zero, List.set_cons_succ] at Y
                have hSn : Below w.heap.size w (((((((wc5.setCell ⟨pY, 0, none⟩ (.int .i64 0)).setCell ⟨pY, 1, none⟩ (.int .i64 0)).setCell ⟨pY, 2, none⟩ (.int .i64 0)).setCell ⟨pY, 3, none⟩ (.int .i64 0)).setCell ⟨pY, 4, none⟩ (.pointer none)).setCell ⟨pY, 5, none⟩ (.int .i64 1)).setCell ⟨pY, 6, none⟩ (.pointer none)) := (bl_put (bl_put (bl_put (bl_put (bl_put (bl_put (bl_put hS (p := ⟨pY, 0, none⟩) (.int .i64 0) qY) (p := ⟨pY, 1, none⟩) (.int .i64 0) qY) (p := ⟨pY, 2, none⟩) (.int .i64 0) qY) (p := ⟨pY, 3, none⟩) (.int .i64 0) qY) (p := ⟨pY, 4, none⟩) (.pointer none) qY) (p := ⟨pY, 5, none⟩) (.int .i64 1) qY) (p := ⟨pY, 6, none⟩) (.pointer none) qY)
                generalize (((((((wc5.setCell ⟨pY, 0, none⟩ (.int .i64 0)).setCell ⟨pY, 1, none⟩ (.int .i64 0)).setCell ⟨pY, 2, none⟩ (.int .i64 0)).setCell ⟨pY, 3, none⟩ (.int .i64 0)).setCell ⟨pY, 4, none⟩ (.pointer none)).setCell ⟨pY, 5, none⟩ (.int .i64 1)).setCell ⟨pY, 6, none⟩ (.pointer none)) = wc6 at Y hSn X ⊢
                clear cc cf
                refine hK.out _ _ (hSn) (fun hSn => ?_)
                clear hK K hS
                have hS := hSn
                clear hSn
                try simp only [Act.put, List.setIfInBounds_toArray, List.set_cons_zero, List.set_cons_succ, List.getElem_toArray, List.getElem_cons_succ, List.getElem_cons_zero]
                refine wpAnyH_done (by kernel_rfl) ?_ _
      case' a36_12 =>
        go_simp
        have X : Hid (Arr (wc1.alloc (.cells #[.int .i64 0, .int .i64 0, .int .i64 0, .int .i64 0, .pointer none, .int .i64 0, .pointer none] FT)) wc1.heap.size FT [.int .i64 0, .int .i64 0, .int .i64 0, .int .i64 0, .pointer none, .int .i64 0, .pointer none]) := ⟨heap_alloc_at _ _⟩
        have hbn : Below wc1.heap.size wc1 (wc1.alloc (.cells #[.int .i64 0, .int .i64 0, .int .i64 0, .int .i64 0, .pointer none, .int .i64 0, .pointer none] FT)) := bl_alloc (Below.refl _ _) _
        have hSn := bl_on hS hbn
        have nXY : ¬ pY = wc1.heap.size := by have := Y.out.lt; omega
        have Y := hid (Y.out.stays hbn)
        generalize hwn : wc1.alloc (.cells #[.int .i64 0, .int .i64 0, .int .i64 0, .int .i64 0, .pointer none, .int .i64 0, .pointer none] FT) = wc2 at X hSn Y ⊢
        have qX : w.heap.size ≤ wc1.heap.size := hS.size
        generalize hpX : wc1.heap.size = pX at X qX nXY ⊢
        clear hbn hwn hpX
        refine hK.out _ _ (hSn) (fun hSn => ?_)
        clear hK K hS
        have hS := hSn
        clear hSn
        try simp only [Act.put, List.setIfInBounds_toArray, List.set_cons_zero, List.set_cons_succ, List.getElem_toArray, List.getElem_cons_succ, List.getElem_cons_zero]
        refine wpAnyH_ready (rs := [5]) (by kernel_rfl) (by simp) (AllReadyH.cons rfl (fun K hK => ?a44_5) AllReadyH.nil)
        case' a44_5 =>
          go_simp
          refine (h1.out wc2 hS).mono ?_
          rintro e wc3 ⟨rfl, hb⟩
          have Y := hid (Y.out.stays hb)
          have X := hid (X.out.stays hb)
          refine hK.out _ _ (bl_on hS hb) (fun hSn => ?_)
          clear hK K hS
          have hS := hSn
          clear hSn
          try simp only [Act.put, List.setIfInBounds_toArray, List.set_cons_zero, List.set_cons_succ, List.getElem_toArray, List.getElem_cons_succ, List.getElem_cons_zero]
          clear hb
          refine wpAnyH_ready (rs := [11]) (by kernel_rfl) (by simp) (AllReadyH.cons rfl (fun K hK => ?a45_11) AllReadyH.nil)
          case' a45_11 =>
            go_simp
            refine (h0.out wc3 hS).mono ?_
            rintro e wc4 ⟨rfl, hb⟩
            have Y := hid (Y.out.stays hb)
            have X := hid (X.out.stays hb)
            refine hK.out _ _ (bl_on hS hb) (fun hSn => ?_)
            clear hK K hS
            have hS := hSn
            clear hSn
            try simp only [Act.put, List.setIfInBounds_toArray, List.set_cons_zero, List.set_cons_succ, List.getElem_toArray, List.getElem_cons_succ, List.getElem_cons_zero]
            clear hb
            refine wpAnyH_ready (rs := [14]) (by kernel_rfl) (by simp) (AllReadyH.cons rfl (fun K hK => ?a46_14) AllReadyH.nil)
            case' a46_14 =>
              go_simp
              have cc := X.out.cell
              have cf := X.out.frozen
              go_simp
              have X := hid (((((((X.out.set 0 (.int .i64 1)).set 1 (.int .i64 0)).set 2 (.int .i64 1)).set 3 (.int .i64 1)).set 4 (.pointer none)).set 5 (.int .i64 1)).set 6 (.pointer none))
              have Y := hid (((((((Y.out.other (p := ⟨pX, 0, none⟩) (by show ¬ pY = pX; omega) (.int .i64 1)).other (p := ⟨pX, 1, none⟩) (by show ¬ pY = pX; omega) (.int .i64 0)).other (p := ⟨pX, 2, none⟩) (by show ¬ pY = pX; omega) (.int .i64 1)).other (p := ⟨pX, 3, none⟩) (by show ¬ pY = pX; omega) (.int .i64 1)).other (p := ⟨pX, 4, none⟩) (by show ¬ pY = pX; omega) (.pointer none)).other (p := ⟨pX, 5, none⟩) (by show ¬ pY = pX; omega) (.int .i64 1)).other (p := ⟨pX, 6, none⟩) (by show ¬ pY = pX; omega) (.pointer none))
              simp only [List.set_cons_zero, List.set_cons_succ] at X
              have hSn : Below w.heap.size w (((((((wc4.setCell ⟨pX, 0, none⟩ (.int .i64 1)).setCell ⟨pX, 1, none⟩ (.int .i64 0)).setCell ⟨pX, 2, none⟩ (.int .i64 1)).setCell ⟨pX, 3, none⟩ (.int .i64 1)).setCell ⟨pX, 4, none⟩ (.pointer none)).setCell ⟨pX, 5, none⟩ (.int .i64 1)).setCell ⟨pX, 6, none⟩ (.pointer none)) := (bl_put (bl_put (bl_put (bl_put (bl_put (bl_put (bl_put hS (p := ⟨pX, 0, none⟩) (.int .i64 1) qX) (p := ⟨pX, 1, none⟩) (.int .i64 0) qX) (p := ⟨pX, 2, none⟩) (.int .i64 1) qX) (p := ⟨pX, 3, none⟩) (.int .i64 1) qX) (p := ⟨pX, 4, none⟩) (.pointer none) qX) (p := ⟨pX, 5, none⟩) (.int .i64 1) qX) (p := ⟨pX, 6, none⟩) (.pointer none) qX)
              generalize (((((((wc4.setCell ⟨pX, 0, none⟩ (.int .i64 1)).setCell ⟨pX, 1, none⟩ (.int .i64 0)).setCell ⟨pX, 2, none⟩ (.int .i64 1)).setCell ⟨pX, 3, none⟩ (.int .i64 1)).setCell ⟨pX, 4, none⟩ (.pointer none)).setCell ⟨pX, 5, none⟩ (.int .i64 1)).setCell ⟨pX, 6, none⟩ (.pointer none)) = wc5 at X hSn Y ⊢
              clear cc cf
              refine hK.out _ _ (hSn) (fun hSn => ?_)
              clear hK K hS
              have hS := hSn
              clear hSn
              try simp only [Act.put, List.setIfInBounds_toArray, List.set_cons_zero, List.set_cons_succ, List.getElem_toArray, List.getElem_cons_succ, List.getElem_cons_zero]
              refine wpAnyH_ready (rs := [15]) (by kernel_rfl) (by simp) (AllReadyH.cons rfl (fun K hK => ?a47_15) AllReadyH.nil)
              case' a47_15 =>
                go_simp
                have cc := Y.out.cell
                have cf := Y.out.frozen
                go_simp
                have Y := hid (((((((Y.out.set 0 (.int .i64 0)).set 1 (.int .i64 0)).set 2 (.int .i64 0)).set 3 (.int .i64 0)).set 4 (.pointer none)).set 5 (.int .i64 1)).set 6 (.pointer none))
                have X := hid (((((((X.out.other (p := ⟨pY, 0, none⟩) (by show ¬ pX = pY; omega) (.int .i64 0)).other (p := ⟨pY, 1, none⟩) (by show ¬ pX = pY; omega) (.int .i64 0)).other (p := ⟨pY, 2, none⟩) (by show ¬ pX = pY; omega) (.int .i64 0)).other (p := ⟨pY, 3, none⟩) (by show ¬ pX = pY; omega) (.int .i64 0)).other (p := ⟨pY, 4, none⟩) (by show ¬ pX = pY; omega) (.pointer none)).other (p := ⟨pY, 5, none⟩) (by show ¬ pX = pY; omega) (.int .i64 1)).other (p := ⟨pY, 6, none⟩) (by show ¬ pX = pY; omega) (.pointer none))
                simp only [List.set_cons_zero, List.set_cons_succ] at Y
                have hSn : Below w.heap.size w (((((((wc5.setCell ⟨pY, 0, none⟩ (.int .i64 0)).setCell ⟨pY, 1, none⟩ (.int .i64 0)).setCell ⟨pY, 2, none⟩ (.int .i64 0)).setCell ⟨pY, 3, none⟩ (.int .i64 0)).setCell ⟨pY, 4, none⟩ (.pointer none)).setCell ⟨pY, 5, none⟩ (.int .i64 1)).setCell ⟨pY, 6, none⟩ (.pointer none)) := (bl_put (bl_put (bl_put (bl_put (bl_put (bl_put (bl_put hS (p := ⟨pY, 0, none⟩) (.int .i64 0) qY) (p := ⟨pY, 1, none⟩) (.int .i64 0) qY) (p := ⟨pY, 2, none⟩) (.int .i64 0) qY) (p := ⟨pY, 3, none⟩) (.int .i64 0) qY) (p := ⟨pY, 4, none⟩) (.pointer none) qY) (p := ⟨pY, 5, none⟩) (.int .i64 1) qY) (p := ⟨pY, 6, none⟩) (.pointer none) qY)
                generalize (((((((wc5.setCell ⟨pY, 0, none⟩ (.int .i64 0)).setCell ⟨pY, 1, none⟩ (.int .i64 0)).setCell ⟨pY, 2, none⟩ (.int .i64 0)).setCell ⟨pY, 3, none⟩ (.int .i64 0)).setCell ⟨pY, 4, none⟩ (.pointer none)).setCell ⟨pY, 5, none⟩ (.int .i64 1)).setCell ⟨pY, 6, none⟩ (.pointer none)) = wc6 at Y hSn X ⊢
                clear cc cf
                refine hK.out _ _ (hSn) (fun hSn => ?_)
                clear hK K hS
                have hS := hSn
                clear hSn
                try simp only [Act.put, List.setIfInBounds_toArray, List.set_cons_zero, List.set_cons_succ, List.getElem_toArray, List.getElem_cons_succ, List.getElem_cons_zero]
                refine wpAnyH_done (by kernel_rfl) ?_ _

    all_goals (
      go_wp2_with fail
      go_meet
      exact ⟨pX, pY, rfl, rfl, by omega, ⟨by omega, by omega⟩, X, Y, hS⟩)
  case rest =>
    obtain ⟨pX, pY, rfl, rfl, hXY, hge, X, Y, hb⟩ := hcut
    have hJX : ¬ J = pX := by have := HH.out.jn.lt; have := hge.out.1; omega
    clear h1 h0 qJ
    have x0 := X.out.cell
    have x1 := X.out.frozen
    have y0 := Y.out.cell
    go_upto_region 6 with fail
    have X6 := hid (X.out.set 1 (.int .i64 1))
    have Y6 := hid (Y.out.other (p := ⟨pX, 1, none⟩) (show ¬ pY = pX by omega) (.int .i64 1))
    have B6 := hid (hb.out.setCell (p := ⟨pX, 1, none⟩) hge.out.1 (.int .i64 1))
    clear X Y hb x0 x1 y0
    simp only [List.set_cons_zero, List.set_cons_succ] at X6
    generalize wc.setCell ⟨pX, 1, none⟩ (.int .i64 1) = w6 at X6 Y6 B6 ⊢
    have x6 := X6.out.cell
    have xf := X6.out.frozen
    have y6 := Y6.out.cell
    go_region
    have X7 := hid (((X6.out.set 4 (.pointer none)).set 5 (.int .i64 1)).stays (Below.refl _ _).drew)
    have Y7 := hid (((Y6.out.other (p := ⟨pX, 4, none⟩) (show ¬ pY = pX by omega) (.pointer none)).other (p := ⟨pX, 5, none⟩) (show ¬ pY = pX by omega) (.int .i64 1)).stays (Below.refl _ _).drew)
    have B7 := hid ((B6.out.setCell (p := ⟨pX, 4, none⟩) hge.out.1 (.pointer none)).setCell (p := ⟨pX, 5, none⟩) hge.out.1 (.int .i64 1)).drew
    simp only [List.set_cons_zero, List.set_cons_succ] at X7
    clear X6 Y6 B6 x6 xf y6
    generalize ((w6.setCell ⟨pX, 4, none⟩ (.pointer none)).setCell ⟨pX, 5, none⟩ (.int .i64 1)).drew = w7 at X7 Y7 B7 ⊢
    have x7 := X7.out.cell
    have xf := X7.out.frozen
    have y7 := Y7.out.cell
    go_upto_region 7 with fail
    go_region
    have X8 := hid (((X7.out.set 2 (.int .i64 (min 1 0))).set 3 (.int .i64 (max 1 0))).stays (Below.refl _ _).drew)
    have Y8 := hid (((Y7.out.other (p := ⟨pX, 2, none⟩) (show ¬ pY = pX by omega) (.int .i64 (min 1 0))).other (p := ⟨pX, 3, none⟩) (show ¬ pY = pX by omega) (.int .i64 (max 1 0))).stays (Below.refl _ _).drew)
    have B8 := hid ((B7.out.setCell (p := ⟨pX, 2, none⟩) hge.out.1 (.int .i64 (min 1 0))).setCell (p := ⟨pX, 3, none⟩) hge.out.1 (.int .i64 (max 1 0))).drew
    simp only [List.set_cons_zero, List.set_cons_succ] at X8
    clear X7 Y7 B7 x7 xf y7
    generalize ((w7.setCell ⟨pX, 2, none⟩ (.int .i64 (min 1 0))).setCell ⟨pX, 3, none⟩ (.int .i64 (max 1 0))).drew = w8 at X8 Y8 B8 ⊢
    have X9 := hid (X8.out.set 6 (.pointer none))
    have B9 := hid (B8.out.setCell (p := ⟨pX, 6, none⟩) hge.out.1 (.pointer none))
    simp only [List.set_cons_zero, List.set_cons_succ] at X9
    have x8 := X8.out.cell
    have xf := X8.out.frozen
    have y8 := Y8.out.cell
    have hbo : Hid (Calls Try.prog 104 #[.pointer none, .pointer none] w8 fun e w' => e = .returned (.pointer none) ∧ w' = w8) := both_nil w8
    have hX9 := X9.out.cell
    have hs1 : Hid (∀ wz, w8.setCell ⟨pX, 6, none⟩ (.pointer none) = wz → Calls Try.prog 84 #[.pointer (some ⟨J, 0, none⟩), .int .i64 1, .agg #[.int .i64 1, .int .i64 1, .int .i64 (min 1 0), .int .i64 (max 1 0), .pointer none, .int .i64 1, .pointer none]] wz fun e w' => e = .returned (.tuple #[]) ∧ (∃ cv' q1, Jn w' J S g cap mv none (some ⟨q1, 0, none⟩) more cv' 1 ∧ w.heap.size ≤ q1 ∧ (∀ b, cv'.ownBlock = some b → q1 < b) ∧ Arr w' q1 FT [.int .i64 1, .int .i64 1, .int .i64 (min 1 0), .int .i64 (max 1 0), .pointer none, .int .i64 1, .pointer none]) ∧ Fr J g (.slice none 0 0) w w') := by
      intro wz hwz
      subst hwz
      refine (set_any _ J S g cap mv none none more _ 0 (HH.out.stays B9.out) (by omega) 1 (by decide) 1 1 _ _ 1 none none).mono ?_
      rintro e w' ⟨rfl, ⟨cv', hj, hcv⟩, ha, hf⟩
      refine ⟨rfl, ⟨cv', _, hj, B9.out.size, fun b hb => ?_, ha⟩, ?_⟩
      · rcases hcv with h1 | ⟨r, h1, h2⟩
        · rw [h1] at hb; cases hb
        · rw [h1] at hb; injection hb with hb; omega
      · exact ⟨hf.os.trans B9.out.os, hf.tape.trans B9.out.tape, hf.output.trans B9.out.output, Nat.le_trans B9.out.size hf.size, fun b hb h1 h2 h3 => (hf.block b (Nat.lt_of_lt_of_le hb B9.out.size) h1 h2 h3).trans (B9.out.block b hb)⟩
    have hs2 : Hid (∀ (wz : World) (cv : Value) (q1 : Nat), Jn wz J S g cap mv none (some ⟨q1, 0, none⟩) more cv 1 → Calls Try.prog 84 #[.pointer (some ⟨J, 0, none⟩), .int .i64 0, .agg #[.int .i64 1, .int .i64 0, .int .i64 0, .int .i64 0, .pointer none, .int .i64 0, .pointer none]] wz fun e w' => e = .returned (.tuple #[]) ∧ (∃ cv' q0, Jn w' J S g cap mv (some ⟨q0, 0, none⟩) (some ⟨q1, 0, none⟩) more cv' 2 ∧ wz.heap.size ≤ q0 ∧ Arr w' q0 FT [.int .i64 1, .int .i64 0, .int .i64 0, .int .i64 0, .pointer none, .int .i64 0, .pointer none]) ∧ Fr J g cv wz w') := by
      intro wz cv q1 hj
      refine (set_any _ J S g cap mv none (some ⟨q1, 0, none⟩) more _ 1 hj (by omega) 0 (by decide) 1 0 0 0 0 none none).mono ?_
      rintro e w' ⟨rfl, ⟨cv', hj, hcv⟩, ha, hf⟩
      exact ⟨rfl, ⟨cv', _, hj, Nat.le_refl _, ha⟩, hf⟩
    clear X8 Y8 B8 X9 B9
    go_wp2_with (first
      | (go_at_call 104; refine hbo.out.mono ?_; rintro e w9 ⟨rfl, hw9⟩; rw [hw9]; clear hw9 w9 hbo)
      | (go_at_call 84; refine (hs1.out _ rfl).mono ?_; rintro e w10 ⟨rfl, ⟨cv1, q1, j1, k1, r1, a1⟩, f1⟩; have J1 := hid j1; have A1 := hid a1; have F1 := hid f1; have R1 := hid r1; have K1 := hid k1; clear hs1 j1 k1 r1 a1 f1)
      | (go_at_call 84; refine (hs2.out _ _ _ J1.out).mono ?_; rintro e w11 ⟨rfl, ⟨cv2, q0, j2, k2, a2⟩, f2⟩; have J2 := hid j2; have A2 := hid a2; have F2 := hid f2; have K2 := hid k2; clear hs2 j2 k2 a2 f2))
    first | refine bodyPost_end (results_none rfl _ _ _) rfl ?_ | refine bodyPost_ret (results_none rfl _ _ _) rfl ?_
    have hJ := HH.out.jn.lt
    have hgj := HH.out.gj
    have hq := K1.out
    have hz := F1.out.size
    have hqw : q1 < w10.heap.size := A1.out.lt
    refine ⟨rfl, ⟨q0, q1, cv2, J2.out, F2.out.arr A1.out (by omega) (by omega) (fun e => by have := R1.out q1 e.symm; omega), A2.out, by have := K2.out; omega, hq⟩, ?_⟩
    exact ⟨F2.out.os.trans F1.out.os, F2.out.tape.trans F1.out.tape, F2.out.output.trans F1.out.output, Nat.le_trans F1.out.size F2.out.size, fun b hb h1 h2 h3 => (F2.out.block b (by omega) h1 h2 (fun e => by have := R1.out b e.symm; omega)).trans (F1.out.block b hb h1 h2 h3)⟩
end Go.Proofs.Ytknlpeloaapaiaa
