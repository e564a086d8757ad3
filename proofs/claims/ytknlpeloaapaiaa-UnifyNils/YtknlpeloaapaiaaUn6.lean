/- join of two open metas. -/
import Derived.Test.YtknlpeloaapaiaaUn3
namespace Go.Proofs.Ytknlpeloaapaiaa
open Go.RowKit
set_option linter.unusedVariables false
set_option linter.unusedSimpArgs false

theorem Fr.of_below {J g : Nat} {cv : Value} {w w1 w' : World} (hb : Below w.heap.size w w1) (hf : Fr J g cv w1 w') : Fr J g cv w w' :=
  ⟨hf.os.trans hb.os, hf.tape.trans hb.tape, hf.output.trans hb.output, Nat.le_trans hb.size hf.size, fun b hl h1 h2 h3 => (hf.block b (Nat.lt_of_lt_of_le hl hb.size) h1 h2 h3).trans (hb.block b hl)⟩
theorem Fr.then_below {J g : Nat} {cv : Value} {w w1 w' : World} (hf : Fr J g cv w w1) (hb : Below w1.heap.size w1 w') : Fr J g cv w w' :=
  ⟨hb.os.trans hf.os, hb.tape.trans hf.tape, hb.output.trans hf.output, Nat.le_trans hf.size hb.size, fun b hl h1 h2 h3 => (hb.block b (Nat.lt_of_lt_of_le hl hf.size)).trans (hf.block b hl h1 h2 h3)⟩
theorem fld4 (v0 v1 v2 v3 v4 v5 v6 : Value) (w : World) : (Instr.field FT (.agg #[v0, v1, v2, v3, v4, v5, v6]) 4).run Try.prog w = .ok v4 w := by kernel_rfl
theorem fld5 (v0 v1 v2 v3 v4 v5 v6 : Value) (w : World) : (Instr.field FT (.agg #[v0, v1, v2, v3, v4, v5, v6]) 5).run Try.prog w = .ok v5 w := by kernel_rfl
set_option maxHeartbeats 4000000 in
set_option maxRecDepth 100000 in
theorem join_open (w : World) (J S g cap : Nat) (mv : Value) (more : List Value) (h : Jn w J S g cap mv none none more (.slice none 0 0) 0) : Calls Try.prog 58 #[.pointer (some ⟨J, 0, none⟩), .int .i64 0, .int .i64 1] w fun e w' => e = .returned (.bool true) ∧ (∃ (q0 q1 : Nat) (cv' : Value), Jn w' J S g cap mv (some ⟨q0, 0, none⟩) (some ⟨q1, 0, none⟩) more cv' 2 ∧ Arr w' q1 FT [.int .i64 1, .int .i64 1, .int .i64 0, .int .i64 1, .pointer none, .int .i64 1, .pointer none] ∧ Arr w' q0 FT [.int .i64 1, .int .i64 0, .int .i64 0, .int .i64 0, .pointer none, .int .i64 0, .pointer none] ∧ w.heap.size ≤ q0 ∧ w.heap.size ≤ q1) ∧ Fr J g (.slice none 0 0) w w' := by
  have h1 : Hid (∀ wz, Below w.heap.size w wz → Calls Try.prog 54 #[.pointer (some ⟨S, 0, none⟩), .int .i64 1] wz fun e w' => e = .returned (.agg #[.int .i64 1, .int .i64 0, .int .i64 1, .int .i64 1, .pointer none, .int .i64 1, .pointer none]) ∧ Below wz.heap.size wz w') := fun wz hz => at_nil wz S g cap mv none none more (h.sto.stays hz) 1 (by decide) rfl
  have h0 : Hid (∀ wz, Below w.heap.size w wz → Calls Try.prog 54 #[.pointer (some ⟨S, 0, none⟩), .int .i64 0] wz fun e w' => e = .returned (.agg #[.int .i64 0, .int .i64 0, .int .i64 0, .int .i64 0, .pointer none, .int .i64 1, .pointer none]) ∧ Below wz.heap.size wz w') := fun wz hz => at_nil wz S g cap mv none none more (h.sto.stays hz) 0 (by decide) rfl
  have qJ : Hid (∀ wz, Below w.heap.size w wz → wz.cell? ⟨J, 0, none⟩ = some (.pointer (some ⟨S, 0, none⟩))) := fun wz hz => (h.jn.stays hz).cell 0
  have HH := hid h
  have j0 := h.jn.cell
  have hfd := fld4
  clear h
  go_enter Try.func58, Try.ntmps58
  go_upto_region 5 with (go_at_call 54; refine (h0.out _ (Below.refl _ _)).mono ?_; rintro e w3 ⟨rfl, b3⟩; have B3 := hid b3; clear b3)
  go_cut [7, 8] from 7 to 33 (fun u7 u8 wx => ∃ pX pY : Nat, u7 = .pointer (some ⟨pX, 0, none⟩) ∧ u8 = .pointer (some ⟨pY, 0, none⟩) ∧ ¬ pX = pY ∧ Hid (w.heap.size ≤ pX ∧ w.heap.size ≤ pY) ∧ Hid (Arr wx pX FT [.int .i64 1, .int .i64 0, .int .i64 1, .int .i64 1, .pointer none, .int .i64 1, .pointer none]) ∧ Hid (Arr wx pY FT [.int .i64 0, .int .i64 0, .int .i64 0, .int .i64 0, .pointer none, .int .i64 1, .pointer none]) ∧ Hid (Below w.heap.size w wx))
  case first =>
    refine wp_region_held_drew (S := fun wz => Below w.heap.size w wz) (by kernel_rfl) (B3.out.drew) (fun hS => ?_)
    generalize w3.drew = wc0 at hS   ⊢
    refine wpAnyH_take (i := 0) (v := ?_) rfl (by kernel_rfl) (by kernel_rfl) (by kernel_rfl) (fun _ _ _ h => h) (Or.inl ⟨by rfl, ?_⟩) hS ?_
    rotate_left
    · intro wz hz; go_simp; try with_reducible rfl
    try simp only [Act.put, List.setIfInBounds_toArray, List.set_cons_zero, List.set_cons_succ, List.getElem_toArray, List.getElem_cons_succ, List.getElem_cons_zero]
    refine wpAnyH_take (i := 1) (v := ?_) rfl (by kernel_rfl) (by kernel_rfl) (by kernel_rfl) (fun _ _ _ h => h) (Or.inl ⟨by rfl, ?_⟩) hS ?_
    rotate_left
    · intro wz hz; go_simp; try with_reducible rfl
    try simp only [Act.put, List.setIfInBounds_toArray, List.set_cons_zero, List.set_cons_succ, List.getElem_toArray, List.getElem_cons_succ, List.getElem_cons_zero]
    refine wpAnyH_take (i := 2) (v := ?_) rfl (by kernel_rfl) (by kernel_rfl) (by kernel_rfl) (fun _ _ _ h => h) (Or.inl ⟨by rfl, ?_⟩) hS ?_
    rotate_left
    · intro wz hz; go_simp; try with_reducible rfl
    try simp only [Act.put, List.setIfInBounds_toArray, List.set_cons_zero, List.set_cons_succ, List.getElem_toArray, List.getElem_cons_succ, List.getElem_cons_zero]
    refine wpAnyH_take (i := 3) (v := ?_) rfl (by kernel_rfl) (by kernel_rfl) (by kernel_rfl) (fun _ _ _ h => h) (Or.inl ⟨by rfl, ?_⟩) hS ?_
    rotate_left
    · intro wz hz; have yy0 := qJ.out wz hz; go_simp; try with_reducible rfl
    try simp only [Act.put, List.setIfInBounds_toArray, List.set_cons_zero, List.set_cons_succ, List.getElem_toArray, List.getElem_cons_succ, List.getElem_cons_zero]
    refine wpAnyH_take (i := 4) (v := ?_) rfl (by kernel_rfl) (by kernel_rfl) (by kernel_rfl) (fun _ _ _ h => h) (Or.inl ⟨by rfl, ?_⟩) hS ?_
    rotate_left
    · intro wz hz; go_simp; try with_reducible rfl
    try simp only [Act.put, List.setIfInBounds_toArray, List.set_cons_zero, List.set_cons_succ, List.getElem_toArray, List.getElem_cons_succ, List.getElem_cons_zero]
    refine wpAnyH_take (i := 6) (v := ?_) rfl (by kernel_rfl) (by kernel_rfl) (by kernel_rfl) (fun _ _ _ h => h) (Or.inl ⟨by rfl, ?_⟩) hS ?_
    rotate_left
    · intro wz hz; go_simp; try with_reducible rfl
    try simp only [Act.put, List.setIfInBounds_toArray, List.set_cons_zero, List.set_cons_succ, List.getElem_toArray, List.getElem_cons_succ, List.getElem_cons_zero]
    refine wpAnyH_take (i := 7) (v := ?_) rfl (by kernel_rfl) (by kernel_rfl) (by kernel_rfl) (fun _ _ _ h => h) (Or.inl ⟨by rfl, ?_⟩) hS ?_
    rotate_left
    · intro wz hz; go_simp; try with_reducible rfl
    try simp only [Act.put, List.setIfInBounds_toArray, List.set_cons_zero, List.set_cons_succ, List.getElem_toArray, List.getElem_cons_succ, List.getElem_cons_zero]
    refine wpAnyH_take (i := 8) (v := ?_) rfl (by kernel_rfl) (by kernel_rfl) (by kernel_rfl) (fun _ _ _ h => h) (Or.inl ⟨by rfl, ?_⟩) hS ?_
    rotate_left
    · intro wz hz; go_simp; try with_reducible rfl
    try simp only [Act.put, List.setIfInBounds_toArray, List.set_cons_zero, List.set_cons_succ, List.getElem_toArray, List.getElem_cons_succ, List.getElem_cons_zero]
    refine wpAnyH_take (i := 9) (v := ?_) rfl (by kernel_rfl) (by kernel_rfl) (by kernel_rfl) (fun _ _ _ h => h) (Or.inl ⟨by rfl, ?_⟩) hS ?_
    rotate_left
    · intro wz hz; have yy0 := qJ.out wz hz; go_simp; try with_reducible rfl
    try simp only [Act.put, List.setIfInBounds_toArray, List.set_cons_zero, List.set_cons_succ, List.getElem_toArray, List.getElem_cons_succ, List.getElem_cons_zero]
    refine wpAnyH_take (i := 10) (v := ?_) rfl (by kernel_rfl) (by kernel_rfl) (by kernel_rfl) (fun _ _ _ h => h) (Or.inl ⟨by rfl, ?_⟩) hS ?_
    rotate_left
    · intro wz hz; go_simp; try with_reducible rfl
    try simp only [Act.put, List.setIfInBounds_toArray, List.set_cons_zero, List.set_cons_succ, List.getElem_toArray, List.getElem_cons_succ, List.getElem_cons_zero]
    refine wpAnyH_ready (rs := [5, 12, 13]) (by kernel_rfl) (by simp) (AllReadyH.cons rfl (fun K hK => ?a1_5) (AllReadyH.cons rfl (fun K hK => ?a1_12) (AllReadyH.cons rfl (fun K hK => ?a1_13) AllReadyH.nil)))
    case' a1_5 =>
      go_simp
      refine (h1.out wc0 hS).mono ?_
      rintro e wc1 ⟨rfl, hb⟩
      refine hK.out _ _ (bl_on hS hb) (fun hSn => ?_)
      clear hK K hS
      have hS := hSn
      clear hSn
      try simp only [Act.put, List.setIfInBounds_toArray, List.set_cons_zero, List.set_cons_succ, List.getElem_toArray, List.getElem_cons_succ, List.getElem_cons_zero]
      clear hb
      refine wpAnyH_ready (rs := [11, 12, 13]) (by kernel_rfl) (by simp) (AllReadyH.cons rfl (fun K hK => ?a2_11) (AllReadyH.cons rfl (fun K hK => ?a2_12) (AllReadyH.cons rfl (fun K hK => ?a2_13) AllReadyH.nil)))
      case' a2_11 =>
        go_simp
        refine (h0.out wc1 hS).mono ?_
        rintro e wc2 ⟨rfl, hb⟩
        refine hK.out _ _ (bl_on hS hb) (fun hSn => ?_)
        clear hK K hS
        have hS := hSn
        clear hSn
        try simp only [Act.put, List.setIfInBounds_toArray, List.set_cons_zero, List.set_cons_succ, List.getElem_toArray, List.getElem_cons_succ, List.getElem_cons_zero]
        clear hb
        refine wpAnyH_ready (rs := [12, 13]) (by kernel_rfl) (by simp) (AllReadyH.cons rfl (fun K hK => ?a3_12) (AllReadyH.cons rfl (fun K hK => ?a3_13) AllReadyH.nil))
        case' a3_12 =>
          go_simp
          have X : Hid (Arr (wc2.alloc (.cells #[.int .i64 0, .int .i64 0, .int .i64 0, .int .i64 0, .pointer none, .int .i64 0, .pointer none] FT)) wc2.heap.size FT [.int .i64 0, .int .i64 0, .int .i64 0, .int .i64 0, .pointer none, .int .i64 0, .pointer none]) := ⟨heap_alloc_at _ _⟩
          have hbn : Below wc2.heap.size wc2 (wc2.alloc (.cells #[.int .i64 0, .int .i64 0, .int .i64 0, .int .i64 0, .pointer none, .int .i64 0, .pointer none] FT)) := bl_alloc (Below.refl _ _) _
          have hSn := bl_on hS hbn
          generalize hwn : wc2.alloc (.cells #[.int .i64 0, .int .i64 0, .int .i64 0, .int .i64 0, .pointer none, .int .i64 0, .pointer none] FT) = wc3 at X hSn  ⊢
          have qX : w.heap.size ≤ wc2.heap.size := hS.size
          generalize hpX : wc2.heap.size = pX at X qX  ⊢
          clear hbn hwn hpX
          refine hK.out _ _ (hSn) (fun hSn => ?_)
          clear hK K hS
          have hS := hSn
          clear hSn
          try simp only [Act.put, List.setIfInBounds_toArray, List.set_cons_zero, List.set_cons_succ, List.getElem_toArray, List.getElem_cons_succ, List.getElem_cons_zero]
          refine wpAnyH_ready (rs := [13]) (by kernel_rfl) (by simp) (AllReadyH.cons rfl (fun K hK => ?a4_13) AllReadyH.nil)
          case' a4_13 =>
            go_simp
            have Y : Hid (Arr (wc3.alloc (.cells #[.int .i64 0, .int .i64 0, .int .i64 0, .int .i64 0, .pointer none, .int .i64 0, .pointer none] FT)) wc3.heap.size FT [.int .i64 0, .int .i64 0, .int .i64 0, .int .i64 0, .pointer none, .int .i64 0, .pointer none]) := ⟨heap_alloc_at _ _⟩
            have hbn : Below wc3.heap.size wc3 (wc3.alloc (.cells #[.int .i64 0, .int .i64 0, .int .i64 0, .int .i64 0, .pointer none, .int .i64 0, .pointer none] FT)) := bl_alloc (Below.refl _ _) _
            have hSn := bl_on hS hbn
            have nYX : ¬ pX = wc3.heap.size := by have := X.out.lt; omega
            have X := hid (X.out.stays hbn)
            generalize hwn : wc3.alloc (.cells #[.int .i64 0, .int .i64 0, .int .i64 0, .int .i64 0, .pointer none, .int .i64 0, .pointer none] FT) = wc4 at Y hSn X ⊢
            have qY : w.heap.size ≤ wc3.heap.size := hS.size
            generalize hpY : wc3.heap.size = pY at Y qY nYX ⊢
            clear hbn hwn hpY
            refine hK.out _ _ (hSn) (fun hSn => ?_)
            clear hK K hS
            have hS := hSn
            clear hSn
            try simp only [Act.put, List.setIfInBounds_toArray, List.set_cons_zero, List.set_cons_succ, List.getElem_toArray, List.getElem_cons_succ, List.getElem_cons_zero]
            refine wpAnyH_ready (rs := [14]) (by kernel_rfl) (by simp) (AllReadyH.cons rfl (fun K hK => ?a5_14) AllReadyH.nil)
            case' a5_14 =>
              go_simp
              have cc := X.out.cell
              have cf := X.out.frozen
              go_simp
              have X := hid (((((((X.out.set 0 (.int .i64 1)).set 1 (.int .i64 0)).set 2 (.int .i64 1)).set 3 (.int .i64 1)).set 4 (.pointer none)).set 5 (.int .i64 1)).set 6 (.pointer none))
              have Y := hid (((((((Y.out.other (p := ⟨pX, 0, none⟩) (by show ¬ pY = pX; omega) (.int .i64 1)).other (p := ⟨pX, 1, none⟩) (by show ¬ pY = pX; omega) (.int .i64 0)).other (p := ⟨pX, 2, none⟩) (by show ¬ pY = pX; omega) (.int .i64 1)).other (p := ⟨pX, 3, none⟩) (by show ¬ pY = pX; omega) (.int .i64 1)).other (p := ⟨pX, 4, none⟩) (by show ¬ pY = pX; omega) (.pointer none)).other (p := ⟨pX, 5, none⟩) (by show ¬ pY = pX; omega) (.int .i64 1)).other (p := ⟨pX, 6, none⟩) (by show ¬ pY = pX; omega) (.pointer none))
              simp only [List.set_cons_zero, List.set_cons_succ] at X
              have hSn : Below w.heap.size w (((((((wc4.setCell ⟨pX, 0, none⟩ (.int .i64 1)).setCell ⟨pX, 1, none⟩ (.int .i64 0)).setCell ⟨pX, 2, none⟩ (.int .i64 1)).setCell ⟨pX, 3, none⟩ (.int .i64 1)).setCell ⟨pX, 4, none⟩ (.pointer none)).setCell ⟨pX, 5, none⟩ (.int .i64 1)).setCell ⟨pX, 6, none⟩ (.pointer none)) := (bl_put (bl_put (bl_put (bl_put (bl_put (bl_put (bl_put hS (p := ⟨pX, 0, none⟩) (.int .i64 1) qX) (p := ⟨pX, 1, none⟩) (.int .i64 0) qX) (p := ⟨pX, 2, none⟩) (.int .i64 1) qX) (p := ⟨pX, 3, none⟩) (.int .i64 1) qX) (p := ⟨pX, 4, none⟩) (.pointer none) qX) (p := ⟨pX, 5, none⟩) (.int .i64 1) qX) (p := ⟨pX, 6, none⟩) (.pointer none) qX)
              generalize (((((((wc4.setCell ⟨pX, 0, none⟩ (.int .i64 1)).setCell ⟨pX, 1, none⟩ (.int .i64 0)).setCell ⟨pX, 2, none⟩ (.int .i64 1)).setCell ⟨pX, 3, none⟩ (.int .i64 1)).setCell ⟨pX, 4, none⟩ (.pointer none)).setCell ⟨pX, 5, none⟩ (.int .i64 1)).setCell ⟨pX, 6, none⟩ (.pointer none)) = wc5 at X hSn Y ⊢
              clear cc cf
              refine hK.out _ _ (hSn) (fun hSn => ?_)
              clear hK K hS
              have hS := hSn
              clear hSn
              try simp only [Act.put, List.setIfInBounds_toArray, List.set_cons_zero, List.set_cons_succ, List.getElem_toArray, List.getElem_cons_succ, List.getElem_cons_zero]
              refine wpAnyH_ready (rs := [15]) (by kernel_rfl) (by simp) (AllReadyH.cons rfl (fun K hK => ?a6_15) AllReadyH.nil)
              case' a6_15 =>
                go_simp
                have cc := Y.out.cell
                have cf := Y.out.frozen
                go_simp
                have Y := hid (((((((Y.out.set 0 (.int .i64 0)).set 1 (.int .i64 0)).set 2 (.int .i64 0)).set 3 (.int .i64 0)).set 4 (.pointer none)).set 5 (.int .i64 1)).set 6 (.pointer none))
                have X := hid (((((((X.out.other (p := ⟨pY, 0, none⟩) (by show ¬ pX = pY; omega) (.int .i64 0)).other (p := ⟨pY, 1, none⟩) (by show ¬ pX = pY; omega) (.int .i64 0)).other (p := ⟨pY, 2, none⟩) (by show ¬ pX = pY; omega) (.int .i64 0)).other (p := ⟨pY, 3, none⟩) (by show ¬ pX = pY; omega) (.int .i64 0)).other (p := ⟨pY, 4, none⟩) (by show ¬ pX = pY; omega) (.pointer none)).other (p := ⟨pY, 5, none⟩) (by show ¬ pX = pY; omega) (.int .i64 1)).other (p := ⟨pY, 6, none⟩) (by show ¬ pX = pY; omega) (.pointer none))
                simp only [List.set_cons_zero, List.set_cons_succ] at Y
                have hSn : Below w.heap.size w (((((((wc5.setCell ⟨pY, 0, none⟩ (.int .i64 0)).setCell ⟨pY, 1, none⟩ (.int .i64 0)).setCell ⟨pY, 2, none⟩ (.int .i64 0)).setCell ⟨pY, 3, none⟩ (.int .i64 0)).setCell ⟨pY, 4, none⟩ (.pointer none)).setCell ⟨pY, 5, none⟩ (.int .i64 1)).setCell ⟨pY, 6, none⟩ (.pointer none)) := (bl_put (bl_put (bl_put (bl_put (bl_put (bl_put (bl_put hS (p := ⟨pY, 0, none⟩) (.int .i64 0) qY) (p := ⟨pY, 1, none⟩) (.int .i64 0) qY) (p := ⟨pY, 2, none⟩) (.int .i64 0) qY) (p := ⟨pY, 3, none⟩) (.int .i64 0) qY) (p := ⟨pY, 4, none⟩) (.pointer none) qY) (p := ⟨pY, 5, none⟩) (.int .i64 1) qY) (p := ⟨pY, 6, none⟩) (.pointer none) qY)
                generalize (((((((wc5.setCell ⟨pY, 0, none⟩ (.int .i64 0)).setCell ⟨pY, 1, none⟩ (.int .i64 0)).setCell ⟨pY, 2, none⟩ (.int .i64 0)).setCell ⟨pY, 3, none⟩ (.int .i64 0)).setCell ⟨pY, 4, none⟩ (.pointer none)).setCell ⟨pY, 5, none⟩ (.int .i64 1)).setCell ⟨pY, 6, none⟩ (.pointer none)) = wc6 at Y hSn X ⊢
                clear cc cf
                refine hK.out _ _ (hSn) (fun hSn => ?_)
                clear hK K hS
                have hS := hSn
                clear hSn
                try simp only [Act.put, List.setIfInBounds_toArray, List.set_cons_zero, List.set_cons_succ, List.getElem_toArray, List.getElem_cons_succ, List.getElem_cons_zero]
                refine wpAnyH_done (by kernel_rfl) ?_ _
        case' a3_13 =>
          go_simp
          have Y : Hid (Arr (wc2.alloc (.cells #[.int .i64 0, .int .i64 0, .int .i64 0, .int .i64 0, .pointer none, .int .i64 0, .pointer none] FT)) wc2.heap.size FT [.int .i64 0, .int .i64 0, .int .i64 0, .int .i64 0, .pointer none, .int .i64 0, .pointer none]) := ⟨heap_alloc_at _ _⟩
          have hbn : Below wc2.heap.size wc2 (wc2.alloc (.cells #[.int .i64 0, .int .i64 0, .int .i64 0, .int .i64 0, .pointer none, .int .i64 0, .pointer none] FT)) := bl_alloc (Below.refl _ _) _
          have hSn := bl_on hS hbn
          generalize hwn : wc2.alloc (.cells #[.int .i64 0, .int .i64 0, .int .i64 0, .int .i64 0, .pointer none, .int .i64 0, .pointer none] FT) = wc3 at Y hSn  ⊢
          have qY : w.heap.size ≤ wc2.heap.size := hS.size
          generalize hpY : wc2.heap.size = pY at Y qY  ⊢
          clear hbn hwn hpY
          refine hK.out _ _ (hSn) (fun hSn => ?_)
          clear hK K hS
          have hS := hSn
          clear hSn
          try simp only [Act.put, List.setIfInBounds_toArray, List.set_cons_zero, List.set_cons_succ, List.getElem_toArray, List.getElem_cons_succ, List.getElem_cons_zero]
          refine wpAnyH_ready (rs := [12]) (by kernel_rfl) (by simp) (AllReadyH.cons rfl (fun K hK => ?a7_12) AllReadyH.nil)
          case' a7_12 =>
            go_simp
            have X : Hid (Arr (wc3.alloc (.cells #[.int .i64 0, .int .i64 0, .int .i64 0, .int .i64 0, .pointer none, .int .i64 0, .pointer none] FT)) wc3.heap.size FT [.int .i64 0, .int .i64 0, .int .i64 0, .int .i64 0, .pointer none, .int .i64 0, .pointer none]) := ⟨heap_alloc_at _ _⟩
            have hbn : Below wc3.heap.size wc3 (wc3.alloc (.cells #[.int .i64 0, .int .i64 0, .int .i64 0, .int .i64 0, .pointer none, .int .i64 0, .pointer none] FT)) := bl_alloc (Below.refl _ _) _
            have hSn := bl_on hS hbn
            have nXY : ¬ pY = wc3.heap.size := by have := Y.out.lt; omega
            have Y := hid (Y.out.stays hbn)
            generalize hwn : wc3.alloc (.cells #[.int .i64 0, .int .i64 0, .int .i64 0, .int .i64 0, .pointer none, .int .i64 0, .pointer none] FT) = wc4 at X hSn Y ⊢
            have qX : w.heap.size ≤ wc3.heap.size := hS.size
            generalize hpX : wc3.heap.size = pX at X qX nXY ⊢
            clear hbn hwn hpX
            refine hK.out _ _ (hSn) (fun hSn => ?_)
            clear hK K hS
            have hS := hSn
            clear hSn
            try simp only [Act.put, List.setIfInBounds_toArray, List.set_cons_zero, List.set_cons_succ, List.getElem_toArray, List.getElem_cons_succ, List.getElem_cons_zero]
            refine wpAnyH_ready (rs := [14]) (by kernel_rfl) (by simp) (AllReadyH.cons rfl (fun K hK => ?a8_14) AllReadyH.nil)
            case' a8_14 =>
              go_simp
              have cc := X.out.cell
              have cf := X.out.frozen
              go_simp
              have X := hid (((((((X.out.set 0 (.int .i64 1)).set 1 (.int .i64 0)).set 2 (.int .i64 1)).set 3 (.int .i64 1)).set 4 (.pointer none)).set 5 (.int .i64 1)).set 6 (.pointer none))
              have Y := hid (((((((Y.out.other (p := ⟨pX, 0, none⟩) (by show ¬ pY = pX; omega) (.int .i64 1)).other (p := ⟨pX, 1, none⟩) (by show ¬ pY = pX; omega) (.int .i64 0)).other (p := ⟨pX, 2, none⟩) (by show ¬ pY = pX; omega) (.int .i64 1)).other (p := ⟨pX, 3, none⟩) (by show ¬ pY = pX; omega) (.int .i64 1)).other (p := ⟨pX, 4, none⟩) (by show ¬ pY = pX; omega) (.pointer none)).other (p := ⟨pX, 5, none⟩) (by show ¬ pY = pX; omega) (.int .i64 1)).other (p := ⟨pX, 6, none⟩) (by show ¬ pY = pX; omega) (.pointer none))
              simp only [List.set_cons_zero, List.set_cons_succ] at X
              have hSn : Below w.heap.size w (((((((wc4.setCell ⟨pX, 0, none⟩ (.int .i64 1)).setCell ⟨pX, 1, none⟩ (.int .i64 0)).setCell ⟨pX, 2, none⟩ (.int .i64 1)).setCell ⟨pX, 3, none⟩ (.int .i64 1)).setCell ⟨pX, 4, none⟩ (.pointer none)).setCell ⟨pX, 5, none⟩ (.int .i64 1)).setCell ⟨pX, 6, none⟩ (.pointer none)) := (bl_put (bl_put (bl_put (bl_put (bl_put (bl_put (bl_put hS (p := ⟨pX, 0, none⟩) (.int .i64 1) qX) (p := ⟨pX, 1, none⟩) (.int .i64 0) qX) (p := ⟨pX, 2, none⟩) (.int .i64 1) qX) (p := ⟨pX, 3, none⟩) (.int .i64 1) qX) (p := ⟨pX, 4, none⟩) (.pointer none) qX) (p := ⟨pX, 5, none⟩) (.int .i64 1) qX) (p := ⟨pX, 6, none⟩) (.pointer none) qX)
              generalize (((((((wc4.setCell ⟨pX, 0, none⟩ (.int .i64 1)).setCell ⟨pX, 1, none⟩ (.int .i64 0)).setCell ⟨pX, 2, none⟩ (.int .i64 1)).setCell ⟨pX, 3, none⟩ (.int .i64 1)).setCell ⟨pX, 4, none⟩ (.pointer none)).setCell ⟨pX, 5, none⟩ (.int .i64 1)).setCell ⟨pX, 6, none⟩ (.pointer none)) = wc5 at X hSn Y ⊢
              clear cc cf
              refine hK.out _ _ (hSn) (fun hSn => ?_)
              clear hK K hS
              have hS := hSn
              clear hSn
              try simp only [Act.put, List.setIfInBounds_toArray, List.set_cons_zero, List.set_cons_succ, List.getElem_toArray, List.getElem_cons_succ, List.getElem_cons_zero]
              refine wpAnyH_ready (rs := [15]) (by kernel_rfl) (by simp) (AllReadyH.cons rfl (fun K hK => ?a9_15) AllReadyH.nil)
              case' a9_15 =>
                go_simp
                have cc := Y.out.cell
                have cf := Y.out.frozen
                go_simp
                have Y := hid (((((((Y.out.set 0 (.int .i64 0)).set 1 (.int .i64 0)).set 2 (.int .i64 0)).set 3 (.int .i64 0)).set 4 (.pointer none)).set 5 (.int .i64 1)).set 6 (.pointer none))
                have X := hid (((((((X.out.other (p := ⟨pY, 0, none⟩) (by show ¬ pX = pY; omega) (.int .i64 0)).other (p := ⟨pY, 1, none⟩) (by show ¬ pX = pY; omega) (.int .i64 0)).other (p := ⟨pY, 2, none⟩) (by show ¬ pX = pY; omega) (.int .i64 0)).other (p := ⟨pY, 3, none⟩) (by show ¬ pX = pY; omega) (.int .i64 0)).other (p := ⟨pY, 4, none⟩) (by show ¬ pX = pY; omega) (.pointer none)).other (p := ⟨pY, 5, none⟩) (by show ¬ pX = pY; omega) (.int .i64 1)).other (p := ⟨pY, 6, none⟩) (by show ¬ pX = pY; omega) (.pointer none))
                simp only [List.set_cons_zero, List.set_cons_succ] at Y
                have hSn : Below w.heap.size w (((((((wc5.setCell ⟨pY, 0, none⟩ (.int .i64 0)).setCell ⟨pY, 1, none⟩ (.int .i64 0)).setCell ⟨pY, 2, none⟩ (.int .i64 0)).setCell ⟨pY, 3, none⟩ (.int .i64 0)).setCell ⟨pY, 4, none⟩ (.pointer none)).setCell ⟨pY, 5, none⟩ (.int .i64 1)).setCell ⟨pY, 6, none⟩ (.pointer none)) := (bl_put (bl_put (bl_put (bl_put (bl_put (bl_put (bl_put hS (p := ⟨pY, 0, none⟩) (.int .i64 0) qY) (p := ⟨pY, 1, none⟩) (.int .i64 0) qY) (p := ⟨pY, 2, none⟩) (.int .i64 0) qY) (p := ⟨pY, 3, none⟩) (.int .i64 0) qY) (p := ⟨pY, 4, none⟩) (.pointer none) qY) (p := ⟨pY, 5, none⟩) (.int .i64 1) qY) (p := ⟨pY, 6, none⟩) (.pointer none) qY)
                generalize (((((((wc5.setCell ⟨pY, 0, none⟩ (.int .i64 0)).setCell ⟨pY, 1, none⟩ (.int .i64 0)).setCell ⟨pY, 2, none⟩ (.int .i64 0)).setCell ⟨pY, 3, none⟩ (.int .i64 0)).setCell ⟨pY, 4, none⟩ (.pointer none)).setCell ⟨pY, 5, none⟩ (.int .i64 1)).setCell ⟨pY, 6, none⟩ (.pointer none)) = wc6 at Y hSn X ⊢
                clear cc cf
                refine hK.out _ _ (hSn) (fun hSn => ?_)
                clear hK K hS
                have hS := hSn
                clear hSn
                try simp only [Act.put, List.setIfInBounds_toArray, List.set_cons_zero, List.set_cons_succ, List.getElem_toArray, List.getElem_cons_succ, List.getElem_cons_zero]
                refine wpAnyH_done (by kernel_rfl) ?_ _
      case' a2_12 =>
        go_simp
        have X : Hid (Arr (wc1.alloc (.cells #[.int .i64 0, .int .i64 0, .int .i64 0, .int .i64 0, .pointer none, .int .i64 0, .pointer none] FT)) wc1.heap.size FT [.int .i64 0, .int .i64 0, .int .i64 0, .int .i64 0, .pointer none, .int .i64 0, .pointer none]) := ⟨heap_alloc_at _ _⟩
        have hbn : Below wc1.heap.size wc1 (wc1.alloc (.cells #[.int .i64 0, .int .i64 0, .int .i64 0, .int .i64 0, .pointer none, .int .i64 0, .pointer none] FT)) := bl_alloc (Below.refl _ _) _
        have hSn := bl_on hS hbn
        generalize hwn : wc1.alloc (.cells #[.int .i64 0, .int .i64 0, .int .i64 0, .int .i64 0, .pointer none, .int .i64 0, .pointer none] FT) = wc2 at X hSn  ⊢
        have qX : w.heap.size ≤ wc1.heap.size := hS.size
        generalize hpX : wc1.heap.size = pX at X qX  ⊢
        clear hbn hwn hpX
        refine hK.out _ _ (hSn) (fun hSn => ?_)
        clear hK K hS
        have hS := hSn
        clear hSn
        try simp only [Act.put, List.setIfInBounds_toArray, List.set_cons_zero, List.set_cons_succ, List.getElem_toArray, List.getElem_cons_succ, List.getElem_cons_zero]
        refine wpAnyH_ready (rs := [11, 13]) (by kernel_rfl) (by simp) (AllReadyH.cons rfl (fun K hK => ?a10_11) (AllReadyH.cons rfl (fun K hK => ?a10_13) AllReadyH.nil))
        case' a10_11 =>
          go_simp
          refine (h0.out wc2 hS).mono ?_
          rintro e wc3 ⟨rfl, hb⟩
          have X := hid (X.out.stays hb)
          refine hK.out _ _ (bl_on hS hb) (fun hSn => ?_)
          clear hK K hS
          have hS := hSn
          clear hSn
          try simp only [Act.put, List.setIfInBounds_toArray, List.set_cons_zero, List.set_cons_succ, List.getElem_toArray, List.getElem_cons_succ, List.getElem_cons_zero]
          clear hb
          refine wpAnyH_ready (rs := [13]) (by kernel_rfl) (by simp) (AllReadyH.cons rfl (fun K hK => ?a11_13) AllReadyH.nil)
          case' a11_13 =>
            go_simp
            have Y : Hid (Arr (wc3.alloc (.cells #[.int .i64 0, .int .i64 0, .int .i64 0, .int .i64 0, .pointer none, .int .i64 0, .pointer none] FT)) wc3.heap.size FT [.int .i64 0, .int .i64 0, .int .i64 0, .int .i64 0, .pointer none, .int .i64 0, .pointer none]) := ⟨heap_alloc_at _ _⟩
            have hbn : Below wc3.heap.size wc3 (wc3.alloc (.cells #[.int .i64 0, .int .i64 0, .int .i64 0, .int .i64 0, .pointer none, .int .i64 0, .pointer none] FT)) := bl_alloc (Below.refl _ _) _
            have hSn := bl_on hS hbn
            have nYX : ¬ pX = wc3.heap.size := by have := X.out.lt; omega
            have X := hid (X.out.stays hbn)
            generalize hwn : wc3.alloc (.cells #[.int .i64 0, .int .i64 0, .int .i64 0, .int .i64 0, .pointer none, .int .i64 0, .pointer none] FT) = wc4 at Y hSn X ⊢
            have qY : w.heap.size ≤ wc3.heap.size := hS.size
            generalize hpY : wc3.heap.size = pY at Y qY nYX ⊢
            clear hbn hwn hpY
            refine hK.out _ _ (hSn) (fun hSn => ?_)
            clear hK K hS
            have hS := hSn
            clear hSn
            try simp only [Act.put, List.setIfInBounds_toArray, List.set_cons_zero, List.set_cons_succ, List.getElem_toArray, List.getElem_cons_succ, List.getElem_cons_zero]
            refine wpAnyH_ready (rs := [14]) (by kernel_rfl) (by simp) (AllReadyH.cons rfl (fun K hK => ?a12_14) AllReadyH.nil)
            case' a12_14 =>
              go_simp
              have cc := X.out.cell
              have cf := X.out.frozen
              go_simp
              have X := hid (((((((X.out.set 0 (.int .i64 1)).set 1 (.int .i64 0)).set 2 (.int .i64 1)).set 3 (.int .i64 1)).set 4 (.pointer none)).set 5 (.int .i64 1)).set 6 (.pointer none))
              have Y := hid (((((((Y.out.other (p := ⟨pX, 0, none⟩) (by show ¬ pY = pX; omega) (.int .i64 1)).other (p := ⟨pX, 1, none⟩) (by show ¬ pY = pX; omega) (.int .i64 0)).other (p := ⟨pX, 2, none⟩) (by show ¬ pY = pX; omega) (.int .i64 1)).other (p := ⟨pX, 3, none⟩) (by show ¬ pY = pX; omega) (.int .i64 1)).other (p := ⟨pX, 4, none⟩) (by show ¬ pY = pX; omega) (.pointer none)).other (p := ⟨pX, 5, none⟩) (by show ¬ pY = pX; omega) (.int .i64 1)).other (p := ⟨pX, 6, none⟩) (by show ¬ pY = pX; omega) (.pointer none))
              simp only [List.set_cons_zero, List.set_cons_succ] at X
              have hSn : Below w.heap.size w (((((((wc4.setCell ⟨pX, 0, none⟩ (.int .i64 1)).setCell ⟨pX, 1, none⟩ (.int .i64 0)).setCell ⟨pX, 2, none⟩ (.int .i64 1)).setCell ⟨pX, 3, none⟩ (.int .i64 1)).setCell ⟨pX, 4, none⟩ (.pointer none)).setCell ⟨pX, 5, none⟩ (.int .i64 1)).setCell ⟨pX, 6, none⟩ (.pointer none)) := (bl_put (bl_put (bl_put (bl_put (bl_put (bl_put (bl_put hS (p := ⟨pX, 0, none⟩) (.int .i64 1) qX) (p := ⟨pX, 1, none⟩) (.int .i64 0) qX) (p := ⟨pX, 2, none⟩) (.int .i64 1) qX) (p := ⟨pX, 3, none⟩) (.int .i64 1) qX) (p := ⟨pX, 4, none⟩) (.pointer none) qX) (p := ⟨pX, 5, none⟩) (.int .i64 1) qX) (p := ⟨pX, 6, none⟩) (.pointer none) qX)
              generalize (((((((wc4.setCell ⟨pX, 0, none⟩ (.int .i64 1)).setCell ⟨pX, 1, none⟩ (.int .i64 0)).setCell ⟨pX, 2, none⟩ (.int .i64 1)).setCell ⟨pX, 3, none⟩ (.int .i64 1)).setCell ⟨pX, 4, none⟩ (.pointer none)).setCell ⟨pX, 5, none⟩ (.int .i64 1)).setCell ⟨pX, 6, none⟩ (.pointer none)) = wc5 at X hSn Y ⊢
              clear cc cf
              refine hK.out _ _ (hSn) (fun hSn => ?_)
              clear hK K hS
              have hS := hSn
              clear hSn
              try simp only [Act.put, List.setIfInBounds_toArray, List.set_cons_zero, List.set_cons_succ, List.getElem_toArray, List.getElem_cons_succ, List.getElem_cons_zero]
              refine wpAnyH_ready (rs := [15]) (by kernel_rfl) (by simp) (AllReadyH.cons rfl (fun K hK => ?a13_15) AllReadyH.nil)
              case' a13_15 =>
                go_simp
                have cc := Y.out.cell
                have cf := Y.out.frozen
                go_simp
                have Y := hid (((((((Y.out.set 0 (.int .i64 0)).set 1 (.int .i64 0)).set 2 (.int .i64 0)).set 3 (.int .i64 0)).set 4 (.pointer none)).set 5 (.int .i64 1)).set 6 (.pointer none))
                have X := hid (((((((X.out.other (p := ⟨pY, 0, none⟩) (by show ¬ pX = pY; omega) (.int .i64 0)).other (p := ⟨pY, 1, none⟩) (by show ¬ pX = pY; omega) (.int .i64 0)).other (p := ⟨pY, 2, none⟩) (by show ¬ pX = pY; omega) (.int .i64 0)).other (p := ⟨pY, 3, none⟩) (by show ¬ pX = pY; omega) (.int .i64 0)).other (p := ⟨pY, 4, none⟩) (by show ¬ pX = pY; omega) (.pointer none)).other (p := ⟨pY, 5, none⟩) (by show ¬ pX = pY; omega) (.int .i64 1)).other (p := ⟨pY, 6, none⟩) (by show ¬ pX = pY; omega) (.pointer none))
                simp only [List.set_cons_zero, List.set_cons_succ] at Y
                have hSn : Below w.heap.size w (((((((wc5.setCell ⟨pY, 0, none⟩ (.int .i64 0)).setCell ⟨pY, 1, none⟩ (.int .i64 0)).setCell ⟨pY, 2, none⟩ (.int .i64 0)).setCell ⟨pY, 3, none⟩ (.int .i64 0)).setCell ⟨pY, 4, none⟩ (.pointer none)).setCell ⟨pY, 5, none⟩ (.int .i64 1)).setCell ⟨pY, 6, none⟩ (.pointer none)) := (bl_put (bl_put (bl_put (bl_put (bl_put (bl_put (bl_put hS (p := ⟨pY, 0, none⟩) (.int .i64 0) qY) (p := ⟨pY, 1, none⟩) (.int .i64 0) qY) (p := ⟨pY, 2, none⟩) (.int .i64 0) qY) (p := ⟨pY, 3, none⟩) (.int .i64 0) qY) (p := ⟨pY, 4, none⟩) (.pointer none) qY) (p := ⟨pY, 5, none⟩) (.int .i64 1) qY) (p := ⟨pY, 6, none⟩) (.pointer none) qY)
                generalize (((((((wc5.setCell ⟨pY, 0, none⟩ (.int .i64 0)).setCell ⟨pY, 1, none⟩ (.int .i64 0)).setCell ⟨pY, 2, none⟩ (.int .i64 0)).setCell ⟨pY, 3, none⟩ (.int .i64 0)).setCell ⟨pY, 4, none⟩ (.pointer none)).setCell ⟨pY, 5, none⟩ (.int .i64 1)).setCell ⟨pY, 6, none⟩ (.pointer none)) = wc6 at Y hSn X ⊢
                clear cc cf
                refine hK.out _ _ (hSn) (fun hSn => ?_)
                clear hK K hS
                have hS := hSn
                clear hSn
                try simp only [Act.put, List.setIfInBounds_toArray, List.set_cons_zero, List.set_cons_succ, List.getElem_toArray, List.getElem_cons_succ, List.getElem_cons_zero]
                refine wpAnyH_done (by kernel_rfl) ?_ _
        case' a10_13 =>
          go_simp
          have Y : Hid (Arr (wc2.alloc (.cells #[.int .i64 0, .int .i64 0, .int .i64 0, .int .i64 0, .pointer none, .int .i64 0, .pointer none] FT)) wc2.heap.size FT [.int .i64 0, .int .i64 0, .int .i64 0, .int .i64 0, .pointer none, .int .i64 0, .pointer none]) := ⟨heap_alloc_at _ _⟩
          have hbn : Below wc2.heap.size wc2 (wc2.alloc (.cells #[.int .i64 0, .int .i64 0, .int .i64 0, .int .i64 0, .pointer none, .int .i64 0, .pointer none] FT)) := bl_alloc (Below.refl _ _) _
          have hSn := bl_on hS hbn
          have nYX : ¬ pX = wc2.heap.size := by have := X.out.lt; omega
          have X := hid (X.out.stays hbn)
          generalize hwn : wc2.alloc (.cells #[.int .i64 0, .int .i64 0, .int .i64 0, .int .i64 0, .pointer none, .int .i64 0, .pointer none] FT) = wc3 at Y hSn X ⊢
          have qY : w.heap.size ≤ wc2.heap.size := hS.size
          generalize hpY : wc2.heap.size = pY at Y qY nYX ⊢
          clear hbn hwn hpY
          refine hK.out _ _ (hSn) (fun hSn => ?_)
          clear hK K hS
          have hS := hSn
          clear hSn
          try simp only [Act.put, List.setIfInBounds_toArray, List.set_cons_zero, List.set_cons_succ, List.getElem_toArray, List.getElem_cons_succ, List.getElem_cons_zero]
          refine wpAnyH_ready (rs := [11]) (by kernel_rfl) (by simp) (AllReadyH.cons rfl (fun K hK => ?a14_11) AllReadyH.nil)
          case' a14_11 =>
            go_simp
            refine (h0.out wc3 hS).mono ?_
            rintro e wc4 ⟨rfl, hb⟩
            have X := hid (X.out.stays hb)
            have Y := hid (Y.out.stays hb)
            refine hK.out _ _ (bl_on hS hb) (fun hSn => ?_)
            clear hK K hS
            have hS := hSn
            clear hSn
            try simp only [Act.put, List.setIfInBounds_toArray, List.set_cons_zero, List.set_cons_succ, List.getElem_toArray, List.getElem_cons_succ, List.getElem_cons_zero]
            clear hb
            refine wpAnyH_ready (rs := [14]) (by kernel_rfl) (by simp) (AllReadyH.cons rfl (fun K hK => ?a15_14) AllReadyH.nil)
            case' a15_14 =>
              go_simp
              have cc := X.out.cell
              have cf := X.out.frozen
              go_simp
              have X := hid (((((((X.out.set 0 (.int .i64 1)).set 1 (.int .i64 0)).set 2 (.int .i64 1)).set 3 (.int .i64 1)).set 4 (.pointer none)).set 5 (.int .i64 1)).set 6 (.pointer none))
              have Y := hid (((((((Y.out.other (p := ⟨pX, 0, none⟩) (by show ¬ pY = pX; omega) (.int .i64 1)).other (p := ⟨pX, 1, none⟩) (by show ¬ pY = pX; omega) (.int .i64 0)).other (p := ⟨pX, 2, none⟩) (by show ¬ pY = pX; omega) (.int .i64 1)).other (p := ⟨pX, 3, none⟩) (by show ¬ pY = pX; omega) (.int .i64 1)).other (p := ⟨pX, 4, none⟩) (by show ¬ pY = pX; omega) (.pointer none)).other (p := ⟨pX, 5, none⟩) (by show ¬ pY = pX; omega) (.int .i64 1)).other (p := ⟨pX, 6, none⟩) (by show ¬ pY = pX; omega) (.pointer none))
              simp only [List.set_cons_zero, List.set_cons_succ] at X
              have hSn : Below w.heap.size w (((((((wc4.setCell ⟨pX, 0, none⟩ (.int .i64 1)).setCell ⟨pX, 1, none⟩ (.int .i64 0)).setCell ⟨pX, 2, none⟩ (.int .i64 1)).setCell ⟨pX, 3, none⟩ (.int .i64 1)).setCell ⟨pX, 4, none⟩ (.pointer none)).setCell ⟨pX, 5, none⟩ (.int .i64 1)).setCell ⟨pX, 6, none⟩ (.pointer none)) := (bl_put (bl_put (bl_put (bl_put (bl_put (bl_put (bl_put hS (p := ⟨pX, 0, none⟩) (.int .i64 1) qX) (p := ⟨pX, 1, none⟩) (.int .i64 0) qX) (p := ⟨pX, 2, none⟩) (.int .i64 1) qX) (p := ⟨pX, 3, none⟩) (.int .i64 1) qX) (p := ⟨pX, 4, none⟩) (.pointer none) qX) (p := ⟨pX, 5, none⟩) (.int .i64 1) qX) (p := ⟨pX, 6, none⟩) (.pointer none) qX)
              generalize (((((((wc4.setCell ⟨pX, 0, none⟩ (.int .i64 1)).setCell ⟨pX, 1, none⟩ (.int .i64 0)).setCell ⟨pX, 2, none⟩ (.int .i64 1)).setCell ⟨pX, 3, none⟩ (.int .i64 1)).setCell ⟨pX, 4, none⟩ (.pointer none)).setCell ⟨pX, 5, none⟩ (.int .i64 1)).setCell ⟨pX, 6, none⟩ (.pointer none)) = wc5 at X hSn Y ⊢
              clear cc cf
              refine hK.out _ _ (hSn) (fun hSn => ?_)
              clear hK K hS
              have hS := hSn
              clear hSn
              try simp only [Act.put, List.setIfInBounds_toArray, List.set_cons_zero, List.set_cons_succ, List.getElem_toArray, List.getElem_cons_succ, List.getElem_cons_zero]
              refine wpAnyH_ready (rs := [15]) (by kernel_rfl) (by simp) (AllReadyH.cons rfl (fun K hK => ?a16_15) AllReadyH.nil)
              case' a16_15 =>
                go_simp
                have cc := Y.out.cell
                have cf := Y.out.frozen
                go_simp
                have Y := hid (((((((Y.out.set 0 (.int .i64 0)).set 1 (.int .i64 0)).set 2 (.int .i64 0)).set 3 (.int .i64 0)).set 4 (.pointer none)).set 5 (.int .i64 1)).set 6 (.pointer none))
                have X := hid (((((((X.out.other (p := ⟨pY, 0, none⟩) (by show ¬ pX = pY; omega) (.int .i64 0)).other (p := ⟨pY, 1, none⟩) (by show ¬ pX = pY; omega) (.int .i64 0)).other (p := ⟨pY, 2, none⟩) (by show ¬ pX = pY; omega) (.int .i64 0)).other (p := ⟨pY, 3, none⟩) (by show ¬ pX = pY; omega) (.int .i64 0)).other (p := ⟨pY, 4, none⟩) (by show ¬ pX = pY; omega) (.pointer none)).other (p := ⟨pY, 5, none⟩) (by show ¬ pX = pY; omega) (.int .i64 1)).other (p := ⟨pY, 6, none⟩) (by show ¬ pX = pY; omega) (.pointer none))
                simp only [List.set_cons_zero, List.set_cons_succ] at Y
                have hSn : Below w.heap.size w (((((((wc5.setCell ⟨pY, 0, none⟩ (.int .i64 0)).setCell ⟨pY, 1, none⟩ (.int .i64 0)).setCell ⟨pY, 2, none⟩ (.int .i64 0)).setCell ⟨pY, 3, none⟩ (.int .i64 0)).setCell ⟨pY, 4, none⟩ (.pointer none)).setCell ⟨pY, 5, none⟩ (.int .i64 1)).setCell ⟨pY, 6, none⟩ (.pointer none)) := (bl_put (bl_put (bl_put (bl_put (bl_put (bl_put (bl_put hS (p := ⟨pY, 0, none⟩) (.int .i64 0) qY) (p := ⟨pY, 1, none⟩) (.int .i64 0) qY) (p := ⟨pY, 2, none⟩) (.int .i64 0) qY) (p := ⟨pY, 3, none⟩) (.int .i64 0) qY) (p := ⟨pY, 4, none⟩) (.pointer none) qY) (p := ⟨pY, 5, none⟩) (.int .i64 1) qY) (p := ⟨pY, 6, none⟩) (.pointer none) qY)
                generalize (((((((wc5.setCell ⟨pY, 0, none⟩ (.int .i64 0)).setCell ⟨pY, 1, none⟩ (.int .i64 0)).setCell ⟨pY, 2, none⟩ (.int .i64 0)).setCell ⟨pY, 3, none⟩ (.int .i64 0)).setCell ⟨pY, 4, none⟩ (.pointer none)).setCell ⟨pY, 5, none⟩ (.int .i64 1)).setCell ⟨pY, 6, none⟩ (.pointer none)) = wc6 at Y hSn X ⊢
                clear cc cf
                refine hK.out _ _ (hSn) (fun hSn => ?_)
                clear hK K hS
                have hS := hSn
                clear hSn
                try simp only [Act.put, List.setIfInBounds_toArray, List.set_cons_zero, List.set_cons_succ, List.getElem_toArray, List.getElem_cons_succ, List.getElem_cons_zero]
                refine wpAnyH_done (by kernel_rfl) ?_ _
      case' a2_13 =>
        go_simp
        have Y : Hid (Arr (wc1.alloc (.cells #[.int .i64 0, .int .i64 0, .int .i64 0, .int .i64 0, .pointer none, .int .i64 0, .pointer none] FT)) wc1.heap.size FT [.int .i64 0, .int .i64 0, .int .i64 0, .int .i64 0, .pointer none, .int .i64 0, .pointer none]) := ⟨heap_alloc_at _ _⟩
        have hbn : Below wc1.heap.size wc1 (wc1.alloc (.cells #[.int .i64 0, .int .i64 0, .int .i64 0, .int .i64 0, .pointer none, .int .i64 0, .pointer none] FT)) := bl_alloc (Below.refl _ _) _
        have hSn := bl_on hS hbn
        generalize hwn : wc1.alloc (.cells #[.int .i64 0, .int .i64 0, .int .i64 0, .int .i64 0, .pointer none, .int .i64 0, .pointer none] FT) = wc2 at Y hSn  ⊢
        have qY : w.heap.size ≤ wc1.heap.size := hS.size
        generalize hpY : wc1.heap.size = pY at Y qY  ⊢
        clear hbn hwn hpY
        refine hK.out _ _ (hSn) (fun hSn => ?_)
        clear hK K hS
        have hS := hSn
        clear hSn
        try simp only [Act.put, List.setIfInBounds_toArray, List.set_cons_zero, List.set_cons_succ, List.getElem_toArray, List.getElem_cons_succ, List.getElem_cons_zero]
        refine wpAnyH_ready (rs := [11, 12]) (by kernel_rfl) (by simp) (AllReadyH.cons rfl (fun K hK => ?a17_11) (AllReadyH.cons rfl (fun K hK => ?a17_12) AllReadyH.nil))
        case' a17_11 =>
          go_simp
          refine (h0.out wc2 hS).mono ?_
          rintro e wc3 ⟨rfl, hb⟩
          have Y := hid (Y.out.stays hb)
          refine hK.out _ _ (bl_on hS hb) (fun hSn => ?_)
          clear hK K hS
          have hS := hSn
          clear hSn
          try simp only [Act.put, List.setIfInBounds_toArray, List.set_cons_zero, List.set_cons_succ, List.getElem_toArray, List.getElem_cons_succ, List.getElem_cons_zero]
          clear hb
          refine wpAnyH_ready (rs := [12]) (by kernel_rfl) (by simp) (AllReadyH.cons rfl (fun K hK => ?a18_12) AllReadyH.nil)
          case' a18_12 =>
            go_simp
            have X : Hid (Arr (wc3.alloc (.cells #[.int .i64 0, .int .i64 0, .int .i64 0, .int .i64 0, .pointer none, .int .i64 0, .pointer none] FT)) wc3.heap.size FT [.int .i64 0, .int .i64 0, .int .i64 0, .int .i64 0, .pointer none, .int .i64 0, .pointer none]) := ⟨heap_alloc_at _ _⟩
            have hbn : Below wc3.heap.size wc3 (wc3.alloc (.cells #[.int .i64 0, .int .i64 0, .int .i64 0, .int .i64 0, .pointer none, .int .i64 0, .pointer none] FT)) := bl_alloc (Below.refl _ _) _
            have hSn := bl_on hS hbn
            have nXY : ¬ pY = wc3.heap.size := by have := Y.out.lt; omega
            have Y := hid (Y.out.stays hbn)
            generalize hwn : wc3.alloc (.cells #[.int .i64 0, .int .i64 0, .int .i64 0, .int .i64 0, .pointer none, .int .i64 0, .pointer none] FT) = wc4 at X hSn Y ⊢
            have qX : w.heap.size ≤ wc3.heap.size := hS.size
            generalize hpX : wc3.heap.size = pX at X qX nXY ⊢
            clear hbn hwn hpX
            refine hK.out _ _ (hSn) (fun hSn => ?_)
            clear hK K hS
            have hS := hSn
            clear hSn
            try simp only [Act.put, List.setIfInBounds_toArray, List.set_cons_zero, List.set_cons_succ, List.getElem_toArray, List.getElem_cons_succ, List.getElem_cons_zero]
            refine wpAnyH_ready (rs := [14]) (by kernel_rfl) (by simp) (AllReadyH.cons rfl (fun K hK => ?a19_14) AllReadyH.nil)
            case' a19_14 =>
              go_simp
              have cc := X.out.cell
              have cf := X.out.frozen
              go_simp
              have X := hid (((((((X.out.set 0 (.int .i64 1)).set 1 (.int .i64 0)).set 2 (.int .i64 1)).set 3 (.int .i64 1)).set 4 (.pointer none)).set 5 (.int .i64 1)).set 6 (.pointer none))
              have Y := hid (((((((Y.out.other (p := ⟨pX, 0, none⟩) (by show ¬ pY = pX; omega) (.int .i64 1)).other (p := ⟨pX, 1, none⟩) (by show ¬ pY = pX; omega) (.int .i64 0)).other (p := ⟨pX, 2, none⟩) (by show ¬ pY = pX; omega) (.int .i64 1)).other (p := ⟨pX, 3, none⟩) (by show ¬ pY = pX; omega) (.int .i64 1)).other (p := ⟨pX, 4, none⟩) (by show ¬ pY = pX; omega) (.pointer none)).other (p := ⟨pX, 5, none⟩) (by show ¬ pY = pX; omega) (.int .i64 1)).other (p := ⟨pX, 6, none⟩) (by show ¬ pY = pX; omega) (.pointer none))
              simp only [List.set_cons_zero, List.set_cons_succ] at X
              have hSn : Below w.heap.size w (((((((wc4.setCell ⟨pX, 0, none⟩ (.int .i64 1)).setCell ⟨pX, 1, none⟩ (.int .i64 0)).setCell ⟨pX, 2, none⟩ (.int .i64 1)).setCell ⟨pX, 3, none⟩ (.int .i64 1)).setCell ⟨pX, 4, none⟩ (.pointer none)).setCell ⟨pX, 5, none⟩ (.int .i64 1)).setCell ⟨pX, 6, none⟩ (.pointer none)) := (bl_put (bl_put (bl_put (bl_put (bl_put (bl_put (bl_put hS (p := ⟨pX, 0, none⟩) (.int .i64 1) qX) (p := ⟨pX, 1, none⟩) (.int .i64 0) qX) (p := ⟨pX, 2, none⟩) (.int .i64 1) qX) (p := ⟨pX, 3, none⟩) (.int .i64 1) qX) (p := ⟨pX, 4, none⟩) (.pointer none) qX) (p := ⟨pX, 5, none⟩) (.int .i64 1) qX) (p := ⟨pX, 6, none⟩) (.pointer none) qX)
              generalize (((((((wc4.setCell ⟨pX, 0, none⟩ (.int .i64 1)).setCell ⟨pX, 1, none⟩ (.int .i64 0)).setCell ⟨pX, 2, none⟩ (.int .i64 1)).setCell ⟨pX, 3, none⟩ (.int .i64 1)).setCell ⟨pX, 4, none⟩ (.pointer none)).setCell ⟨pX, 5, none⟩ (.int .i64 1)).setCell ⟨pX, 6, none⟩ (.pointer none)) = wc5 at X hSn Y ⊢
              clear cc cf
              refine hK.out _ _ (hSn) (fun hSn => ?_)
              clear hK K hS
              have hS := hSn
              clear hSn
              try simp only [Act.put, List.setIfInBounds_toArray, List.set_cons_zero, List.set_cons_succ, List.getElem_toArray, List.getElem_cons_succ, List.getElem_cons_zero]
              refine wpAnyH_ready (rs := [15]) (by kernel_rfl) (by simp) (AllReadyH.cons rfl (fun K hK => ?a20_15) AllReadyH.nil)
              case' a20_15 =>
                go_simp
                have cc := Y.out.cell
                have cf := Y.out.frozen
                go_simp
                have Y := hid (((((((Y.out.set 0 (.int .i64 0)).set 1 (.int .i64 0)).set 2 (.int .i64 0)).set 3 (.int .i64 0)).set 4 (.pointer none)).set 5 (.int .i64 1)).set 6 (.pointer none))
                have X := hid (((((((X.out.other (p := ⟨pY, 0, none⟩) (by show ¬ pX = pY; omega) (.int .i64 0)).other (p := ⟨pY, 1, none⟩) (by show ¬ pX = pY; omega) (.int .i64 0)).other (p := ⟨pY, 2, none⟩) (by show ¬ pX = pY; omega) (.int .i64 0)).other (p := ⟨pY, 3, none⟩) (by show ¬ pX = pY; omega) (.int .i64 0)).other (p := ⟨pY, 4, none⟩) (by show ¬ pX = pY; omega) (.pointer none)).other (p := ⟨pY, 5, none⟩) (by show ¬ pX = pY; omega) (.int .i64 1)).other (p := ⟨pY, 6, none⟩) (by show ¬ pX = pY; omega) (.pointer none))
                simp only [List.set_cons_zero, List.set_cons_succ] at Y
                have hSn : Below w.heap.size w (((((((wc5.setCell ⟨pY, 0, none⟩ (.int .i64 0)).setCell ⟨pY, 1, none⟩ (.int .i64 0)).setCell ⟨pY, 2, none⟩ (.int .i64 0)).setCell ⟨pY, 3, none⟩ (.int .i64 0)).setCell ⟨pY, 4, none⟩ (.pointer none)).setCell ⟨pY, 5, none⟩ (.int .i64 1)).setCell ⟨pY, 6, none⟩ (.pointer none)) := (bl_put (bl_put (bl_put (bl_put (bl_put (bl_put (bl_put hS (p := ⟨pY, 0, none⟩) (.int .i64 0) qY) (p := ⟨pY, 1, none⟩) (.int .i64 0) qY) (p := ⟨pY, 2, none⟩) (.int .i64 0) qY) (p := ⟨pY, 3, none⟩) (.int .i64 0) qY) (p := ⟨pY, 4, none⟩) (.pointer none) qY) (p := ⟨pY, 5, none⟩) (.int .i64 1) qY) (p := ⟨pY, 6, none⟩) (.pointer none) qY)
                generalize (((((((wc5.setCell ⟨pY, 0, none⟩ (.int .i64 0)).setCell ⟨pY, 1, none⟩ (.int .i64 0)).setCell ⟨pY, 2, none⟩ (.int .i64 0)).setCell ⟨pY, 3, none⟩ (.int .i64 0)).setCell ⟨pY, 4, none⟩ (.pointer none)).setCell ⟨pY, 5, none⟩ (.int .i64 1)).setCell ⟨pY, 6, none⟩ (.pointer none)) = wc6 at Y hSn X ⊢
                clear cc cf
                refine hK.out _ _ (hSn) (fun hSn => ?_)
                clear hK K hS
                have hS := hSn
                clear hSn
                try simp only [Act.put, List.setIfInBounds_toArray, List.set_cons_zero, List.set_cons_succ, List.getElem_toArray, List.getElem_cons_succ, List.getElem_cons_zero]
                refine wpAnyH_done (by kernel_rfl) ?_ _
        case' a17_12 =>
          go_simp
          have X : Hid (Arr (wc2.alloc (.cells #[.int .i64 0, .int .i64 0, .int .i64 0, .int .i64 0, .pointer none, .int .i64 0, .pointer none] FT)) wc2.heap.size FT [.int .i64 0, .int .i64 0, .int .i64 0, .int .i64 0, .pointer none, .int .i64 0, .pointer none]) := ⟨heap_alloc_at _ _⟩
          have hbn : Below wc2.heap.size wc2 (wc2.alloc (.cells #[.int .i64 0, .int .i64 0, .int .i64 0, .int .i64 0, .pointer none, .int .i64 0, .pointer none] FT)) := bl_alloc (Below.refl _ _) _
          have hSn := bl_on hS hbn
          have nXY : ¬ pY = wc2.heap.size := by have := Y.out.lt; omega
          have Y := hid (Y.out.stays hbn)
          generalize hwn : wc2.alloc (.cells #[.int .i64 0, .int .i64 0, .int .i64 0, .int .i64 0, .pointer none, .int .i64 0, .pointer none] FT) = wc3 at X hSn Y ⊢
          have qX : w.heap.size ≤ wc2.heap.size := hS.size
          generalize hpX : wc2.heap.size = pX at X qX nXY ⊢
          clear hbn hwn hpX
          refine hK.out _ _ (hSn) (fun hSn => ?_)
          clear hK K hS
          have hS := hSn
          clear hSn
          try simp only [Act.put, List.setIfInBounds_toArray, List.set_cons_zero, List.set_cons_succ, List.getElem_toArray, List.getElem_cons_succ, List.getElem_cons_zero]
          refine wpAnyH_ready (rs := [11]) (by kernel_rfl) (by simp) (AllReadyH.cons rfl (fun K hK => ?a21_11) AllReadyH.nil)
          case' a21_11 =>
            go_simp
            refine (h0.out wc3 hS).mono ?_
            rintro e wc4 ⟨rfl, hb⟩
            have Y := hid (Y.out.stays hb)
            have X := hid (X.out.stays hb)
            refine hK.out _ _ (bl_on hS hb) (fun hSn => ?_)
            clear hK K hS
            have hS := hSn
            clear hSn
            try simp only [Act.put, List.setIfInBounds_toArray, List.set_cons_zero, List.set_cons_succ, List.getElem_toArray, List.getElem_cons_succ, List.getElem_cons_zero]
            clear hb
            refine wpAnyH_ready (rs := [14]) (by kernel_rfl) (by simp) (AllReadyH.cons rfl (fun K hK => ?a22_14) AllReadyH.nil)
            case' a22_14 =>
              go_simp
              have cc := X.out.cell
              have cf := X.out.frozen
              go_simp
              have X := hid (((((((X.out.set 0 (.int .i64 1)).set 1 (.int .i64 0)).set 2 (.int .i64 1)).set 3 (.int .i64 1)).set 4 (.pointer none)).set 5 (.int .i64 1)).set 6 (.pointer none))
              have Y := hid (((((((Y.out.other (p := ⟨pX, 0, none⟩) (by show ¬ pY = pX; omega) (.int .i64 1)).other (p := ⟨pX, 1, none⟩) (by show ¬ pY = pX; omega) (.int .i64 0)).other (p := ⟨pX, 2, none⟩) (by show ¬ pY = pX; omega) (.int .i64 1)).other (p := ⟨pX, 3, none⟩) (by show ¬ pY = pX; omega) (.int .i64 1)).other (p := ⟨pX, 4, none⟩) (by show ¬ pY = pX; omega) (.pointer none)).other (p := ⟨pX, 5, none⟩) (by show ¬ pY = pX; omega) (.int .i64 1)).other (p := ⟨pX, 6, none⟩) (by show ¬ pY = pX; omega) (.pointer none))
              simp only [List.set_cons_zero, List.set_cons_succ] at X
              have hSn : Below w.heap.size w (((((((wc4.setCell ⟨pX, 0, none⟩ (.int .i64 1)).setCell ⟨pX, 1, none⟩ (.int .i64 0)).setCell ⟨pX, 2, none⟩ (.int .i64 1)).setCell ⟨pX, 3, none⟩ (.int .i64 1)).setCell ⟨pX, 4, none⟩ (.pointer none)).setCell ⟨pX, 5, none⟩ (.int .i64 1)).setCell ⟨pX, 6, none⟩ (.pointer none)) := (bl_put (bl_put (bl_put (bl_put (bl_put (bl_put (bl_put hS (p := ⟨pX, 0, none⟩) (.int .i64 1) qX) (p := ⟨pX, 1, none⟩) (.int .i64 0) qX) (p := ⟨pX, 2, none⟩) (.int .i64 1) qX) (p := ⟨pX, 3, none⟩) (.int .i64 1) qX) (p := ⟨pX, 4, none⟩) (.pointer none) qX) (p := ⟨pX, 5, none⟩) (.int .i64 1) qX) (p := ⟨pX, 6, none⟩) (.pointer none) qX)
              generalize (((((((wc4.setCell ⟨pX, 0, none⟩ (.int .i64 1)).setCell ⟨pX, 1, none⟩ (.int .i64 0)).setCell ⟨pX, 2, none⟩ (.int .i64 1)).setCell ⟨pX, 3, none⟩ (.int .i64 1)).setCell ⟨pX, 4, none⟩ (.pointer none)).setCell ⟨pX, 5, none⟩ (.int .i64 1)).setCell ⟨pX, 6, none⟩ (.pointer none)) = wc5 at X hSn Y ⊢
              clear cc cf
              refine hK.out _ _ (hSn) (fun hSn => ?_)
              clear hK K hS
              have hS := hSn
              clear hSn
              try simp only [Act.put, List.setIfInBounds_toArray, List.set_cons_zero, List.set_cons_succ, List.getElem_toArray, List.getElem_cons_succ, List.getElem_cons_zero]
              refine wpAnyH_ready (rs := [15]) (by kernel_rfl) (by simp) (AllReadyH.cons rfl (fun K hK => ?a23_15) AllReadyH.nil)
              case' a23_15 =>
                go_simp
                have cc := Y.out.cell
                have cf := Y.out.frozen
                go_simp
                have Y := hid (((((((Y.out.set 0 (.int .i64 0)).set 1 (.int .i64 0)).set 2 (.int .i64 0)).set 3 (.int .i64 0)).set 4 (.pointer none)).set 5 (.int .i64 1)).set 6 (.pointer none))
                have X := hid (((((((X.out.other (p := ⟨pY, 0, none⟩) (by show ¬ pX = pY; omega) (.int .i64 0)).other (p := ⟨pY, 1, none⟩) (by show ¬ pX = pY; omega) (.int .i64 0)).other (p := ⟨pY, 2, none⟩) (by show ¬ pX = pY; omega) (.int .i64 0)).other (p := ⟨pY, 3, none⟩) (by show ¬ pX = pY; omega) (.int .i64 0)).other (p := ⟨pY, 4, none⟩) (by show ¬ pX = pY; omega) (.pointer none)).other (p := ⟨pY, 5, none⟩) (by show ¬ pX = pY; omega) (.int .i64 1)).other (p := ⟨pY, 6, none⟩) (by show ¬ pX = pY; omega) (.pointer none))
                simp only [List.set_cons_zero, List.set_cons_succ] at Y
                have hSn : Below w.heap.size w (((((((wc5.setCell ⟨pY, 0, none⟩ (.int .i64 0)).setCell ⟨pY, 1, none⟩ (.int .i64 0)).setCell ⟨pY, 2, none⟩ (.int .i64 0)).setCell ⟨pY, 3, none⟩ (.int .i64 0)).setCell ⟨pY, 4, none⟩ (.pointer none)).setCell ⟨pY, 5, none⟩ (.int .i64 1)).setCell ⟨pY, 6, none⟩ (.pointer none)) := (bl_put (bl_put (bl_put (bl_put (bl_put (bl_put (bl_put hS (p := ⟨pY, 0, none⟩) (.int .i64 0) qY) (p := ⟨pY, 1, none⟩) (.int .i64 0) qY) (p := ⟨pY, 2, none⟩) (.int .i64 0) qY) (p := ⟨pY, 3, none⟩) (.int .i64 0) qY) (p := ⟨pY, 4, none⟩) (.pointer none) qY) (p := ⟨pY, 5, none⟩) (.int .i64 1) qY) (p := ⟨pY, 6, none⟩) (.pointer none) qY)
                generalize (((((((wc5.setCell ⟨pY, 0, none⟩ (.int .i64 0)).setCell ⟨pY, 1, none⟩ (.int .i64 0)).setCell ⟨pY, 2, none⟩ (.int .i64 0)).setCell ⟨pY, 3, none⟩ (.int .i64 0)).setCell ⟨pY, 4, none⟩ (.pointer none)).setCell ⟨pY, 5, none⟩ (.int .i64 1)).setCell ⟨pY, 6, none⟩ (.pointer none)) = wc6 at Y hSn X ⊢
                clear cc cf
                refine hK.out _ _ (hSn) (fun hSn => ?_)
                clear hK K hS
                have hS := hSn
                clear hSn
                try simp only [Act.put, List.setIfInBounds_toArray, List.set_cons_zero, List.set_cons_succ, List.getElem_toArray, List.getElem_cons_succ, List.getElem_cons_zero]
                refine wpAnyH_done (by kernel_rfl) ?_ _
    case' a1_12 =>
      go_simp
      have X : Hid (Arr (wc0.alloc (.cells #[.int .i64 0, .int .i64 0, .int .i64 0, .int .i64 0, .pointer none, .int .i64 0, .pointer none] FT)) wc0.heap.size FT [.int .i64 0, .int .i64 0, .int .i64 0, .int .i64 0, .pointer none, .int .i64 0, .pointer none]) := ⟨heap_alloc_at _ _⟩
      have hbn : Below wc0.heap.size wc0 (wc0.alloc (.cells #[.int .i64 0, .int .i64 0, .int .i64 0, .int .i64 0, .pointer none, .int .i64 0, .pointer none] FT)) := bl_alloc (Below.refl _ _) _
      have hSn := bl_on hS hbn
      generalize hwn : wc0.alloc (.cells #[.int .i64 0, .int .i64 0, .int .i64 0, .int .i64 0, .pointer none, .int .i64 0, .pointer none] FT) = wc1 at X hSn  ⊢
      have qX : w.heap.size ≤ wc0.heap.size := hS.size
      generalize hpX : wc0.heap.size = pX at X qX  ⊢
      clear hbn hwn hpX
      refine hK.out _ _ (hSn) (fun hSn => ?_)
      clear hK K hS
      have hS := hSn
      clear hSn
      try simp only [Act.put, List.setIfInBounds_toArray, List.set_cons_zero, List.set_cons_succ, List.getElem_toArray, List.getElem_cons_succ, List.getElem_cons_zero]
      refine wpAnyH_ready (rs := [5, 13]) (by kernel_rfl) (by simp) (AllReadyH.cons rfl (fun K hK => ?a24_5) (AllReadyH.cons rfl (fun K hK => ?a24_13) AllReadyH.nil))
      case' a24_5 =>
        go_simp
        refine (h1.out wc1 hS).mono ?_
        rintro e wc2 ⟨rfl, hb⟩
        have X := hid (X.out.stays hb)
        refine hK.out _ _ (bl_on hS hb) (fun hSn => ?_)
        clear hK K hS
        have hS := hSn
        clear hSn
        try simp only [Act.put, List.setIfInBounds_toArray, List.set_cons_zero, List.set_cons_succ, List.getElem_toArray, List.getElem_cons_succ, List.getElem_cons_zero]
        clear hb
        refine wpAnyH_ready (rs := [11, 13]) (by kernel_rfl) (by simp) (AllReadyH.cons rfl (fun K hK => ?a25_11) (AllReadyH.cons rfl (fun K hK => ?a25_13) AllReadyH.nil))
        case' a25_11 =>
          go_simp
          refine (h0.out wc2 hS).mono ?_
          rintro e wc3 ⟨rfl, hb⟩
          have X := hid (X.out.stays hb)
          refine hK.out _ _ (bl_on hS hb) (fun hSn => ?_)
          clear hK K hS
          have hS := hSn
          clear hSn
          try simp only [Act.put, List.setIfInBounds_toArray, List.set_cons_zero, List.set_cons_succ, List.getElem_toArray, List.getElem_cons_succ, List.getElem_cons_zero]
          clear hb
          refine wpAnyH_ready (rs := [13]) (by kernel_rfl) (by simp) (AllReadyH.cons rfl (fun K hK => ?a26_13) AllReadyH.nil)
          case' a26_13 =>
            go_simp
            have Y : Hid (Arr (wc3.alloc (.cells #[.int .i64 0, .int .i64 0, .int .i64 0, .int .i64 0, .pointer none, .int .i64 0, .pointer none] FT)) wc3.heap.size FT [.int .i64 0, .int .i64 0, .int .i64 0, .int .i64 0, .pointer none, .int .i64 0, .pointer none]) := ⟨heap_alloc_at _ _⟩
            have hbn : Below wc3.heap.size wc3 (wc3.alloc (.cells #[.int .i64 0, .int .i64 0, .int .i64 0, .int .i64 0, .pointer none, .int .i64 0, .pointer none] FT)) := bl_alloc (Below.refl _ _) _
            have hSn := bl_on hS hbn
            have nYX : ¬ pX = wc3.heap.size := by have := X.out.lt; omega
            have X := hid (X.out.stays hbn)
            generalize hwn : wc3.alloc (.cells #[.int .i64 0, .int .i64 0, .int .i64 0, .int .i64 0, .pointer none, .int .i64 0, .pointer none] FT) = wc4 at Y hSn X ⊢
            have qY : w.heap.size ≤ wc3.heap.size := hS.size
            generalize hpY : wc3.heap.size = pY at Y qY nYX ⊢
            clear hbn hwn hpY
            refine hK.out _ _ (hSn) (fun hSn => ?_)
            clear hK K hS
            have hS := hSn
            clear hSn
            try simp only [Act.put, List.setIfInBounds_toArray, List.set_cons_zero, List.set_cons_succ, List.getElem_toArray, List.getElem_cons_succ, List.getElem_cons_zero]
            refine wpAnyH_ready (rs := [14]) (by kernel_rfl) (by simp) (AllReadyH.cons rfl (fun K hK => ?a27_14) AllReadyH.nil)
            case' a27_14 =>
              go_simp
              have cc := X.out.cell
              have cf := X.out.frozen
              go_simp
              have X := hid (((((((X.out.set 0 (.int .i64 1)).set 1 (.int .i64 0)).set 2 (.int .i64 1)).set 3 (.int .i64 1)).set 4 (.pointer none)).set 5 (.int .i64 1)).set 6 (.pointer none))
              have Y := hid (((((((Y.out.other (p := ⟨pX, 0, none⟩) (by show ¬ pY = pX; omega) (.int .i64 1)).other (p := ⟨pX, 1, none⟩) (by show ¬ pY = pX; omega) (.int .i64 0)).other (p := ⟨pX, 2, none⟩) (by show ¬ pY = pX; omega) (.int .i64 1)).other (p := ⟨pX, 3, none⟩) (by show ¬ pY = pX; omega) (.int .i64 1)).other (p := ⟨pX, 4, none⟩) (by show ¬ pY = pX; omega) (.pointer none)).other (p := ⟨pX, 5, none⟩) (by show ¬ pY = pX; omega) (.int .i64 1)).other (p := ⟨pX, 6, none⟩) (by show ¬ pY = pX; omega) (.pointer none))
              simp only [List.set_cons_zero, List.set_cons_succ] at X
              have hSn : Below w.heap.size w (((((((wc4.setCell ⟨pX, 0, none⟩ (.int .i64 1)).setCell ⟨pX, 1, none⟩ (.int .i64 0)).setCell ⟨pX, 2, none⟩ (.int .i64 1)).setCell ⟨pX, 3, none⟩ (.int .i64 1)).setCell ⟨pX, 4, none⟩ (.pointer none)).setCell ⟨pX, 5, none⟩ (.int .i64 1)).setCell ⟨pX, 6, none⟩ (.pointer none)) := (bl_put (bl_put (bl_put (bl_put (bl_put (bl_put (bl_put hS (p := ⟨pX, 0, none⟩) (.int .i64 1) qX) (p := ⟨pX, 1, none⟩) (.int .i64 0) qX) (p := ⟨pX, 2, none⟩) (.int .i64 1) qX) (p := ⟨pX, 3, none⟩) (.int .i64 1) qX) (p := ⟨pX, 4, none⟩) (.pointer none) qX) (p := ⟨pX, 5, none⟩) (.int .i64 1) qX) (p := ⟨pX, 6, none⟩) (.pointer none) qX)
              generalize (((((((wc4.setCell ⟨pX, 0, none⟩ (.int .i64 1)).setCell ⟨pX, 1, none⟩ (.int .i64 0)).setCell ⟨pX, 2, none⟩ (.int .i64 1)).setCell ⟨pX, 3, none⟩ (.int .i64 1)).setCell ⟨pX, 4, none⟩ (.pointer none)).setCell ⟨pX, 5, none⟩ (.int .i64 1)).setCell ⟨pX, 6, none⟩ (.pointer none)) = wc5 at X hSn Y ⊢
              clear cc cf
              refine hK.out _ _ (hSn) (fun hSn => ?_)
              clear hK K hS
              have hS := hSn
              clear hSn
              try simp only [Act.put, List.setIfInBounds_toArray, List.set_cons_zero, List.set_cons_succ, List.getElem_toArray, List.getElem_cons_succ, List.getElem_cons_zero]
              refine wpAnyH_ready (rs := [15]) (by kernel_rfl) (by simp) (AllReadyH.cons rfl (fun K hK => ?a28_15) AllReadyH.nil)
              case' a28_15 =>
                go_simp
                have cc := Y.out.cell
                have cf := Y.out.frozen
                go_simp
                have Y := hid (((((((Y.out.set 0 (.int .i64 0)).set 1 (.int .i64 0)).set 2 (.int .i64 0)).set 3 (.int .i64 0)).set 4 (.pointer none)).set 5 (.int .i64 1)).set 6 (.pointer none))
                have X := hid (((((((X.out.other (p := ⟨pY, 0, none⟩) (by show ¬ pX = pY; omega) (.int .i64 0)).other (p := ⟨pY, 1, none⟩) (by show ¬ pX = pY; omega) (.int .i64 0)).other (p := ⟨pY, 2, none⟩) (by show ¬ pX = pY; omega) (.int .i64 0)).other (p := ⟨pY, 3, none⟩) (by show ¬ pX = pY; omega) (.int .i64 0)).other (p := ⟨pY, 4, none⟩) (by show ¬ pX = pY; omega) (.pointer none)).other (p := ⟨pY, 5, none⟩) (by show ¬ pX = pY; omega) (.int .i64 1)).other (p := ⟨pY, 6, none⟩) (by show ¬ pX = pY; omega) (.pointer none))
                simp only [List.set_cons_zero, List.set_cons_succ] at Y
                have hSn : Below w.heap.size w (((((((wc5.setCell ⟨pY, 0, none⟩ (.int .i64 0)).setCell ⟨pY, 1, none⟩ (.int .i64 0)).setCell ⟨pY, 2, none⟩ (.int .i64 0)).setCell ⟨pY, 3, none⟩ (.int .i64 0)).setCell ⟨pY, 4, none⟩ (.pointer none)).setCell ⟨pY, 5, none⟩ (.int .i64 1)).setCell ⟨pY, 6, none⟩ (.pointer none)) := (bl_put (bl_put (bl_put (bl_put (bl_put (bl_put (bl_put hS (p := ⟨pY, 0, none⟩) (.int .i64 0) qY) (p := ⟨pY, 1, none⟩) (.int .i64 0) qY) (p := ⟨pY, 2, none⟩) (.int .i64 0) qY) (p := ⟨pY, 3, none⟩) (.int .i64 0) qY) (p := ⟨pY, 4, none⟩) (.pointer none) qY) (p := ⟨pY, 5, none⟩) (.int .i64 1) qY) (p := ⟨pY, 6, none⟩) (.pointer none) qY)
                generalize (((((((wc5.setCell ⟨pY, 0, none⟩ (.int .i64 0)).setCell ⟨pY, 1, none⟩ (.int .i64 0)).setCell ⟨pY, 2, none⟩ (.int .i64 0)).setCell ⟨pY, 3, none⟩ (.int .i64 0)).setCell ⟨pY, 4, none⟩ (.pointer none)).setCell ⟨pY, 5, none⟩ (.int .i64 1)).setCell ⟨pY, 6, none⟩ (.pointer none)) = wc6 at Y hSn X ⊢
                clear cc cf
                refine hK.out _ _ (hSn) (fun hSn => ?_)
                clear hK K hS
                have hS := hSn
                clear hSn
                try simp only [Act.put, List.setIfInBounds_toArray, List.set_cons_zero, List.set_cons_succ, List.getElem_toArray, List.getElem_cons_succ, List.getElem_cons_zero]
                refine wpAnyH_done (by kernel_rfl) ?_ _
        case' a25_13 =>
          go_simp
          have Y : Hid (Arr (wc2.alloc (.cells #[.int .i64 0, .int .i64 0, .int .i64 0, .int .i64 0, .pointer none, .int .i64 0, .pointer none] FT)) wc2.heap.size FT [.int .i64 0, .int .i64 0, .int .i64 0, .int .i64 0, .pointer none, .int .i64 0, .pointer none]) := ⟨heap_alloc_at _ _⟩
          have hbn : Below wc2.heap.size wc2 (wc2.alloc (.cells #[.int .i64 0, .int .i64 0, .int .i64 0, .int .i64 0, .pointer none, .int .i64 0, .pointer none] FT)) := bl_alloc (Below.refl _ _) _
          have hSn := bl_on hS hbn
          have nYX : ¬ pX = wc2.heap.size := by have := X.out.lt; omega
          have X := hid (X.out.stays hbn)
          generalize hwn : wc2.alloc (.cells #[.int .i64 0, .int .i64 0, .int .i64 0, .int .i64 0, .pointer none, .int .i64 0, .pointer none] FT) = wc3 at Y hSn X ⊢
          have qY : w.heap.size ≤ wc2.heap.size := hS.size
          generalize hpY : wc2.heap.size = pY at Y qY nYX ⊢
          clear hbn hwn hpY
          refine hK.out _ _ (hSn) (fun hSn => ?_)
          clear hK K hS
          have hS := hSn
          clear hSn
          try simp only [Act.put, List.setIfInBounds_toArray, List.set_cons_zero, List.set_cons_succ, List.getElem_toArray, List.getElem_cons_succ, List.getElem_cons_zero]
          refine wpAnyH_ready (rs := [11]) (by kernel_rfl) (by simp) (AllReadyH.cons rfl (fun K hK => ?a29_11) AllReadyH.nil)
          case' a29_11 =>
            go_simp
            refine (h0.out wc3 hS).mono ?_
            rintro e wc4 ⟨rfl, hb⟩
            have X := hid (X.out.stays hb)
            have Y := hid (Y.out.stays hb)
            refine hK.out _ _ (bl_on hS hb) (fun hSn => ?_)
            clear hK K hS
            have hS := hSn
            clear hSn
            try simp only [Act.put, List.setIfInBounds_toArray, List.set_cons_zero, List.set_cons_succ, List.getElem_toArray, List.getElem_cons_succ, List.getElem_cons_zero]
            clear hb
            refine wpAnyH_ready (rs := [14]) (by kernel_rfl) (by simp) (AllReadyH.cons rfl (fun K hK => ?a30_14) AllReadyH.nil)
            case' a30_14 =>
              go_simp
              have cc := X.out.cell
              have cf := X.out.frozen
              go_simp
              have X := hid (((((((X.out.set 0 (.int .i64 1)).set 1 (.int .i64 0)).set 2 (.int .i64 1)).set 3 (.int .i64 1)).set 4 (.pointer none)).set 5 (.int .i64 1)).set 6 (.pointer none))
              have Y := hid (((((((Y.out.other (p := ⟨pX, 0, none⟩) (by show ¬ pY = pX; omega) (.int .i64 1)).other (p := ⟨pX, 1, none⟩) (by show ¬ pY = pX; omega) (.int .i64 0)).other (p := ⟨pX, 2, none⟩) (by show ¬ pY = pX; omega) (.int .i64 1)).other (p := ⟨pX, 3, none⟩) (by show ¬ pY = pX; omega) (.int .i64 1)).other (p := ⟨pX, 4, none⟩) (by show ¬ pY = pX; omega) (.pointer none)).other (p := ⟨pX, 5, none⟩) (by show ¬ pY = pX; omega) (.int .i64 1)).other (p := ⟨pX, 6, none⟩) (by show ¬ pY = pX; omega) (.pointer none))
              simp only [List.set_cons_zero, List.set_cons_succ] at X
              have hSn : Below w.heap.size w (((((((wc4.setCell ⟨pX, 0, none⟩ (.int .i64 1)).setCell ⟨pX, 1, none⟩ (.int .i64 0)).setCell ⟨pX, 2, none⟩ (.int .i64 1)).setCell ⟨pX, 3, none⟩ (.int .i64 1)).setCell ⟨pX, 4, none⟩ (.pointer none)).setCell ⟨pX, 5, none⟩ (.int .i64 1)).setCell ⟨pX, 6, none⟩ (.pointer none)) := (bl_put (bl_put (bl_put (bl_put (bl_put (bl_put (bl_put hS (p := ⟨pX, 0, none⟩) (.int .i64 1) qX) (p := ⟨pX, 1, none⟩) (.int .i64 0) qX) (p := ⟨pX, 2, none⟩) (.int .i64 1) qX) (p := ⟨pX, 3, none⟩) (.int .i64 1) qX) (p := ⟨pX, 4, none⟩) (.pointer none) qX) (p := ⟨pX, 5, none⟩) (.int .i64 1) qX) (p := ⟨pX, 6, none⟩) (.pointer none) qX)
              generalize (((((((wc4.setCell ⟨pX, 0, none⟩ (.int .i64 1)).setCell ⟨pX, 1, none⟩ (.int .i64 0)).setCell ⟨pX, 2, none⟩ (.int .i64 1)).setCell ⟨pX, 3, none⟩ (.int .i64 1)).setCell ⟨pX, 4, none⟩ (.pointer none)).setCell ⟨pX, 5, none⟩ (.int .i64 1)).setCell ⟨pX, 6, none⟩ (.pointer none)) = wc5 at X hSn Y ⊢
              clear cc cf
              refine hK.out _ _ (hSn) (fun hSn => ?_)
              clear hK K hS
              have hS := hSn
              clear hSn
              try simp only [Act.put, List.setIfInBounds_toArray, List.set_cons_zero, List.set_cons_succ, List.getElem_toArray, List.getElem_cons_succ, List.getElem_cons_zero]
              refine wpAnyH_ready (rs := [15]) (by kernel_rfl) (by simp) (AllReadyH.cons rfl (fun K hK => ?a31_15) AllReadyH.nil)
              case' a31_15 =>
                go_simp
                have cc := Y.out.cell
                have cf := Y.out.frozen
                go_simp
                have Y := hid (((((((Y.out.set 0 (.int .i64 0)).set 1 (.int .i64 0)).set 2 (.int .i64 0)).set 3 (.int .i64 0)).set 4 (.pointer none)).set 5 (.int .i64 1)).set 6 (.pointer none))
                have X := hid (((((((X.out.other (p := ⟨pY, 0, none⟩) (by show ¬ pX = pY; omega) (.int .i64 0)).other (p := ⟨pY, 1, none⟩) (by show ¬ pX = pY; omega) (.int .i64 0)).other (p := ⟨pY, 2, none⟩) (by show ¬ pX = pY; omega) (.int .i64 0)).other (p := ⟨pY, 3, none⟩) (by show ¬ pX = pY; omega) (.int .i64 0)).other (p := ⟨pY, 4, none⟩) (by show ¬ pX = pY; omega) (.pointer none)).other (p := ⟨pY, 5, none⟩) (by show ¬ pX = pY; omega) (.int .i64 1)).other (p := ⟨pY, 6, none⟩) (by show ¬ pX = pY; omega) (.pointer none))
                simp only [List.set_cons_zero, List.set_cons_succ] at Y
                have hSn : Below w.heap.size w (((((((wc5.setCell ⟨pY, 0, none⟩ (.int .i64 0)).setCell ⟨pY, 1, none⟩ (.int .i64 0)).setCell ⟨pY, 2, none⟩ (.int .i64 0)).setCell ⟨pY, 3, none⟩ (.int .i64 0)).setCell ⟨pY, 4, none⟩ (.pointer none)).setCell ⟨pY, 5, none⟩ (.int .i64 1)).setCell ⟨pY, 6, none⟩ (.pointer none)) := (bl_put (bl_put (bl_put (bl_put (bl_put (bl_put (bl_put hS (p := ⟨pY, 0, none⟩) (.int .i64 0) qY) (p := ⟨pY, 1, none⟩) (.int .i64 0) qY) (p := ⟨pY, 2, none⟩) (.int .i64 0) qY) (p := ⟨pY, 3, none⟩) (.int .i64 0) qY) (p := ⟨pY, 4, none⟩) (.pointer none) qY) (p := ⟨pY, 5, none⟩) (.int .i64 1) qY) (p := ⟨pY, 6, none⟩) (.pointer none) qY)
                generalize (((((((wc5.setCell ⟨pY, 0, none⟩ (.int .i64 0)).setCell ⟨pY, 1, none⟩ (.int .i64 0)).setCell ⟨pY, 2, none⟩ (.int .i64 0)).setCell ⟨pY, 3, none⟩ (.int .i64 0)).setCell ⟨pY, 4, none⟩ (.pointer none)).setCell ⟨pY, 5, none⟩ (.int .i64 1)).setCell ⟨pY, 6, none⟩ (.pointer none)) = wc6 at Y hSn X ⊢
                clear cc cf
                refine hK.out _ _ (hSn) (fun hSn => ?_)
                clear hK K hS
                have hS := hSn
                clear hSn
                try simp only [Act.put, List.setIfInBounds_toArray, List.set_cons_zero, List.set_cons_succ, List.getElem_toArray, List.getElem_cons_succ, List.getElem_cons_zero]
                refine wpAnyH_done (by kernel_rfl) ?_ _
      case' a24_13 =>
        go_simp
        have Y : Hid (Arr (wc1.alloc (.cells #[.int .i64 0, .int .i64 0, .int .i64 0, .int .i64 0, .pointer none, .int .i64 0, .pointer none] FT)) wc1.heap.size FT [.int .i64 0, .int .i64 0, .int .i64 0, .int .i64 0, .pointer none, .int .i64 0, .pointer none]) := ⟨heap_alloc_at _ _⟩
        have hbn : Below wc1.heap.size wc1 (wc1.alloc (.cells #[.int .i64 0, .int .i64 0, .int .i64 0, .int .i64 0, .pointer none, .int .i64 0, .pointer none] FT)) := bl_alloc (Below.refl _ _) _
        have hSn := bl_on hS hbn
        have nYX : ¬ pX = wc1.heap.size := by have := X.out.lt; omega
        have X := hid (X.out.stays hbn)
        generalize hwn : wc1.alloc (.cells #[.int .i64 0, .int .i64 0, .int .i64 0, .int .i64 0, .pointer none, .int .i64 0, .pointer none] FT) = wc2 at Y hSn X ⊢
        have qY : w.heap.size ≤ wc1.heap.size := hS.size
        generalize hpY : wc1.heap.size = pY at Y qY nYX ⊢
        clear hbn hwn hpY
        refine hK.out _ _ (hSn) (fun hSn => ?_)
        clear hK K hS
        have hS := hSn
        clear hSn
        try simp only [Act.put, List.setIfInBounds_toArray, List.set_cons_zero, List.set_cons_succ, List.getElem_toArray, List.getElem_cons_succ, List.getElem_cons_zero]
        refine wpAnyH_ready (rs := [5]) (by kernel_rfl) (by simp) (AllReadyH.cons rfl (fun K hK => ?a32_5) AllReadyH.nil)
        case' a32_5 =>
          go_simp
          refine (h1.out wc2 hS).mono ?_
          rintro e wc3 ⟨rfl, hb⟩
          have X := hid (X.out.stays hb)
          have Y := hid (Y.out.stays hb)
          refine hK.out _ _ (bl_on hS hb) (fun hSn => ?_)
          clear hK K hS
          have hS := hSn
          clear hSn
          try simp only [Act.put, List.setIfInBounds_toArray, List.set_cons_zero, List.set_cons_succ, List.getElem_toArray, List.getElem_cons_succ, List.getElem_cons_zero]
          clear hb
          refine wpAnyH_ready (rs := [11]) (by kernel_rfl) (by simp) (AllReadyH.cons rfl (fun K hK => ?a33_11) AllReadyH.nil)
          case' a33_11 =>
            go_simp
            refine (h0.out wc3 hS).mono ?_
            rintro e wc4 ⟨rfl, hb⟩
            have X := hid (X.out.stays hb)
            have Y := hid (Y.out.stays hb)
            refine hK.out _ _ (bl_on hS hb) (fun hSn => ?_)
            clear hK K hS
            have hS := hSn
            clear hSn
            try simp only [Act.put, List.setIfInBounds_toArray, List.set_cons_zero, List.set_cons_succ, List.getElem_toArray, List.getElem_cons_succ, List.getElem_cons_zero]
            clear hb
            refine wpAnyH_ready (rs := [14]) (by kernel_rfl) (by simp) (AllReadyH.cons rfl (fun K hK => ?a34_14) AllReadyH.nil)
            case' a34_14 =>
              go_simp
              have cc := X.out.cell
              have cf := X.out.frozen
              go_simp
              have X := hid (((((((X.out.set 0 (.int .i64 1)).set 1 (.int .i64 0)).set 2 (.int .i64 1)).set 3 (.int .i64 1)).set 4 (.pointer none)).set 5 (.int .i64 1)).set 6 (.pointer none))
              have Y := hid (((((((Y.out.other (p := ⟨pX, 0, none⟩) (by show ¬ pY = pX; omega) (.int .i64 1)).other (p := ⟨pX, 1, none⟩) (by show ¬ pY = pX; omega) (.int .i64 0)).other (p := ⟨pX, 2, none⟩) (by show ¬ pY = pX; omega) (.int .i64 1)).other (p := ⟨pX, 3, none⟩) (by show ¬ pY = pX; omega) (.int .i64 1)).other (p := ⟨pX, 4, none⟩) (by show ¬ pY = pX; omega) (.pointer none)).other (p := ⟨pX, 5, none⟩) (by show ¬ pY = pX; omega) (.int .i64 1)).other (p := ⟨pX, 6, none⟩) (by show ¬ pY = pX; omega) (.pointer none))
              simp only [List.set_cons_zero, List.set_cons_succ] at X
              have hSn : Below w.heap.size w (((((((wc4.setCell ⟨pX, 0, none⟩ (.int .i64 1)).setCell ⟨pX, 1, none⟩ (.int .i64 0)).setCell ⟨pX, 2, none⟩ (.int .i64 1)).setCell ⟨pX, 3, none⟩ (.int .i64 1)).setCell ⟨pX, 4, none⟩ (.pointer none)).setCell ⟨pX, 5, none⟩ (.int .i64 1)).setCell ⟨pX, 6, none⟩ (.pointer none)) := (bl_put (bl_put (bl_put (bl_put (bl_put (bl_put (bl_put hS (p := ⟨pX, 0, none⟩) (.int .i64 1) qX) (p := ⟨pX, 1, none⟩) (.int .i64 0) qX) (p := ⟨pX, 2, none⟩) (.int .i64 1) qX) (p := ⟨pX, 3, none⟩) (.int .i64 1) qX) (p := ⟨pX, 4, none⟩) (.pointer none) qX) (p := ⟨pX, 5, none⟩) (.int .i64 1) qX) (p := ⟨pX, 6, none⟩) (.pointer none) qX)
              generalize (((((((wc4.setCell ⟨pX, 0, none⟩ (.int .i64 1)).setCell ⟨pX, 1, none⟩ (.int .i64 0)).setCell ⟨pX, 2, none⟩ (.int .i64 1)).setCell ⟨pX, 3, none⟩ (.int .i64 1)).setCell ⟨pX, 4, none⟩ (.pointer none)).setCell ⟨pX, 5, none⟩ (.int .i64 1)).setCell ⟨pX, 6, none⟩ (.pointer none)) = wc5 at X hSn Y ⊢
              clear cc cf
              refine hK.out _ _ (hSn) (fun hSn => ?_)
              clear hK K hS
              have hS := hSn
              clear hSn
              try simp only [Act.put, List.setIfInBounds_toArray, List.set_cons_zero, List.set_cons_succ, List.getElem_toArray, List.getElem_cons_succ, List.getElem_cons_zero]
              refine wpAnyH_ready (rs := [15]) (by kernel_rfl) (by simp) (AllReadyH.cons rfl (fun K hK => ?a35_15) AllReadyH.nil)
              case' a35_15 =>
                go_simp
                have cc := Y.out.cell
                have cf := Y.out.frozen
                go_simp
                have Y := hid (((((((Y.out.set 0 (.int .i64 0)).set 1 (.int .i64 0)).set 2 (.int .i64 0)).set 3 (.int .i64 0)).set 4 (.pointer none)).set 5 (.int .i64 1)).set 6 (.pointer none))
                have X := hid (((((((X.out.other (p := ⟨pY, 0, none⟩) (by show ¬ pX = pY; omega) (.int .i64 0)).other (p := ⟨pY, 1, none⟩) (by show ¬ pX = pY; omega) (.int .i64 0)).other (p := ⟨pY, 2, none⟩) (by show ¬ pX = pY; omega) (.int .i64 0)).other (p := ⟨pY, 3, none⟩) (by show ¬ pX = pY; omega) (.int .i64 0)).other (p := ⟨pY, 4, none⟩) (by show ¬ pX = pY; omega) (.pointer none)).other (p := ⟨pY, 5, none⟩) (by show ¬ pX = pY; omega) (.int .i64 1)).other (p := ⟨pY, 6, none⟩) (by show ¬ pX = pY; omega) (.pointer none))
                simp only [List.set_cons_zero, List.set_cons_succ] at Y
                have hSn : Below w.heap.size w (((((((wc5.setCell ⟨pY, 0, none⟩ (.int .i64 0)).setCell ⟨pY, 1, none⟩ (.int .i64 0)).setCell ⟨pY, 2, none⟩ (.int .i64 0)).setCell ⟨pY, 3, none⟩ (.int .i64 0)).setCell ⟨pY, 4, none⟩ (.pointer none)).setCell ⟨pY, 5, none⟩ (.int .i64 1)).setCell ⟨pY, 6, none⟩ (.pointer none)) := (bl_put (bl_put (bl_put (bl_put (bl_put (bl_put (bl_put hS (p := ⟨pY, 0, none⟩) (.int .i64 0) qY) (p := ⟨pY, 1, none⟩) (.int .i64 0) qY) (p := ⟨pY, 2, none⟩) (.int .i64 0) qY) (p := ⟨pY, 3, none⟩) (.int .i64 0) qY) (p := ⟨pY, 4, none⟩) (.pointer none) qY) (p := ⟨pY, 5, none⟩) (.int .i64 1) qY) (p := ⟨pY, 6, none⟩) (.pointer none) qY)
                generalize (((((((wc5.setCell ⟨pY, 0, none⟩ (.int .i64 0)).setCell ⟨pY, 1, none⟩ (.int .i64 0)).setCell ⟨pY, 2, none⟩ (.int .i64 0)).setCell ⟨pY, 3, none⟩ (.int .i64 0)).setCell ⟨pY, 4, none⟩ (.pointer none)).setCell ⟨pY, 5, none⟩ (.int .i64 1)).setCell ⟨pY, 6, none⟩ (.pointer none)) = wc6 at Y hSn X ⊢
                clear cc cf
                refine hK.out _ _ (hSn) (fun hSn => ?_)
                clear hK K hS
                have hS := hSn
                clear hSn
                try simp only [Act.put, List.setIfInBounds_toArray, List.set_cons_zero, List.set_cons_succ, List.getElem_toArray, List.getElem_cons_succ, List.getElem_cons_zero]
                refine wpAnyH_done (by kernel_rfl) ?_ _
    case' a1_13 =>
      go_simp
      have Y : Hid (Arr (wc0.alloc (.cells #[.int .i64 0, .int .i64 0, .int .i64 0, .int .i64 0, .pointer none, .int .i64 0, .pointer none] FT)) wc0.heap.size FT [.int .i64 0, .int .i64 0, .int .i64 0, .int .i64 0, .pointer none, .int .i64 0, .pointer none]) := ⟨heap_alloc_at _ _⟩
      have hbn : Below wc0.heap.size wc0 (wc0.alloc (.cells #[.int .i64 0, .int .i64 0, .int .i64 0, .int .i64 0, .pointer none, .int .i64 0, .pointer none] FT)) := bl_alloc (Below.refl _ _) _
      have hSn := bl_on hS hbn
      generalize hwn : wc0.alloc (.cells #[.int .i64 0, .int .i64 0, .int .i64 0, .int .i64 0, .pointer none, .int .i64 0, .pointer none] FT) = wc1 at Y hSn  ⊢
      have qY : w.heap.size ≤ wc0.heap.size := hS.size
      generalize hpY : wc0.heap.size = pY at Y qY  ⊢
      clear hbn hwn hpY
      refine hK.out _ _ (hSn) (fun hSn => ?_)
      clear hK K hS
      have hS := hSn
      clear hSn
      try simp only [Act.put, List.setIfInBounds_toArray, List.set_cons_zero, List.set_cons_succ, List.getElem_toArray, List.getElem_cons_succ, List.getElem_cons_zero]
      refine wpAnyH_ready (rs := [5, 12]) (by kernel_rfl) (by simp) (AllReadyH.cons rfl (fun K hK => ?a36_5) (AllReadyH.cons rfl (fun K hK => ?a36_12) AllReadyH.nil))
      case' a36_5 =>
        go_simp
        refine (h1.out wc1 hS).mono ?_
        rintro e wc2 ⟨rfl, hb⟩
        have Y := hid (Y.out.stays hb)
        refine hK.out _ _ (bl_on hS hb) (fun hSn => ?_)
        clear hK K hS
        have hS := hSn
        clear hSn
        try simp only [Act.put, List.setIfInBounds_toArray, List.set_cons_zero, List.set_cons_succ, List.getElem_toArray, List.getElem_cons_succ, List.getElem_cons_zero]
        clear hb
        refine wpAnyH_ready (rs := [11, 12]) (by kernel_rfl) (by simp) (AllReadyH.cons rfl (fun K hK => ?a37_11) (AllReadyH.cons rfl (fun K hK => ?a37_12) AllReadyH.nil))
        case' a37_11 =>
          go_simp
          refine (h0.out wc2 hS).mono ?_
          rintro e wc3 ⟨rfl, hb⟩
          have Y := hid (Y.out.stays hb)
          refine hK.out _ _ (bl_on hS hb) (fun hSn => ?_)
          clear hK K hS
          have hS := hSn
          clear hSn
          try simp only [Act.put, List.setIfInBounds_toArray, List.set_cons_zero, List.set_cons_succ, List.getElem_toArray, List.getElem_cons_succ, List.getElem_cons_zero]
          clear hb
          refine wpAnyH_ready (rs := [12]) (by kernel_rfl) (by simp) (AllReadyH.cons rfl (fun K hK => ?a38_12) AllReadyH.nil)
          case' a38_12 =>
            go_simp
            have X : Hid (Arr (wc3.alloc (.cells #[.int .i64 0, .int .i64 0, .int .i64 0, .int .i64 0, .pointer none, .int .i64 0, .pointer none] FT)) wc3.heap.size FT [.int .i64 0, .int .i64 0, .int .i64 0, .int .i64 0, .pointer none, .int .i64 0, .pointer none]) := ⟨heap_alloc_at _ _⟩
            have hbn : Below wc3.heap.size wc3 (wc3.alloc (.cells #[.int .i64 0, .int .i64 0, .int .i64 0, .int .i64 0, .pointer none, .int .i64 0, .pointer none] FT)) := bl_alloc (Below.refl _ _) _
            have hSn := bl_on hS hbn
            have nXY : ¬ pY = wc3.heap.size := by have := Y.out.lt; omega
            have Y := hid (Y.out.stays hbn)
            generalize hwn : wc3.alloc (.cells #[.int .i64 0, .int .i64 0, .int .i64 0, .int .i64 0, .pointer none, .int .i64 0, .pointer none] FT) = wc4 at X hSn Y ⊢
            have qX : w.heap.size ≤ wc3.heap.size := hS.size
            generalize hpX : wc3.heap.size = pX at X qX nXY ⊢
            clear hbn hwn hpX
            refine hK.out _ _ (hSn) (fun hSn => ?_)
            clear hK K hS
            have hS := hSn
            clear hSn
            try simp only [Act.put, List.setIfInBounds_toArray, List.set_cons_zero, List.set_cons_succ, List.getElem_toArray, List.getElem_cons_succ, List.getElem_cons_zero]
            refine wpAnyH_ready (rs := [14]) (by kernel_rfl) (by simp) (AllReadyH.cons rfl (fun K hK => ?a39_14) AllReadyH.nil)
            case' a39_14 =>
              go_simp
              have cc := X.out.cell
              have cf := X.out.frozen
              go_simp
              have X := hid (((((((X.out.set 0 (.int .i64 1)).set 1 (.int .i64 0)).set 2 (.int .i64 1)).set 3 (.int .i64 1)).set 4 (.pointer none)).set 5 (.int .i64 1)).set 6 (.pointer none))
              have Y := hid (((((((Y.out.other (p := ⟨pX, 0, none⟩) (by show ¬ pY = pX; omega) (.int .i64 1)).other (p := ⟨pX, 1, none⟩) (by show ¬ pY = pX; omega) (.int .i64 0)).other (p := ⟨pX, 2, none⟩) (by show ¬ pY = pX; omega) (.int .i64 1)).other (p := ⟨pX, 3, none⟩) (by show ¬ pY = pX; omega) (.int .i64 1)).other (p := ⟨pX, 4, none⟩) (by show ¬ pY = pX; omega) (.pointer none)).other (p := ⟨pX, 5, none⟩) (by show ¬ pY = pX; omega) (.int .i64 1)).other (p := ⟨pX, 6, none⟩) (by show ¬ pY = pX; omega) (.pointer none))
              simp only [List.set_cons_zero, List.set_cons_succ] at X
              have hSn : Below w.heap.size w (((((((wc4.setCell ⟨pX, 0, none⟩ (.int .i64 1)).setCell ⟨pX, 1, none⟩ (.int .i64 0)).setCell ⟨pX, 2, none⟩ (.int .i64 1)).setCell ⟨pX, 3, none⟩ (.int .i64 1)).setCell ⟨pX, 4, none⟩ (.pointer none)).setCell ⟨pX, 5, none⟩ (.int .i64 1)).setCell ⟨pX, 6, none⟩ (.pointer none)) := (bl_put (bl_put (bl_put (bl_put (bl_put (bl_put (bl_put hS (p := ⟨pX, 0, none⟩) (.int .i64 1) qX) (p := ⟨pX, 1, none⟩) (.int .i64 0) qX) (p := ⟨pX, 2, none⟩) (.int .i64 1) qX) (p := ⟨pX, 3, none⟩) (.int .i64 1) qX) (p := ⟨pX, 4, none⟩) (.pointer none) qX) (p := ⟨pX, 5, none⟩) (.int .i64 1) qX) (p := ⟨pX, 6, none⟩) (.pointer none) qX)
              generalize (((((((wc4.setCell ⟨pX, 0, none⟩ (.int .i64 1)).setCell ⟨pX, 1, none⟩ (.int .i64 0)).setCell ⟨pX, 2, none⟩ (.int .i64 1)).setCell ⟨pX, 3, none⟩ (.int .i64 1)).setCell ⟨pX, 4, none⟩ (.pointer none)).setCell ⟨pX, 5, none⟩ (.int .i64 1)).setCell ⟨pX, 6, none⟩ (.pointer none)) = wc5 at X hSn Y ⊢
              clear cc cf
              refine hK.out _ _ (hSn) (fun hSn => ?_)
              clear hK K hS
              have hS := hSn
              clear hSn
              try simp only [Act.put, List.setIfInBounds_toArray, List.set_cons_zero, List.set_cons_succ, List.getElem_toArray, List.getElem_cons_succ, List.getElem_cons_zero]
              refine wpAnyH_ready (rs := [15]) (by kernel_rfl) (by simp) (AllReadyH.cons rfl (fun K hK => ?a40_15) AllReadyH.nil)
              case' a40_15 =>
                go_simp
                have cc := Y.out.cell
                have cf := Y.out.frozen
                go_simp
                have Y := hid (((((((Y.out.set 0 (.int .i64 0)).set 1 (.int .i64 0)).set 2 (.int .i64 0)).set 3 (.int .i64 0)).set 4 (.pointer none)).set 5 (.int .i64 1)).set 6 (.pointer none))
                have X := hid (((((((X.out.other (p := ⟨pY, 0, none⟩) (by show ¬ pX = pY; omega) (.int .i64 0)).other (p := ⟨pY, 1, none⟩) (by show ¬ pX = pY; omega) (.int .i64 0)).other (p := ⟨pY, 2, none⟩) (by show ¬ pX = pY; omega) (.int .i64 0)).other (p := ⟨pY, 3, none⟩) (by show ¬ pX = pY; omega) (.int .i64 0)).other (p := ⟨pY, 4, none⟩) (by show ¬ pX = pY; omega) (.pointer none)).other (p := ⟨pY, 5, none⟩) (by show ¬ pX = pY; omega) (.int .i64 1)).other (p := ⟨pY, 6, none⟩) (by show ¬ pX = pY; omega) (.pointer none))
                simp only [List.set_cons_zero, List.set_cons_succ] at Y
                have hSn : Below w.heap.size w (((((((wc5.setCell ⟨pY, 0, none⟩ (.int .i64 0)).setCell ⟨pY, 1, none⟩ (.int .i64 0)).setCell ⟨pY, 2, none⟩ (.int .i64 0)).setCell ⟨pY, 3, none⟩ (.int .i64 0)).setCell ⟨pY, 4, none⟩ (.pointer none)).setCell ⟨pY, 5, none⟩ (.int .i64 1)).setCell ⟨pY, 6, none⟩ (.pointer none)) := (bl_put (bl_put (bl_put (bl_put (bl_put (bl_put (bl_put hS (p := ⟨pY, 0, none⟩) (.int .i64 0) qY) (p := ⟨pY, 1, none⟩) (.int .i64 0) qY) (p := ⟨pY, 2, none⟩) (.int .i64 0) qY) (p := ⟨pY, 3, none⟩) (.int .i64 0) qY) (p := ⟨pY, 4, none⟩) (.pointer none) qY) (p := ⟨pY, 5, none⟩) (.int .i64 1) qY) (p := ⟨pY, 6, none⟩) (.pointer none) qY)
                generalize (((((((wc5.setCell ⟨pY, 0, none⟩ (.int .i64 0)).setCell ⟨pY, 1, none⟩ (.int .i64 0)).setCell ⟨pY, 2, none⟩ (.int .i64 0)).setCell ⟨pY, 3, none⟩ (.int .i64 0)).setCell ⟨pY, 4, none⟩ (.pointer none)).setCell ⟨pY, 5, none⟩ (.int .i64 1)).setCell ⟨pY, 6, none⟩ (.pointer none)) = wc6 at Y hSn X ⊢
                clear cc cf
                refine hK.out _ _ (hSn) (fun hSn => ?_)
                clear hK K hS
                have hS := hSn
                clear hSn
                try simp only [Act.put, List.setIfInBounds_toArray, List.set_cons_zero, List.set_cons_succ, List.getElem_toArray, List.getElem_cons_succ, List.getElem_cons_zero]
                refine wpAnyH_done (by kernel_rfl) ?_ _
        case' a37_12 =>
          go_simp
          have X : Hid (Arr (wc2.alloc (.cells #[.int .i64 0, .int .i64 0, .int .i64 0, .int .i64 0, .pointer none, .int .i64 0, .pointer none] FT)) wc2.heap.size FT [.int .i64 0, .int .i64 0, .int .i64 0, .int .i64 0, .pointer none, .int .i64 0, .pointer none]) := ⟨heap_alloc_at _ _⟩
          have hbn : Below wc2.heap.size wc2 (wc2.alloc (.cells #[.int .i64 0, .int .i64 0, .int .i64 0, .int .i64 0, .pointer none, .int .i64 0, .pointer none] FT)) := bl_alloc (Below.refl _ _) _
          have hSn := bl_on hS hbn
          have nXY : ¬ pY = wc2.heap.size := by have := Y.out.lt; omega
          have Y := hid (Y.out.stays hbn)
          generalize hwn : wc2.alloc (.cells #[.int .i64 0, .int .i64 0, .int .i64 0, .int .i64 0, .pointer none, .int .i64 0, .pointer none] FT) = wc3 at X hSn Y ⊢
          have qX : w.heap.size ≤ wc2.heap.size := hS.size
          generalize hpX : wc2.heap.size = pX at X qX nXY ⊢
          clear hbn hwn hpX
          refine hK.out _ _ (hSn) (fun hSn => ?_)
          clear hK K hS
          have hS := hSn
          clear hSn
          try simp only [Act.put, List.setIfInBounds_toArray, List.set_cons_zero, List.set_cons_succ, List.getElem_toArray, List.getElem_cons_succ, List.getElem_cons_zero]
          refine wpAnyH_ready (rs := [11]) (by kernel_rfl) (by simp) (AllReadyH.cons rfl (fun K hK => ?a41_11) AllReadyH.nil)
          case' a41_11 =>
            go_simp
            refine (h0.out wc3 hS).mono ?_
            rintro e wc4 ⟨rfl, hb⟩
            have Y := hid (Y.out.stays hb)
            have X := hid (X.out.stays hb)
            refine hK.out _ _ (bl_on hS hb) (fun hSn => ?_)
            clear hK K hS
            have hS := hSn
            clear hSn
            try simp only [Act.put, List.setIfInBounds_toArray, List.set_cons_zero, List.set_cons_succ, List.getElem_toArray, List.getElem_cons_succ, List.getElem_cons_zero]
            clear hb
            refine wpAnyH_ready (rs := [14]) (by kernel_rfl) (by simp) (AllReadyH.cons rfl (fun K hK => ?a42_14) AllReadyH.nil)
            case' a42_14 =>
              go_simp
              have cc := X.out.cell
              have cf := X.out.frozen
              go_simp
              have X := hid (((((((X.out.set 0 (.int .i64 1)).set 1 (.int .i64 0)).set 2 (.int .i64 1)).set 3 (.int .i64 1)).set 4 (.pointer none)).set 5 (.int .i64 1)).set 6 (.pointer none))
              have Y := hid (((((((Y.out.other (p := ⟨pX, 0, none⟩) (by show ¬ pY = pX; omega) (.int .i64 1)).other (p := ⟨pX, 1, none⟩) (by show ¬ pY = pX; omega) (.int .i64 0)).other (p := ⟨pX, 2, none⟩) (by show ¬ pY = pX; omega) (.int .i64 1)).other (p := ⟨pX, 3, none⟩) (by show ¬ pY = pX; omega) (.int .i64 1)).other (p := ⟨pX, 4, none⟩) (by show ¬ pY = pX; omega) (.pointer none)).other (p := ⟨pX, 5, none⟩) (by show ¬ pY = pX; omega) (.int .i64 1)).other (p := ⟨pX, 6, none⟩) (by show ¬ pY = pX; omega) (.pointer none))
              simp only [List.set_cons_zero, List.set_cons_succ] at X
              have hSn : Below w.heap.size w (((((((wc4.setCell ⟨pX, 0, none⟩ (.int .i64 1)).setCell ⟨pX, 1, none⟩ (.int .i64 0)).setCell ⟨pX, 2, none⟩ (.int .i64 1)).setCell ⟨pX, 3, none⟩ (.int .i64 1)).setCell ⟨pX, 4, none⟩ (.pointer none)).setCell ⟨pX, 5, none⟩ (.int .i64 1)).setCell ⟨pX, 6, none⟩ (.pointer none)) := (bl_put (bl_put (bl_put (bl_put (bl_put (bl_put (bl_put hS (p := ⟨pX, 0, none⟩) (.int .i64 1) qX) (p := ⟨pX, 1, none⟩) (.int .i64 0) qX) (p := ⟨pX, 2, none⟩) (.int .i64 1) qX) (p := ⟨pX, 3, none⟩) (.int .i64 1) qX) (p := ⟨pX, 4, none⟩) (.pointer none) qX) (p := ⟨pX, 5, none⟩) (.int .i64 1) qX) (p := ⟨pX, 6, none⟩) (.pointer none) qX)
              generalize (((((((wc4.setCell ⟨pX, 0, none⟩ (.int .i64 1)).setCell ⟨pX, 1, none⟩ (.int .i64 0)).setCell ⟨pX, 2, none⟩ (.int .i64 1)).setCell ⟨pX, 3, none⟩ (.int .i64 1)).setCell ⟨pX, 4, none⟩ (.pointer none)).setCell ⟨pX, 5, none⟩ (.int .i64 1)).setCell ⟨pX, 6, none⟩ (.pointer none)) = wc5 at X hSn Y ⊢
              clear cc cf
              refine hK.out _ _ (hSn) (fun hSn => ?_)
              clear hK K hS
              have hS := hSn
              clear hSn
              try simp only [Act.put, List.setIfInBounds_toArray, List.set_cons_zero, List.set_cons_succ, List.getElem_toArray, List.getElem_cons_succ, List.getElem_cons_zero]
              refine wpAnyH_ready (rs := [15]) (by kernel_rfl) (by simp) (AllReadyH.cons rfl (fun K hK => ?a43_15) AllReadyH.nil)
              case' a43_15 =>
                go_simp
                have cc := Y.out.cell
                have cf := Y.out.frozen
                go_simp
                have Y := hid (((((((Y.out.set 0 (.int .i64 0)).set 1 (.int .i64 0)).set 2 (.int .i64 0)).set 3 (.int .i64 0)).set 4 (.pointer none)).set 5 (.int .i64 1)).set 6 (.pointer none))
                have X := hid (((((((X.out.other (p := ⟨pY, 0, none⟩) (by show ¬ pX = pY; omega) (.int .i64 0)).other (p := ⟨pY, 1, none⟩) (by show ¬ pX = pY; omega) (.int .i64 0)).other (p := ⟨pY, 2, none⟩) (by show ¬ pX = pY; omega) (.int .i64 0)).other (p := ⟨pY, 3, none⟩) (by show ¬ pX = pY; omega) (.int .i64 0)).other (p := ⟨pY, 4, none⟩) (by show ¬ pX = pY; omega) (.pointer none)).other (p := ⟨pY, 5, none⟩) (by show ¬ pX = pY; omega) (.int .i64 1)).other (p := ⟨pY, 6, none⟩) (by show ¬ pX = pY; omega) (.pointer none))
                simp only [List.set_cons_zero, List.set_cons_succ] at Y
                have hSn : Below w.heap.size w (((((((wc5.setCell ⟨pY, 0, none⟩ (.int .i64 0)).setCell ⟨pY, 1, none⟩ (.int .i64 0)).setCell ⟨pY, 2, none⟩ (.int .i64 0)).setCell ⟨pY, 3, none⟩ (.int .i64 0)).setCell ⟨pY, 4, none⟩ (.pointer none)).setCell ⟨pY, 5, none⟩ (.int .i64 1)).setCell ⟨pY, 6, none⟩ (.pointer none)) := (bl_put (bl_put (bl_put (bl_put (bl_put (bl_put (bl_put hS (p := ⟨pY, 0, none⟩) (.int .i64 0) qY) (p := ⟨pY, 1, none⟩) (.int .i64 0) qY) (p := ⟨pY, 2, none⟩) (.int .i64 0) qY) (p := ⟨pY, 3, none⟩) (.int .i64 0) qY) (p := ⟨pY, 4, none⟩) (.pointer none) qY) (p := ⟨pY, 5, none⟩) (.int .i64 1) qY) (p := ⟨pY, 6, none⟩) (.pointer none) qY)
                generalize (((((((wc5.setCell ⟨pY, 0, none⟩ (.int .i64 0)).setCell ⟨pY, 1, none⟩ (.int .i64 0)).setCell ⟨pY, 2, none⟩ (.int .i64 0)).setCell ⟨pY, 3, none⟩ (.int .i64 0)).setCell ⟨pY, 4, none⟩ (.pointer none)).setCell ⟨pY, 5, none⟩ (.int .i64 1)).setCell ⟨pY, 6, none⟩ (.pointer none)) = wc6 at Y hSn X ⊢
                clear cc cf
                refine hK.out _ _ (hSn) (fun hSn => ?_)
                clear hK K hS
                have hS := hSn
                clear hSn
                try simp only [Act.put, List.setIfInBounds_toArray, List.set_cons_zero, List.set_cons_succ, List.getElem_toArray, List.getElem_cons_succ, List.getElem_cons_zero]
                refine wpAnyH_done (by kernel_rfl) ?_ _
      case' a36_12 =>
        go_simp
        have X : Hid (Arr (wc1.alloc (.cells #[.int .i64 0, .int .i64 0, .int .i64 0, .int .i64 0, .pointer none, .int .i64 0, .pointer none] FT)) wc1.heap.size FT [.int .i64 0, .int .i64 0, .int .i64 0, .int .i64 0, .pointer none, .int .i64 0, .pointer none]) := ⟨heap_alloc_at _ _⟩
        have hbn : Below wc1.heap.size wc1 (wc1.alloc (.cells #[.int .i64 0, .int .i64 0, .int .i64 0, .int .i64 0, .pointer none, .int .i64 0, .pointer none] FT)) := bl_alloc (Below.refl _ _) _
        have hSn := bl_on hS hbn
        have nXY : ¬ pY = wc1.heap.size := by have := Y.out.lt; omega
        have Y := hid (Y.out.stays hbn)
        generalize hwn : wc1.alloc (.cells #[.int .i64 0, .int .i64 0, .int .i64 0, .int .i64 0, .pointer none, .int .i64 0, .pointer none] FT) = wc2 at X hSn Y ⊢
        have qX : w.heap.size ≤ wc1.heap.size := hS.size
        generalize hpX : wc1.heap.size = pX at X qX nXY ⊢
        clear hbn hwn hpX
        refine hK.out _ _ (hSn) (fun hSn => ?_)
        clear hK K hS
        have hS := hSn
        clear hSn
        try simp only [Act.put, List.setIfInBounds_toArray, List.set_cons_zero, List.set_cons_succ, List.getElem_toArray, List.getElem_cons_succ, List.getElem_cons_zero]
        refine wpAnyH_ready (rs := [5]) (by kernel_rfl) (by simp) (AllReadyH.cons rfl (fun K hK => ?a44_5) AllReadyH.nil)
        case' a44_5 =>
          go_simp
          refine (h1.out wc2 hS).mono ?_
          rintro e wc3 ⟨rfl, hb⟩
          have Y := hid (Y.out.stays hb)
          have X := hid (X.out.stays hb)
          refine hK.out _ _ (bl_on hS hb) (fun hSn => ?_)
          clear hK K hS
          have hS := hSn
          clear hSn
          try simp only [Act.put, List.setIfInBounds_toArray, List.set_cons_zero, List.set_cons_succ, List.getElem_toArray, List.getElem_cons_succ, List.getElem_cons_zero]
          clear hb
          refine wpAnyH_ready (rs := [11]) (by kernel_rfl) (by simp) (AllReadyH.cons rfl (fun K hK => ?a45_11) AllReadyH.nil)
          case' a45_11 =>
            go_simp
            refine (h0.out wc3 hS).mono ?_
            rintro e wc4 ⟨rfl, hb⟩
            have Y := hid (Y.out.stays hb)
            have X := hid (X.out.stays hb)
            refine hK.out _ _ (bl_on hS hb) (fun hSn => ?_)
            clear hK K hS
            have hS := hSn
            clear hSn
            try simp only [Act.put, List.setIfInBounds_toArray, List.set_cons_zero, List.set_cons_succ, List.getElem_toArray, List.getElem_cons_succ, List.getElem_cons_zero]
            clear hb
            refine wpAnyH_ready (rs := [14]) (by kernel_rfl) (by simp) (AllReadyH.cons rfl (fun K hK => ?a46_14) AllReadyH.nil)
            case' a46_14 =>
              go_simp
              have cc := X.out.cell
              have cf := X.out.frozen
              go_simp
              have X := hid (((((((X.out.set 0 (.int .i64 1)).set 1 (.int .i64 0)).set 2 (.int .i64 1)).set 3 (.int .i64 1)).set 4 (.pointer none)).set 5 (.int .i64 1)).set 6 (.pointer none))
              have Y := hid (((((((Y.out.other (p := ⟨pX, 0, none⟩) (by show ¬ pY = pX; omega) (.int .i64 1)).other (p := ⟨pX, 1, none⟩) (by show ¬ pY = pX; omega) (.int .i64 0)).other (p := ⟨pX, 2, none⟩) (by show ¬ pY = pX; omega) (.int .i64 1)).other (p := ⟨pX, 3, none⟩) (by show ¬ pY = pX; omega) (.int .i64 1)).other (p := ⟨pX, 4, none⟩) (by show ¬ pY = pX; omega) (.pointer none)).other (p := ⟨pX, 5, none⟩) (by show ¬ pY = pX; omega) (.int .i64 1)).other (p := ⟨pX, 6, none⟩) (by show ¬ pY = pX; omega) (.pointer none))
              simp only [List.set_cons_zero, List.set_cons_succ] at X
              have hSn : Below w.heap.size w (((((((wc4.setCell ⟨pX, 0, none⟩ (.int .i64 1)).setCell ⟨pX, 1, none⟩ (.int .i64 0)).setCell ⟨pX, 2, none⟩ (.int .i64 1)).setCell ⟨pX, 3, none⟩ (.int .i64 1)).setCell ⟨pX, 4, none⟩ (.pointer none)).setCell ⟨pX, 5, none⟩ (.int .i64 1)).setCell ⟨pX, 6, none⟩ (.pointer none)) := (bl_put (bl_put (bl_put (bl_put (bl_put (bl_put (bl_put hS (p := ⟨pX, 0, none⟩) (.int .i64 1) qX) (p := ⟨pX, 1, none⟩) (.int .i64 0) qX) (p := ⟨pX, 2, none⟩) (.int .i64 1) qX) (p := ⟨pX, 3, none⟩) (.int .i64 1) qX) (p := ⟨pX, 4, none⟩) (.pointer none) qX) (p := ⟨pX, 5, none⟩) (.int .i64 1) qX) (p := ⟨pX, 6, none⟩) (.pointer none) qX)
              generalize (((((((wc4.setCell ⟨pX, 0, none⟩ (.int .i64 1)).setCell ⟨pX, 1, none⟩ (.int .i64 0)).setCell ⟨pX, 2, none⟩ (.int .i64 1)).setCell ⟨pX, 3, none⟩ (.int .i64 1)).setCell ⟨pX, 4, none⟩ (.pointer none)).setCell ⟨pX, 5, none⟩ (.int .i64 1)).setCell ⟨pX, 6, none⟩ (.pointer none)) = wc5 at X hSn Y ⊢
              clear cc cf
              refine hK.out _ _ (hSn) (fun hSn => ?_)
              clear hK K hS
              have hS := hSn
              clear hSn
              try simp only [Act.put, List.setIfInBounds_toArray, List.set_cons_zero, List.set_cons_succ, List.getElem_toArray, List.getElem_cons_succ, List.getElem_cons_zero]
              refine wpAnyH_ready (rs := [15]) (by kernel_rfl) (by simp) (AllReadyH.cons rfl (fun K hK => ?a47_15) AllReadyH.nil)
              case' a47_15 =>
                go_simp
                have cc := Y.out.cell
                have cf := Y.out.frozen
                go_simp
                have Y := hid (((((((Y.out.set 0 (.int .i64 0)).set 1 (.int .i64 0)).set 2 (.int .i64 0)).set 3 (.int .i64 0)).set 4 (.pointer none)).set 5 (.int .i64 1)).set 6 (.pointer none))
                have X := hid (((((((X.out.other (p := ⟨pY, 0, none⟩) (by show ¬ pX = pY; omega) (.int .i64 0)).other (p := ⟨pY, 1, none⟩) (by show ¬ pX = pY; omega) (.int .i64 0)).other (p := ⟨pY, 2, none⟩) (by show ¬ pX = pY; omega) (.int .i64 0)).other (p := ⟨pY, 3, none⟩) (by show ¬ pX = pY; omega) (.int .i64 0)).other (p := ⟨pY, 4, none⟩) (by show ¬ pX = pY; omega) (.pointer none)).other (p := ⟨pY, 5, none⟩) (by show ¬ pX = pY; omega) (.int .i64 1)).other (p := ⟨pY, 6, none⟩) (by show ¬ pX = pY; omega) (.pointer none))
                simp only [List.set_cons_zero, List.set_cons_succ] at Y
                have hSn : Below w.heap.size w (((((((wc5.setCell ⟨pY, 0, none⟩ (.int .i64 0)).setCell ⟨pY, 1, none⟩ (.int .i64 0)).setCell ⟨pY, 2, none⟩ (.int .i64 0)).setCell ⟨pY, 3, none⟩ (.int .i64 0)).setCell ⟨pY, 4, none⟩ (.pointer none)).setCell ⟨pY, 5, none⟩ (.int .i64 1)).setCell ⟨pY, 6, none⟩ (.pointer none)) := (bl_put (bl_put (bl_put (bl_put (bl_put (bl_put (bl_put hS (p := ⟨pY, 0, none⟩) (.int .i64 0) qY) (p := ⟨pY, 1, none⟩) (.int .i64 0) qY) (p := ⟨pY, 2, none⟩) (.int .i64 0) qY) (p := ⟨pY, 3, none⟩) (.int .i64 0) qY) (p := ⟨pY, 4, none⟩) (.pointer none) qY) (p := ⟨pY, 5, none⟩) (.int .i64 1) qY) (p := ⟨pY, 6, none⟩) (.pointer none) qY)
                generalize (((((((wc5.setCell ⟨pY, 0, none⟩ (.int .i64 0)).setCell ⟨pY, 1, none⟩ (.int .i64 0)).setCell ⟨pY, 2, none⟩ (.int .i64 0)).setCell ⟨pY, 3, none⟩ (.int .i64 0)).setCell ⟨pY, 4, none⟩ (.pointer none)).setCell ⟨pY, 5, none⟩ (.int .i64 1)).setCell ⟨pY, 6, none⟩ (.pointer none)) = wc6 at Y hSn X ⊢
                clear cc cf
                refine hK.out _ _ (hSn) (fun hSn => ?_)
                clear hK K hS
                have hS := hSn
                clear hSn
                try simp only [Act.put, List.setIfInBounds_toArray, List.set_cons_zero, List.set_cons_succ, List.getElem_toArray, List.getElem_cons_succ, List.getElem_cons_zero]
                refine wpAnyH_done (by kernel_rfl) ?_ _

    all_goals (
      go_wp2_with fail
      go_meet
      exact ⟨pX, pY, rfl, rfl, by omega, ⟨by omega, by omega⟩, X, Y, hS⟩)
  case rest =>
    obtain ⟨pX, pY, rfl, rfl, hXY, hge, X, Y, hb⟩ := hcut
    clear h1 h0 B3 j0 hfd
    have HJ := hid (HH.out.stays hb.out)
    have qX : Hid (∀ wz, Below wc.heap.size wc wz → ∀ j, wz.cell? ⟨pX, j, none⟩ = [.int .i64 1, .int .i64 0, .int .i64 1, .int .i64 1, .pointer none, .int .i64 1, .pointer none][j]?) := fun wz hz => (X.out.stays hz).cell
    have qY : Hid (∀ wz, Below wc.heap.size wc wz → ∀ j, wz.cell? ⟨pY, j, none⟩ = [.int .i64 0, .int .i64 0, .int .i64 0, .int .i64 0, .pointer none, .int .i64 1, .pointer none][j]?) := fun wz hz => (Y.out.stays hz).cell
    have qJ2 : Hid (∀ wz, Below wc.heap.size wc wz → wz.cell? ⟨J, 0, none⟩ = some (.pointer (some ⟨S, 0, none⟩))) := fun wz hz => (HJ.out.jn.stays hz).cell 0
    have hst : Hid (∀ wz, Below wc.heap.size wc wz → Calls Try.prog 62 #[.pointer (some ⟨S, 0, none⟩), .agg #[.int .i64 0, .int .i64 0, .int .i64 0, .int .i64 0, .pointer none, .int .i64 1, .pointer none]] wz fun e w' => e = .returned (.bool false) ∧ Below wz.heap.size wz w') := fun wz hz => strange_no wz S g cap mv none none more (HJ.out.sto.stays hz) 0 0 0 0 1 none none (by decide)
    have hme : Hid (∀ wz, Below wc.heap.size wc wz → Calls Try.prog 80 #[.pointer (some ⟨J, 0, none⟩), .int .i64 1, .int .i64 0] wz fun e w' => e = .returned (.tuple #[]) ∧ (((∃ (q0 q1 : Nat) (cv' : Value), Jn w' J S g cap mv (some ⟨q0, 0, none⟩) (some ⟨q1, 0, none⟩) more cv' 2 ∧ Arr w' q1 FT [.int .i64 1, .int .i64 1, .int .i64 0, .int .i64 1, .pointer none, .int .i64 1, .pointer none] ∧ Arr w' q0 FT [.int .i64 1, .int .i64 0, .int .i64 0, .int .i64 0, .pointer none, .int .i64 0, .pointer none] ∧ w.heap.size ≤ q0 ∧ w.heap.size ≤ q1) ∧ Fr J g (.slice none 0 0) w w') ∧ Arr w' pX FT [.int .i64 1, .int .i64 0, .int .i64 1, .int .i64 1, .pointer none, .int .i64 1, .pointer none] ∧ Arr w' pY FT [.int .i64 0, .int .i64 0, .int .i64 0, .int .i64 0, .pointer none, .int .i64 1, .pointer none])) := by
      intro wz hz
      refine (merge_open wz J S g cap mv more (HJ.out.stays hz)).mono ?_
      rintro e w' ⟨rfl, ⟨q0, q1, cv', k1, k2, k3, k4, k5⟩, k6⟩
      have hk := bl_tr hb.out hz
      have hkz := hk.size
      have hJl := HH.out.jn.lt
      have hgl := HH.out.gj
      have hg1 := hge.out.1
      have hg2 := hge.out.2
      exact ⟨rfl, ⟨⟨q0, q1, cv', k1, k2, k3, by omega, by omega⟩, k6.of_below hk⟩, k6.arr (X.out.stays hz) (by omega) (by omega) (fun e => by cases e), k6.arr (Y.out.stays hz) (by omega) (by omega) (fun e => by cases e)⟩
    have y0 := Y.out.cell
    go_upto_region 11 with fail
    refine wp_region_held_drew (S := fun wz => Below wc.heap.size wc wz) (by kernel_rfl) ((Below.refl _ _).drew) (fun hS => ?_)
    generalize wc.drew = wc0 at hS   ⊢
    refine wpAnyH_take (i := 0) (v := ?_) rfl (by kernel_rfl) (by kernel_rfl) (by kernel_rfl) (fun _ _ _ h => h) (Or.inl ⟨by rfl, ?_⟩) hS ?_
    rotate_left
    · intro wz hz; go_simp; try with_reducible rfl
    try simp only [Act.put, List.setIfInBounds_toArray, List.set_cons_zero, List.set_cons_succ, List.getElem_toArray, List.getElem_cons_succ, List.getElem_cons_zero]
    refine wpAnyH_take (i := 1) (v := ?_) rfl (by kernel_rfl) (by kernel_rfl) (by kernel_rfl) (fun _ _ _ h => h) (Or.inl ⟨by rfl, ?_⟩) hS ?_
    rotate_left
    · intro wz hz; go_simp; try with_reducible rfl
    try simp only [Act.put, List.setIfInBounds_toArray, List.set_cons_zero, List.set_cons_succ, List.getElem_toArray, List.getElem_cons_succ, List.getElem_cons_zero]
    refine wpAnyH_take (i := 2) (v := ?_) rfl (by kernel_rfl) (by kernel_rfl) (by kernel_rfl) (fun _ _ _ h => h) (Or.inl ⟨by rfl, ?_⟩) hS ?_
    rotate_left
    · intro wz hz; go_simp; try with_reducible rfl
    try simp only [Act.put, List.setIfInBounds_toArray, List.set_cons_zero, List.set_cons_succ, List.getElem_toArray, List.getElem_cons_succ, List.getElem_cons_zero]
    refine wpAnyH_take (i := 3) (v := ?_) rfl (by kernel_rfl) (by kernel_rfl) (by kernel_rfl) (fun _ _ _ h => h) (Or.inl ⟨by rfl, ?_⟩) hS ?_
    rotate_left
    · intro wz hz; have yy0 := qJ2.out wz hz; have yy1 := qY.out wz hz; go_simp; try with_reducible rfl
    try simp only [Act.put, List.setIfInBounds_toArray, List.set_cons_zero, List.set_cons_succ, List.getElem_toArray, List.getElem_cons_succ, List.getElem_cons_zero]
    refine wpAnyH_take (i := 4) (v := ?_) rfl (by kernel_rfl) (by kernel_rfl) (by kernel_rfl) (fun _ _ _ h => h) (Or.inl ⟨by rfl, ?_⟩) hS ?_
    rotate_left
    · intro wz hz; have yy0 := qJ2.out wz hz; have yy1 := qY.out wz hz; go_simp; try with_reducible rfl
    try simp only [Act.put, List.setIfInBounds_toArray, List.set_cons_zero, List.set_cons_succ, List.getElem_toArray, List.getElem_cons_succ, List.getElem_cons_zero]
    refine wpAnyH_ready (rs := [5]) (by kernel_rfl) (by simp) (AllReadyH.cons rfl (fun K hK => ?a48_5) AllReadyH.nil)
    case' a48_5 =>
      go_simp
      refine (hst.out wc0 hS).mono ?_
      rintro e wc1 ⟨rfl, hb⟩
      refine hK.out _ _ (bl_on hS hb) (fun hSn => ?_)
      clear hK K hS
      have hS := hSn
      clear hSn
      try simp only [Act.put, List.setIfInBounds_toArray, List.set_cons_zero, List.set_cons_succ, List.getElem_toArray, List.getElem_cons_succ, List.getElem_cons_zero]
      clear hb
      refine wpAnyH_take (i := 6) (v := ?_) rfl (by kernel_rfl) (by kernel_rfl) (by kernel_rfl) (fun _ _ _ h => h) (Or.inl ⟨by rfl, ?_⟩) hS ?_
      rotate_left
      · intro wz hz; go_simp; try with_reducible rfl
      try simp only [Act.put, List.setIfInBounds_toArray, List.set_cons_zero, List.set_cons_succ, List.getElem_toArray, List.getElem_cons_succ, List.getElem_cons_zero]
      refine wpAnyH_take (i := 7) (v := undef) rfl (by kernel_rfl) (by kernel_rfl) (by kernel_rfl) (fun _ _ _ h => h) (Or.inr ⟨by rfl, rfl⟩) hS ?_
      try simp only [Act.put, List.setIfInBounds_toArray, List.set_cons_zero, List.set_cons_succ, List.getElem_toArray, List.getElem_cons_succ, List.getElem_cons_zero]
      refine wpAnyH_take (i := 8) (v := undef) rfl (by kernel_rfl) (by kernel_rfl) (by kernel_rfl) (fun _ _ _ h => h) (Or.inr ⟨by rfl, rfl⟩) hS ?_
      try simp only [Act.put, List.setIfInBounds_toArray, List.set_cons_zero, List.set_cons_succ, List.getElem_toArray, List.getElem_cons_succ, List.getElem_cons_zero]
      refine wpAnyH_take (i := 9) (v := undef) rfl (by kernel_rfl) (by kernel_rfl) (by kernel_rfl) (fun _ _ _ h => h) (Or.inr ⟨by rfl, rfl⟩) hS ?_
      try simp only [Act.put, List.setIfInBounds_toArray, List.set_cons_zero, List.set_cons_succ, List.getElem_toArray, List.getElem_cons_succ, List.getElem_cons_zero]
      refine wpAnyH_take (i := 10) (v := undef) rfl (by kernel_rfl) (by kernel_rfl) (by kernel_rfl) (fun _ _ _ h => h) (Or.inr ⟨by rfl, rfl⟩) hS ?_
      try simp only [Act.put, List.setIfInBounds_toArray, List.set_cons_zero, List.set_cons_succ, List.getElem_toArray, List.getElem_cons_succ, List.getElem_cons_zero]
      refine wpAnyH_take (i := 11) (v := undef) rfl (by kernel_rfl) (by kernel_rfl) (by kernel_rfl) (fun _ _ _ h => h) (Or.inr ⟨by rfl, rfl⟩) hS ?_
      try simp only [Act.put, List.setIfInBounds_toArray, List.set_cons_zero, List.set_cons_succ, List.getElem_toArray, List.getElem_cons_succ, List.getElem_cons_zero]
      refine wpAnyH_take (i := 12) (v := undef) rfl (by kernel_rfl) (by kernel_rfl) (by kernel_rfl) (fun _ _ _ h => h) (Or.inr ⟨by rfl, rfl⟩) hS ?_
      try simp only [Act.put, List.setIfInBounds_toArray, List.set_cons_zero, List.set_cons_succ, List.getElem_toArray, List.getElem_cons_succ, List.getElem_cons_zero]
      refine wpAnyH_take (i := 13) (v := undef) rfl (by kernel_rfl) (by kernel_rfl) (by kernel_rfl) (fun _ _ _ h => h) (Or.inr ⟨by rfl, rfl⟩) hS ?_
      try simp only [Act.put, List.setIfInBounds_toArray, List.set_cons_zero, List.set_cons_succ, List.getElem_toArray, List.getElem_cons_succ, List.getElem_cons_zero]
      refine wpAnyH_take (i := 14) (v := undef) rfl (by kernel_rfl) (by kernel_rfl) (by kernel_rfl) (fun _ _ _ h => h) (Or.inr ⟨by rfl, rfl⟩) hS ?_
      try simp only [Act.put, List.setIfInBounds_toArray, List.set_cons_zero, List.set_cons_succ, List.getElem_toArray, List.getElem_cons_succ, List.getElem_cons_zero]
      refine wpAnyH_take (i := 15) (v := undef) rfl (by kernel_rfl) (by kernel_rfl) (by kernel_rfl) (fun _ _ _ h => h) (Or.inr ⟨by rfl, rfl⟩) hS ?_
      try simp only [Act.put, List.setIfInBounds_toArray, List.set_cons_zero, List.set_cons_succ, List.getElem_toArray, List.getElem_cons_succ, List.getElem_cons_zero]
      refine wpAnyH_take (i := 16) (v := undef) rfl (by kernel_rfl) (by kernel_rfl) (by kernel_rfl) (fun _ _ _ h => h) (Or.inr ⟨by rfl, rfl⟩) hS ?_
      try simp only [Act.put, List.setIfInBounds_toArray, List.set_cons_zero, List.set_cons_succ, List.getElem_toArray, List.getElem_cons_succ, List.getElem_cons_zero]
      refine wpAnyH_take (i := 17) (v := undef) rfl (by kernel_rfl) (by kernel_rfl) (by kernel_rfl) (fun _ _ _ h => h) (Or.inr ⟨by rfl, rfl⟩) hS ?_
      try simp only [Act.put, List.setIfInBounds_toArray, List.set_cons_zero, List.set_cons_succ, List.getElem_toArray, List.getElem_cons_succ, List.getElem_cons_zero]
      refine wpAnyH_take (i := 18) (v := ?_) rfl (by kernel_rfl) (by kernel_rfl) (by kernel_rfl) (fun _ _ _ h => h) (Or.inl ⟨by rfl, ?_⟩) hS ?_
      rotate_left
      · intro wz hz; go_simp; try with_reducible rfl
      try simp only [Act.put, List.setIfInBounds_toArray, List.set_cons_zero, List.set_cons_succ, List.getElem_toArray, List.getElem_cons_succ, List.getElem_cons_zero]
      refine wpAnyH_take (i := 19) (v := ?_) rfl (by kernel_rfl) (by kernel_rfl) (by kernel_rfl) (fun _ _ _ h => h) (Or.inl ⟨by rfl, ?_⟩) hS ?_
      rotate_left
      · intro wz hz; go_simp; try with_reducible rfl
      try simp only [Act.put, List.setIfInBounds_toArray, List.set_cons_zero, List.set_cons_succ, List.getElem_toArray, List.getElem_cons_succ, List.getElem_cons_zero]
      refine wpAnyH_done (by kernel_rfl) ?_ _
    go_upto_region 12 with fail
    refine wp_region_held_drew (S := fun wz => Below wc.heap.size wc wz) (by kernel_rfl) (hS.drew) (fun hS => ?_)
    generalize wc1.drew = wc0 at hS   ⊢
    refine wpAnyH_take (i := 0) (v := ?_) rfl (by kernel_rfl) (by kernel_rfl) (by kernel_rfl) (fun _ _ _ h => h) (Or.inl ⟨by rfl, ?_⟩) hS ?_
    rotate_left
    · intro wz hz; go_simp; try with_reducible rfl
    try simp only [Act.put, List.setIfInBounds_toArray, List.set_cons_zero, List.set_cons_succ, List.getElem_toArray, List.getElem_cons_succ, List.getElem_cons_zero]
    refine wpAnyH_take (i := 1) (v := ?_) rfl (by kernel_rfl) (by kernel_rfl) (by kernel_rfl) (fun _ _ _ h => h) (Or.inl ⟨by rfl, ?_⟩) hS ?_
    rotate_left
    · intro wz hz; have yy0 := qX.out wz hz; go_simp; try with_reducible rfl
    try simp only [Act.put, List.setIfInBounds_toArray, List.set_cons_zero, List.set_cons_succ, List.getElem_toArray, List.getElem_cons_succ, List.getElem_cons_zero]
    refine wpAnyH_take (i := 2) (v := ?_) rfl (by kernel_rfl) (by kernel_rfl) (by kernel_rfl) (fun _ _ _ h => h) (Or.inl ⟨by rfl, ?_⟩) hS ?_
    rotate_left
    · intro wz hz; go_simp; try with_reducible rfl
    try simp only [Act.put, List.setIfInBounds_toArray, List.set_cons_zero, List.set_cons_succ, List.getElem_toArray, List.getElem_cons_succ, List.getElem_cons_zero]
    refine wpAnyH_take (i := 3) (v := ?_) rfl (by kernel_rfl) (by kernel_rfl) (by kernel_rfl) (fun _ _ _ h => h) (Or.inl ⟨by rfl, ?_⟩) hS ?_
    rotate_left
    · intro wz hz; go_simp; try with_reducible rfl
    try simp only [Act.put, List.setIfInBounds_toArray, List.set_cons_zero, List.set_cons_succ, List.getElem_toArray, List.getElem_cons_succ, List.getElem_cons_zero]
    refine wpAnyH_take (i := 4) (v := undef) rfl (by kernel_rfl) (by kernel_rfl) (by kernel_rfl) (fun _ _ _ h => h) (Or.inr ⟨by rfl, rfl⟩) hS ?_
    try simp only [Act.put, List.setIfInBounds_toArray, List.set_cons_zero, List.set_cons_succ, List.getElem_toArray, List.getElem_cons_succ, List.getElem_cons_zero]
    refine wpAnyH_take (i := 5) (v := undef) rfl (by kernel_rfl) (by kernel_rfl) (by kernel_rfl) (fun _ _ _ h => h) (Or.inr ⟨by rfl, rfl⟩) hS ?_
    try simp only [Act.put, List.setIfInBounds_toArray, List.set_cons_zero, List.set_cons_succ, List.getElem_toArray, List.getElem_cons_succ, List.getElem_cons_zero]
    refine wpAnyH_take (i := 6) (v := undef) rfl (by kernel_rfl) (by kernel_rfl) (by kernel_rfl) (fun _ _ _ h => h) (Or.inr ⟨by rfl, rfl⟩) hS ?_
    try simp only [Act.put, List.setIfInBounds_toArray, List.set_cons_zero, List.set_cons_succ, List.getElem_toArray, List.getElem_cons_succ, List.getElem_cons_zero]
    refine wpAnyH_take (i := 7) (v := undef) rfl (by kernel_rfl) (by kernel_rfl) (by kernel_rfl) (fun _ _ _ h => h) (Or.inr ⟨by rfl, rfl⟩) hS ?_
    try simp only [Act.put, List.setIfInBounds_toArray, List.set_cons_zero, List.set_cons_succ, List.getElem_toArray, List.getElem_cons_succ, List.getElem_cons_zero]
    refine wpAnyH_take (i := 8) (v := undef) rfl (by kernel_rfl) (by kernel_rfl) (by kernel_rfl) (fun _ _ _ h => h) (Or.inr ⟨by rfl, rfl⟩) hS ?_
    try simp only [Act.put, List.setIfInBounds_toArray, List.set_cons_zero, List.set_cons_succ, List.getElem_toArray, List.getElem_cons_succ, List.getElem_cons_zero]
    refine wpAnyH_take (i := 9) (v := undef) rfl (by kernel_rfl) (by kernel_rfl) (by kernel_rfl) (fun _ _ _ h => h) (Or.inr ⟨by rfl, rfl⟩) hS ?_
    try simp only [Act.put, List.setIfInBounds_toArray, List.set_cons_zero, List.set_cons_succ, List.getElem_toArray, List.getElem_cons_succ, List.getElem_cons_zero]
    refine wpAnyH_take (i := 10) (v := undef) rfl (by kernel_rfl) (by kernel_rfl) (by kernel_rfl) (fun _ _ _ h => h) (Or.inr ⟨by rfl, rfl⟩) hS ?_
    try simp only [Act.put, List.setIfInBounds_toArray, List.set_cons_zero, List.set_cons_succ, List.getElem_toArray, List.getElem_cons_succ, List.getElem_cons_zero]
    refine wpAnyH_take (i := 11) (v := undef) rfl (by kernel_rfl) (by kernel_rfl) (by kernel_rfl) (fun _ _ _ h => h) (Or.inr ⟨by rfl, rfl⟩) hS ?_
    try simp only [Act.put, List.setIfInBounds_toArray, List.set_cons_zero, List.set_cons_succ, List.getElem_toArray, List.getElem_cons_succ, List.getElem_cons_zero]
    refine wpAnyH_take (i := 12) (v := undef) rfl (by kernel_rfl) (by kernel_rfl) (by kernel_rfl) (fun _ _ _ h => h) (Or.inr ⟨by rfl, rfl⟩) hS ?_
    try simp only [Act.put, List.setIfInBounds_toArray, List.set_cons_zero, List.set_cons_succ, List.getElem_toArray, List.getElem_cons_succ, List.getElem_cons_zero]
    refine wpAnyH_take (i := 13) (v := undef) rfl (by kernel_rfl) (by kernel_rfl) (by kernel_rfl) (fun _ _ _ h => h) (Or.inr ⟨by rfl, rfl⟩) hS ?_
    try simp only [Act.put, List.setIfInBounds_toArray, List.set_cons_zero, List.set_cons_succ, List.getElem_toArray, List.getElem_cons_succ, List.getElem_cons_zero]
    refine wpAnyH_take (i := 14) (v := ?_) rfl (by kernel_rfl) (by kernel_rfl) (by kernel_rfl) (fun _ _ _ h => h) (Or.inl ⟨by rfl, ?_⟩) hS ?_
    rotate_left
    · intro wz hz; go_simp; try with_reducible rfl
    try simp only [Act.put, List.setIfInBounds_toArray, List.set_cons_zero, List.set_cons_succ, List.getElem_toArray, List.getElem_cons_succ, List.getElem_cons_zero]
    refine wpAnyH_take (i := 15) (v := ?_) rfl (by kernel_rfl) (by kernel_rfl) (by kernel_rfl) (fun _ _ _ h => h) (Or.inl ⟨by rfl, ?_⟩) hS ?_
    rotate_left
    · intro wz hz; go_simp; try with_reducible rfl
    try simp only [Act.put, List.setIfInBounds_toArray, List.set_cons_zero, List.set_cons_succ, List.getElem_toArray, List.getElem_cons_succ, List.getElem_cons_zero]
    refine wpAnyH_done (by kernel_rfl) ?_ _
    have x2 := qX.out _ hS
    go_wp2_with (go_at_call 80; refine (hme.out _ hS).mono ?_; rintro e w9 ⟨rfl, hk, hx, hy⟩; have HK := hid hk; have x9 := hx.cell; have y9 := hy.cell; clear hk hx hy)
    go_ret
    exact ⟨rfl, HK.out.1, HK.out.2⟩
end Go.Proofs.Ytknlpeloaapaiaa
