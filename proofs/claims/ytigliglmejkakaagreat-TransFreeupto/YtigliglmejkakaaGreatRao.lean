/- The program's Con. Labels: names.Cmp, sorting, and what is no repetition. The labels of alive's structure, in order. -/
import Derived.Lib.OwnBridge
import Derived.Shelf.SlSortCmp.NoneTotal
import Derived.Lib.SlicesCompact
import Derived.LoopN
import Derived.Laws.EntriesVeiled
import Derived.Test.YtigliglmejkakaaGreatRan
import Derived.Test.YtigliglmejkakaaGreatRae
import Derived.Test.YtigliglmejkakaaGreatRaf
namespace Go.Proofs.YtigliglmejkakaaGreat
open Go.RowKit
set_option linter.unusedVariables false
set_option linter.unusedSimpArgs false

theorem okC_eq (s : Int) (c : Ct) : okC s c = (okCs c && decide (0 ≤ s ∧ s ≤ 2147483647)) := by
  unfold okC okCs
  cases decide (c.args.length ≤ 1) <;> cases decide (0 ≤ s ∧ s ≤ 2147483647) <;> cases c.args.all Tp.okT <;> rfl
theorem conT_eq (s : Int) (c : Ct) (h : c.args ≠ []) : conT s c = .mk 4 0 [] [sumK c, .mk 6 s [] []] := by
  unfold conT sumK
  cases hc : c.args with
  | nil => exact absurd hc h
  | cons x r => rfl
theorem conT_nil (s : Int) (c : Ct) (h : c.args = []) : conT s c = .mk 6 s [] [] := by unfold conT; rw [h]

set_option maxHeartbeats 4000000 in
set_option maxRecDepth 100000 in
theorem Con_any (w : World) (n : Nat) (s : Int) (vs : List Value) (c : Ct) (h : CtAt w Any n vs c) (hcnt : Tp.cntL c.args ≤ 1048576) : Calls Tryz.prog 131 #[.int .i64 s, .agg vs.toArray] w fun e w' => TtAns2 (okC s c) (conT s c) w e w' ∧ Below w.heap.size w w' := by
  obtain ⟨ga, gc, rfl, -⟩ := h.form
  have hq := fun wz (hz : Below w.heap.size w wz) => argument_any wz n _ c (h.below hz) hcnt
  have HB2 : Hid (Below w.heap.size w ((w.alloc (.cells #[.string c.nm, .slice ga c.args.length gc] 125)).alloc (.cells #[.int .i64 0, .int .i64 0, .slice none 0 0, .slice none 0 0] 28))) := bl_alloc (bl_alloc (Below.refl _ _) _) _
  have X2 : Hid (Arr ((w.alloc (.cells #[.string c.nm, .slice ga c.args.length gc] 125)).alloc (.cells #[.int .i64 0, .int .i64 0, .slice none 0 0, .slice none 0 0] 28)) w.heap.size 125 [.string c.nm, .slice ga c.args.length gc]) := Arr.stays ⟨heap_alloc_at _ _⟩ (bl_alloc (Below.refl _ _) _)
  have Y2 : Hid (Arr ((w.alloc (.cells #[.string c.nm, .slice ga c.args.length gc] 125)).alloc (.cells #[.int .i64 0, .int .i64 0, .slice none 0 0, .slice none 0 0] 28)) (w.heap.size + 1) 28 [.int .i64 0, .int .i64 0, .slice none 0 0, .slice none 0 0]) := ⟨by have := heap_alloc_at (w.alloc (.cells #[.string c.nm, .slice ga c.args.length gc] 125)) (.cells #[.int .i64 0, .int .i64 0, .slice none 0 0, .slice none 0 0] 28); rw [size_alloc] at this; exact this⟩
  have HSS : Hid (∀ (W : World) i u, Below w.heap.size w W → Below w.heap.size w (W.setCell ⟨w.heap.size + 1, i, none⟩ u)) := fun W i u h => bl_set _ _ h (by show _ ≤ w.heap.size + 1; omega)
  have HZ2 : Hid (((w.alloc (.cells #[.string c.nm, .slice ga c.args.length gc] 125)).alloc (.cells #[.int .i64 0, .int .i64 0, .slice none 0 0, .slice none 0 0] 28)).heap.size = w.heap.size + 2) := by show _ = _; rw [size_alloc, size_alloc]
  have HFi : Hid (∀ wz, Calls Tryz.prog 50 #[.int .i64 s] wz fun e w' => e = .returned (.bool (decide (0 ≤ s ∧ s ≤ 2147483647))) ∧ w' = wz) := fun wz => fits_any wz s
  have hargm : c.args.length ≤ 1048576 := by have := Tp.cntL_len c.args; omega
  have hOK := okC_eq s c
  clear h
  by_cases hs : 0 ≤ s ∧ s ≤ 2147483647
  · rw [decide_eq_true hs] at HFi hOK
    rw [Bool.and_true] at hOK
    cases hos : okCs c with
    | false =>
      have HQ : Hid (Calls Tryz.prog 89 #[.agg #[.string c.nm, .slice ga c.args.length gc]] ((w.alloc (.cells #[.string c.nm, .slice ga c.args.length gc] 125)).alloc (.cells #[.int .i64 0, .int .i64 0, .slice none 0 0, .slice none 0 0] 28)) fun e w' => e = .returned (.tuple #[.agg #[.int .i64 0, .int .i64 0, .slice none 0 0, .slice none 0 0], .int .i64 1]) ∧ Below ((w.alloc (.cells #[.string c.nm, .slice ga c.args.length gc] 125)).alloc (.cells #[.int .i64 0, .int .i64 0, .slice none 0 0, .slice none 0 0] 28)).heap.size ((w.alloc (.cells #[.string c.nm, .slice ga c.args.length gc] 125)).alloc (.cells #[.int .i64 0, .int .i64 0, .slice none 0 0, .slice none 0 0] 28)) w') := (hq _ HB2.out).mono fun e w' ⟨h1, h2⟩ => ⟨h1.resolve_left (fun h => by have := h.1; rw [hos] at this; cases this) |>.2, h2⟩
      have HK : Hid (okC s c = false) := by show _ = _; rw [hOK, hos]
      clear hq hos hOK hcnt
      go_enter Tryz.func131, Tryz.ntmps131
      go_wp2_with (first | (go_at_call 50; refine (HFi.out _).mono ?_; rintro e w2 ⟨rfl, hw⟩; rw [hw]; clear hw w2) | (go_at_call 89; refine HQ.out.mono ?_; rintro e w4 ⟨rfl, b4⟩; have HB4 := hid (bl_tr HB2.out b4); have y4 := fun o => ((Y2.out.stays b4).stays (bl_alloc (Below.refl _ _) o)).cell; have z4 := fun o => ((Y2.out.stays b4).stays (bl_alloc (Below.refl _ _) o)).frozen; clear b4))
      refine bodyPost_ret (v := .tuple #[.agg #[.int .i64 0, .int .i64 0, .slice none 0 0, .slice none 0 0], .int .i64 1]) (by rw [results_cell2t (fn := Tryz.f131) (p := 4) (a := 5) (ty := 28) (by kernel_rfl)]; simp [go_sem, y4, z4]) rfl ?_
      exact ⟨.inr ⟨HK.out, rfl⟩, HSS.out _ _ _ (HSS.out _ _ _ (HSS.out _ _ _ (HSS.out _ _ _ (bl_alloc HB4.out _))))⟩
    | true =>
      have HK : Hid (okC s c = true) := by show _ = _; rw [hOK, hos]
      have hs64 : Tgt.R64 s := ⟨by omega, by omega⟩
      have hCT := conT_eq s c
      obtain ⟨y, hy⟩ : ∃ y, sumK c = y := ⟨_, rfl⟩
      rw [hy] at hq hCT
      have HQ : Hid (Calls Tryz.prog 89 #[.agg #[.string c.nm, .slice ga c.args.length gc]] ((w.alloc (.cells #[.string c.nm, .slice ga c.args.length gc] 125)).alloc (.cells #[.int .i64 0, .int .i64 0, .slice none 0 0, .slice none 0 0] 28)) fun e w' => (∃ a4' c4' a4 c4 N4, e = .returned (.tuple #[.agg #[.int .i64 y.k, .int .i64 y.n, .slice a4' y.ls.length c4', .slice a4 y.ks.length c4], .int .i64 0]) ∧ Tgt.TAt w' (fun b => ((w.alloc (.cells #[.string c.nm, .slice ga c.args.length gc] 125)).alloc (.cells #[.int .i64 0, .int .i64 0, .slice none 0 0, .slice none 0 0] 28)).heap.size ≤ b) N4 [.int .i64 y.k, .int .i64 y.n, .slice a4' y.ls.length c4', .slice a4 y.ks.length c4] y) ∧ Below ((w.alloc (.cells #[.string c.nm, .slice ga c.args.length gc] 125)).alloc (.cells #[.int .i64 0, .int .i64 0, .slice none 0 0, .slice none 0 0] 28)).heap.size ((w.alloc (.cells #[.string c.nm, .slice ga c.args.length gc] 125)).alloc (.cells #[.int .i64 0, .int .i64 0, .slice none 0 0, .slice none 0 0] 28)) w') := (hq _ HB2.out).mono fun e w' ⟨h1, h2⟩ => ⟨(h1.resolve_right (fun h => by have := h.1; rw [hos] at this; cases this)).2, h2⟩
      have HVa : Hid (∀ wz, Calls Tryz.prog 48 #[.int .i64 s] wz fun e w' => e = .returned (.agg #[.int .i64 6, .int .i64 s, .slice none 0 0, .slice none 0 0]) ∧ Below wz.heap.size wz w') := fun wz => variable_any wz s
      clear hq hos hy hOK hcnt
      by_cases h0 : c.args = []
      · have e0 : ((c.args.length : Int) == 0) = true := by rw [h0]; rfl
        have HE := hid (conT_nil s c h0)
        clear h0 hCT
        go_enter Tryz.func131, Tryz.ntmps131
        go_wp2_with (first | (go_at_call 50; refine (HFi.out _).mono ?_; rintro e w2 ⟨rfl, hw⟩; rw [hw]; clear hw w2) | (go_at_call 89; refine HQ.out.mono ?_; rintro e w4 ⟨⟨a4', c4', a4, c4, N4, rfl, hT4⟩, b4⟩; have hb5 := bl_alloc b4 (.cells #[.int .i64 y.k, .int .i64 y.n, .slice a4' y.ls.length c4', .slice a4 y.ks.length c4] 28); have HB5 := hid (bl_tr HB2.out hb5); have HX5 := hid (X2.out.stays hb5); have HY5 := hid (Y2.out.stays hb5); have x5 := HX5.out.cell; clear b4 hT4 hb5 HQ) | (go_at_call 48; refine (HVa.out _).mono ?_; rintro e w6 ⟨rfl, b6⟩; have HB6 := hid (bl_tr HB5.out b6); have y6 := (HY5.out.stays b6).cell; have z6 := (HY5.out.stays b6).frozen; clear b6))
        refine bodyPost_ret (v := .tuple #[.agg #[.int .i64 6, .int .i64 s, .slice none 0 0, .slice none 0 0], .int .i64 0]) (by rw [results_cell2t (fn := Tryz.f131) (p := 4) (a := 5) (ty := 28) (by kernel_rfl)]; simp [go_sem, y6, z6]) rfl ?_
        rw [HE.out]
        exact ⟨.inl ⟨HK.out, none, 0, none, 0, 1, rfl, tat_leaf 6 s (⟨by omega, by omega⟩ : Tgt.R64 6) hs64⟩, HSS.out _ _ _ (HSS.out _ _ _ (HSS.out _ _ _ (HSS.out _ _ _ HB6.out)))⟩
      · have e0 : ((c.args.length : Int) == 0) = false := by rw [beq_eq_false_iff_ne]; have : c.args.length ≠ 0 := fun h => h0 (List.eq_nil_of_length_eq_zero h); omega
        have HE := hid (hCT h0)
        clear h0 hCT
        go_enter Tryz.func131, Tryz.ntmps131
        go_wp2_with (first | (go_at_call 50; refine (HFi.out _).mono ?_; rintro e w2 ⟨rfl, hw⟩; rw [hw]; clear hw w2) | (go_at_call 89; refine HQ.out.mono ?_; rintro e w4 ⟨⟨a4', c4', a4, c4, N4, rfl, hT4⟩, b4⟩; have hb5 := bl_alloc b4 (.cells #[.int .i64 y.k, .int .i64 y.n, .slice a4' y.ls.length c4', .slice a4 y.ks.length c4] 28); have HB5 := hid (bl_tr HB2.out hb5); have HX5 := hid (X2.out.stays hb5); have HY5 := hid (Y2.out.stays hb5); have x5 := HX5.out.cell; have HT5 : Hid (Tgt.TAt (w4.alloc (.cells #[.int .i64 y.k, .int .i64 y.n, .slice a4' y.ls.length c4', .slice a4 y.ks.length c4] 28)) (fun b => w.heap.size + 2 ≤ b) N4 [.int .i64 y.k, .int .i64 y.n, .slice a4' y.ls.length c4', .slice a4 y.ks.length c4] y) := (hT4.below (bl_alloc (Below.refl _ _) _)).move (Tgt.Keeps.refl _ _) (fun b hb => by have hb := hb; rw [HZ2.out] at hb; exact hb); have HS5 : Hid (w.heap.size + 2 ≤ w4.heap.size) := (by show _ ≤ _; have h9 := b4.size; rw [HZ2.out] at h9; exact h9); have A5 : Hid (Arr (w4.alloc (.cells #[.int .i64 y.k, .int .i64 y.n, .slice a4' y.ls.length c4', .slice a4 y.ks.length c4] 28)) w4.heap.size 28 [.int .i64 y.k, .int .i64 y.n, .slice a4' y.ls.length c4', .slice a4 y.ks.length c4]) := ⟨heap_alloc_at _ _⟩; clear b4 hT4 hb5 HQ))
        have HDB : Hid (Below (w4.alloc (.cells #[.int .i64 y.k, .int .i64 y.n, .slice a4' y.ls.length c4', .slice a4 y.ks.length c4] 28)).heap.size (w4.alloc (.cells #[.int .i64 y.k, .int .i64 y.n, .slice a4' y.ls.length c4', .slice a4 y.ks.length c4] 28)) (w4.alloc (.cells #[.int .i64 y.k, .int .i64 y.n, .slice a4' y.ls.length c4', .slice a4 y.ks.length c4] 28)).drew) := (Below.refl _ _).drew
        have hs0 : Hid (Arr (w4.alloc (.cells #[.int .i64 y.k, .int .i64 y.n, .slice a4' y.ls.length c4', .slice a4 y.ks.length c4] 28)).drew w4.heap.size 28 [.int .i64 y.k, .int .i64 y.n, .slice a4' y.ls.length c4', .slice a4 y.ks.length c4] ∧ Below w.heap.size w (w4.alloc (.cells #[.int .i64 y.k, .int .i64 y.n, .slice a4' y.ls.length c4', .slice a4 y.ks.length c4] 28)).drew) := ⟨A5.out.stays HDB.out, bl_tr HB5.out HDB.out⟩
        have HY5 := hid (HY5.out.stays HDB.out)
        have HT5 := hid (HT5.out.below HDB.out)
        have HZd : Hid (w.heap.size + 2 ≤ (w4.alloc (.cells #[.int .i64 y.k, .int .i64 y.n, .slice a4' y.ls.length c4', .slice a4 y.ks.length c4] 28)).drew.heap.size) := HY5.out.lt
        clear A5 HB5 HX5 x5 HDB
        refine wp_region_held_drew (S := fun wz => Arr wz w4.heap.size 28 [.int .i64 y.k, .int .i64 y.n, .slice a4' y.ls.length c4', .slice a4 y.ks.length c4] ∧ Below w.heap.size w wz) (by kernel_rfl) (hs0.out) (fun hS => ?_)
        generalize (w4.alloc (.cells #[.int .i64 y.k, .int .i64 y.n, .slice a4' y.ls.length c4', .slice a4 y.ks.length c4] 28)).drew = wd at hS HT5 HY5 HZd ⊢
        refine wpAnyH_take (i := 0) (v := ?_) rfl (by kernel_rfl) (by kernel_rfl) (by kernel_rfl) (fun _ _ _ h => h) (Or.inl ⟨by rfl, ?_⟩) hS ?_
        rotate_left
        · intro wz hz; have yy0 := hz.1.cell; go_simp; try with_reducible rfl
        try simp only [Act.put, List.setIfInBounds_toArray, List.set_cons_zero, List.set_cons_succ, List.getElem_toArray, List.getElem_cons_succ, List.getElem_cons_zero]
        refine wpAnyH_take (i := 1) (v := ?_) rfl (by kernel_rfl) (by kernel_rfl) (by kernel_rfl) (fun _ _ _ h => h) (Or.inl ⟨by rfl, ?_⟩) hS ?_
        rotate_left
        · intro wz hz; go_simp; try with_reducible rfl
        try simp only [Act.put, List.setIfInBounds_toArray, List.set_cons_zero, List.set_cons_succ, List.getElem_toArray, List.getElem_cons_succ, List.getElem_cons_zero]
        refine wpAnyH_ready (rs := [2]) (by kernel_rfl) (by simp) (AllReadyH.cons rfl (fun K hK => ?a1_2) AllReadyH.nil)
        case' a1_2 =>
          go_simp
          refine (HVa.out _).mono ?_
          rintro e w6 ⟨rfl, b6⟩
          have HT5 := hid (HT5.out.below b6)
          have HY5 := hid (HY5.out.stays b6)
          have HZ6 := hid (Nat.le_trans HZd.out b6.size)
          refine hK.out _ _ (⟨hS.1.stays b6, bl_tr hS.2 b6⟩) (fun hSn => ?_)
          clear hK K hS
          have hS := hSn
          clear hSn
          try simp only [Act.put, List.setIfInBounds_toArray, List.set_cons_zero, List.set_cons_succ, List.getElem_toArray, List.getElem_cons_succ, List.getElem_cons_zero]
          clear b6
          refine wpAnyH_ready (rs := [3]) (by kernel_rfl) (by simp) (AllReadyH.cons rfl (fun K hK => ?a2_3) AllReadyH.nil)
          case' a2_3 =>
            go_simp
            have hbo := both_any w6 (fun b => w.heap.size + 2 ≤ b) (max N4 1) 4 y (.mk 6 s [] []) a4' a4 none none c4' c4 0 0 ⟨by omega, by omega⟩ (HT5.out.le (Nat.le_max_left _ _)) ((tat_leaf 6 s (⟨by omega, by omega⟩ : Tgt.R64 6) hs64).le (Nat.le_max_right _ _)) (fun b hb => by have := HZ6.out; show _ ≤ b; omega)
            refine Calls.mono hbo ?_
            clear hbo
            rintro e w7 ⟨a7, c7, rfl, hT7, b7⟩
            have HT7 := hid hT7
            have Y7 := hid (HY5.out.stays b7)
            have y7 := Y7.out.cell
            have z7 := Y7.out.frozen
            refine hK.out _ _ (⟨hS.1.stays b7, bl_tr hS.2 b7⟩) (fun hSn => ?_)
            clear hK K hS
            have hS := hSn
            clear hSn
            try simp only [Act.put, List.setIfInBounds_toArray, List.set_cons_zero, List.set_cons_succ, List.getElem_toArray, List.getElem_cons_succ, List.getElem_cons_zero]
            clear b7 hT7 HT5 HY5
            refine wpAnyH_ready (rs := [4]) (by kernel_rfl) (by simp) (AllReadyH.cons rfl (fun K hK => ?a3_4) AllReadyH.nil)
            case' a3_4 =>
              go_simp
              refine hK.out _ _ (⟨(((hS.1.other (p := ⟨w.heap.size + 1, 0, none⟩) (by show w4.heap.size ≠ w.heap.size + 1; have := HS5.out; omega) _).other (p := ⟨w.heap.size + 1, 1, none⟩) (by show w4.heap.size ≠ w.heap.size + 1; have := HS5.out; omega) _).other (p := ⟨w.heap.size + 1, 2, none⟩) (by show w4.heap.size ≠ w.heap.size + 1; have := HS5.out; omega) _).other (p := ⟨w.heap.size + 1, 3, none⟩) (by show w4.heap.size ≠ w.heap.size + 1; have := HS5.out; omega) _, HSS.out _ _ _ (HSS.out _ _ _ (HSS.out _ _ _ (HSS.out _ _ _ hS.2)))⟩) (fun hSn => ?_)
              clear hK K hS
              have hS := hSn
              clear hSn
              try simp only [Act.put, List.setIfInBounds_toArray, List.set_cons_zero, List.set_cons_succ, List.getElem_toArray, List.getElem_cons_succ, List.getElem_cons_zero]
              refine wpAnyH_ready (rs := [5]) (by kernel_rfl) (by simp) (AllReadyH.cons rfl (fun K hK => ?a4_5) AllReadyH.nil)
              case' a4_5 =>
                go_simp
                refine hK.out _ _ (hS) (fun hSn => ?_)
                clear hK K hS
                have hS := hSn
                clear hSn
                try simp only [Act.put, List.setIfInBounds_toArray, List.set_cons_zero, List.set_cons_succ, List.getElem_toArray, List.getElem_cons_succ, List.getElem_cons_zero]
                refine wpAnyH_done (by kernel_rfl) ?_ _
        all_goals (
          go_wp2
          refine bodyPost_ret (v := .tuple #[.agg #[.int .i64 4, .int .i64 0, .slice none 0 0, .slice a7 2 c7], .int .i64 0]) (by rw [results_cell2t (fn := Tryz.f131) (p := 4) (a := 5) (ty := 28) (by kernel_rfl)]; simp [go_sem, y7, z7]) rfl ?_
          rw [HE.out]
          have hK : ∀ (W : World) i u, Tgt.Keeps (fun b => w.heap.size + 2 ≤ b) W (W.setCell ⟨w.heap.size + 1, i, none⟩ u) := fun W i u b o v hb hv => by have hb : w.heap.size + 2 ≤ b := hb; rw [World.cell?_of_block (w := W) (Below.heap_setCell _ _ _ _ (by show b ≠ w.heap.size + 1; omega))]; exact hv
          exact ⟨.inl ⟨HK.out, none, 0, a7, c7, _, rfl, HT7.out.move (((hK _ _ _).trans (hK _ _ _)).trans ((hK _ _ _).trans (hK _ _ _))) (fun b hb => by have hb : w.heap.size + 2 ≤ b := hb; show w.heap.size ≤ b; omega)⟩, hS.2⟩)
  · rw [decide_eq_false hs] at HFi hOK
    have HK : Hid (okC s c = false) := by show _ = _; rw [hOK, Bool.and_false]
    have y1 := Y2.out.cell
    have z1 := Y2.out.frozen
    clear hq hOK hs hcnt
    go_enter Tryz.func131, Tryz.ntmps131
    go_wp2_with (go_at_call 50; refine (HFi.out _).mono ?_; rintro e w2 ⟨rfl, hw⟩; rw [hw]; clear hw w2)
    refine bodyPost_ret (v := .tuple #[.agg #[.int .i64 0, .int .i64 0, .slice none 0 0, .slice none 0 0], .int .i64 1]) (by rw [results_cell2t (fn := Tryz.f131) (p := 4) (a := 5) (ty := 28) (by kernel_rfl)]; simp [go_sem, y1, z1]) rfl ?_
    exact ⟨.inr ⟨HK.out, rfl⟩, by first | exact HSS.out _ _ _ (HSS.out _ _ _ (HSS.out _ _ _ (HSS.out _ _ _ HB2.out))) | exact HB2.out⟩
end Go.Proofs.YtigliglmejkakaaGreat

namespace Go.Proofs.YtigliglmejkakaaGreat
open Go.RowKit Go.Shelf Go.Sort
set_option linter.unusedVariables false
set_option linter.unusedSimpArgs false

theorem cmp_any (a b : ByteArray) (w : World) : Calls Tryz.prog 87 #[.string a, .string b] w fun e w' => e = .returned (.int .i64 (Lib.compareBytes a.data.toList b.data.toList)) ∧ w' = w := by
  go_enter Tryz.func87, Tryz.ntmps87
  go_wp2_with (go_at_call 110; refine (Tryz.strings_Compare _ _ _).mono ?_; rintro e w' ⟨rfl, rfl⟩)
  go_ret
  exact ⟨rfl, rfl⟩
theorem lt_eq (x y : List UInt8) : ltOf Lib.compareBytes x y = decide (Lib.compareBytes x y < 0) := rfl
theorem swo_cmp : SWO (ltOf Lib.compareBytes) where
  irrefl x := by rw [lt_eq, Nm.cmp_refl]; rfl
  trans x y z h1 h2 := by
    rw [lt_eq, decide_eq_true_eq] at *
    have a : Lib.compareBytes x y = -1 := by rcases Nm.cmp_three x y with e | e | e <;> omega
    have b : Lib.compareBytes y z = -1 := by rcases Nm.cmp_three y z with e | e | e <;> omega
    rw [Nm.cmp_trans a b]; omega
  ntrans x y z h1 h2 := by
    rw [lt_eq, decide_eq_false_iff_not] at *
    have a := Nm.cmp_swap x y
    have b := Nm.cmp_swap y z
    have c := Nm.cmp_swap x z
    have := Nm.cmp_le (x := z) (y := y) (z := x) (by omega) (by omega)
    omega
theorem cmp_reads (blk off size : Nat) (w : World) : CmpReads Tryz.prog 87 #[] encStr Lib.compareBytes blk off size w := fun m os dk _ x y =>
  (cmp_any ⟨x.toArray⟩ ⟨y.toArray⟩ (sortWorld encStr w blk off m dk os)).mono fun e w' ⟨he, hw⟩ => ⟨he, 0, hw⟩
theorem sort_any (blk off cap : Nat) (d : Array (List UInt8)) (w : World) (hH : Holds encStr w blk off d) (hblk : blk < w.heap.size) (hsz : d.size < 4611686018427387904) :
    Calls Tryz.prog 109 #[.slice (some ⟨blk, off, none⟩) d.size cap, .func (.func 87) #[] #[]] w fun e w' =>
      e = .returned (.tuple #[]) ∧ ∃ d' n os, PermIn 0 d.size d d' ∧ SortedIn (ltOf Lib.compareBytes) 0 d.size d' ∧ w' = sortWorld encStr w blk off n d' os :=
  Tryz.slices_SortFunc encStr (fun _ => rfl) Lib.compareBytes swo_cmp 87 #[] blk off cap d w (enters_of Tryz.func87 (by kernel_rfl) rfl) (cmp_reads blk off d.size w).lays hH hblk hsz
theorem below_grow' {B : Nat} {a w : World} (h : Below B a w) (hB : B ≤ w.heap.size) (os : Array Obj) : Below B a (grow w os) :=
  h.trans ⟨rfl, rfl, rfl, by simp [grow], fun k hk => by
    show (w.heap ++ os)[k]? = _
    rw [Array.getElem?_append_left (by omega)]⟩
theorem sort_row (g cap n B : Nat) (d : Array (List UInt8)) (w : World) (hn : d.size = n) (hH : Holds encStr w g 0 d) (hg : g < w.heap.size) (hB : B ≤ g) (hsz : n < 4611686018427387904) :
    Calls Tryz.prog 109 #[.slice (some ⟨g, 0, none⟩) n cap, .func (.func 87) #[] #[]] w fun e w' =>
      e = .returned (.tuple #[]) ∧ ∃ zs : List (List UInt8), (zs.length = n ∧ zs.Perm d.toList ∧ (∀ i j, i < j → j < zs.length → ¬ Lib.compareBytes zs.toArray[j]! zs.toArray[i]! < 0)) ∧ Holds encStr w' g 0 zs.toArray ∧ g < w'.heap.size ∧ Below B w w' := by
  subst hn
  refine (sort_any g 0 cap d w hH hg hsz).mono ?_
  rintro e w' ⟨rfl, d', m, os, hp, hs, rfl⟩
  have hsz' : d'.size = d.size := hp.1
  refine ⟨rfl, d'.toList, ⟨by simpa using hsz', ?_, ?_⟩, holds_sortWorld encStr w g 0 m d d' os hg hH hsz', lt_sortWorld encStr w g 0 m d' os hg, ?_⟩
  · have := hp.2.2
    rwa [← hsz', Array.extract_size, hsz', Array.extract_size] at this
  · intro i j hij hj
    have h := hs i j (Nat.zero_le _) hij (by simp at hj; omega)
    rw [lt_eq, decide_eq_false_iff_not] at h
    exact h
  · unfold sortWorld
    exact below_grow' (Lib.below_putRow (Below.refl B w) hB) (by simp; show B ≤ w.heap.size; omega) os
theorem compact_row (g cap n B : Nat) (zs : List (List UInt8)) (w : World) (hn : zs.length = n) (hc : n ≤ cap) (hsz : n < 4611686018427387904) (hH : Holds encStr w g 0 zs.toArray) (hg : g < w.heap.size) (hB : B ≤ g) (hno : Lib.compact zs = zs) :
    Calls Tryz.prog 85 #[.slice (some ⟨g, 0, none⟩) n cap] w fun e w' =>
      e = .returned (.slice (some ⟨g, 0, none⟩) n cap) ∧ Holds encStr w' g 0 zs.toArray ∧ g < w'.heap.size ∧ Below B w w' := by
  subst hn
  refine (Tryz.slices_Compact_string g 0 cap zs w hH (by omega) hc).mono ?_
  rintro e w' ⟨rfl, q, rfl⟩
  rw [hno, show zs ++ List.replicate (zs.length - zs.length) [] = zs by simp]
  exact ⟨rfl, fun j hj => holds_putRow encStr (Sort.ahead w q) g 0 zs.toArray zs.toArray (fun j hj => hH j hj) rfl j hj, Nat.lt_of_lt_of_le hg (Lib.below_putRow (Below.refl 0 w) (Nat.zero_le _)).size, Lib.below_putRow (Below.refl B w) hB⟩
end Go.Proofs.YtigliglmejkakaaGreat

namespace Go.Proofs.YtigliglmejkakaaGreat
open Go.RowKit Go.Shelf Go.Sort
set_option linter.unusedVariables false
set_option linter.unusedSimpArgs false

def bO : List UInt8 := [111, 117, 116, 32, 116]
def bN : List UInt8 := [78, 105, 108, 40, 41]
def bC : List UInt8 := [67, 111, 110, 115, 40, 41]
theorem sorted3 {zs : List (List UInt8)} (h1 : zs.length = 3) (h2 : zs.Perm [bO, bN, bC]) (h3 : ∀ i j, i < j → j < zs.length → ¬ Lib.compareBytes zs.toArray[j]! zs.toArray[i]! < 0) : zs = [bC, bN, bO] := by
  match zs, h1 with
  | [a, b, c], _ =>
    have ha := h2.mem_iff.1 (show a ∈ [a, b, c] by simp)
    have hb := h2.mem_iff.1 (show b ∈ [a, b, c] by simp)
    have hc := h2.mem_iff.1 (show c ∈ [a, b, c] by simp)
    have s1 := h3 0 1 (by omega) (by simp)
    have s2 := h3 1 2 (by omega) (by simp)
    clear h3
    simp only [List.mem_cons, List.not_mem_nil, or_false] at ha hb hc
    set_option maxRecDepth 100000 in
    rcases ha with rfl | rfl | rfl <;> rcases hb with rfl | rfl | rfl <;> rcases hc with rfl | rfl | rfl <;> first | rfl | exact absurd h2 (by decide +kernel) | exact absurd s1 (by decide +kernel) | exact absurd s2 (by decide +kernel)
theorem info_str : (Tryz.prog.info? 9).map (fun i => (i.zero, i.size, i.bytes)) = some (some (.string ByteArray.empty), 1, 16) := by kernel_rfl
theorem mk3 (w : World) : (Instr.makeSlice 25 (.int .i64 3) (.int .i64 3)).run Tryz.prog w = .ok (.slice (some ⟨w.heap.size, 0, none⟩) 3 3) (w.alloc (.cells #[.string ByteArray.empty, .string ByteArray.empty, .string ByteArray.empty] 9)) := by
  obtain ⟨i, hi, hz, hs, hb⟩ := info_parts0 info_str
  have h := run_make (P := Tryz.prog) w 25 9 i _ Tryz.underlying25 hi hz .i64 .i64 3 3 (by omega) (Int.le_refl _) (by rw [hb]; omega) (by omega)
  have he : madeCells (Value.string ByteArray.empty).cells 3 = #[.string ByteArray.empty, .string ByteArray.empty, .string ByteArray.empty] := by
    apply Array.ext'
    exact toList_madeCells_one _ 3
  rw [h, hs]
  show Result.ok _ (w.alloc (Obj.cells (madeCells (Value.string ByteArray.empty).cells 3) _)) = _
  rw [he]
  rfl

set_option maxHeartbeats 1000000 in
set_option maxRecDepth 100000 in
theorem inOrder14 (w : World) (fb fo cap : Nat) (k0 k1 k2 : FuncId) (e0 e1 e2 : Array Value) (HU : ∀ wz, Below w.heap.size w wz → wz.cell? ⟨fb, fo, none⟩ = some (.string ⟨bO.toArray⟩) ∧ wz.cell? ⟨fb, fo + 1, none⟩ = some (.func (.func k0) #[] e0) ∧ wz.cell? ⟨fb, fo + 2, none⟩ = some (.string ⟨bN.toArray⟩) ∧ wz.cell? ⟨fb, fo + 3, none⟩ = some (.func (.func k1) #[] e1) ∧ wz.cell? ⟨fb, fo + 4, none⟩ = some (.string ⟨bC.toArray⟩) ∧ wz.cell? ⟨fb, fo + 5, none⟩ = some (.func (.func k2) #[] e2)) :
    Calls Tryz.prog 84 #[.slice (some ⟨fb, fo, none⟩) 3 cap] w fun e w' => e = .returned (.slice (some ⟨w.heap.size, 0, none⟩) 3 3) ∧ Holds encStr w' w.heap.size 0 #[bC, bN, bO] ∧ w.heap.size < w'.heap.size ∧ Below w.heap.size w w' := by
  have hmk := mk3
  have HUU := hid HU
  have X : Hid (Arr (w.alloc (.cells #[.string ByteArray.empty, .string ByteArray.empty, .string ByteArray.empty] 9)) w.heap.size 9 [.string ByteArray.empty, .string ByteArray.empty, .string ByteArray.empty] ∧ Below w.heap.size w (w.alloc (.cells #[.string ByteArray.empty, .string ByteArray.empty, .string ByteArray.empty] 9))) := ⟨⟨heap_alloc_at _ _⟩, bl_alloc (Below.refl _ _) _⟩
  clear HU
  go_enter Tryz.func84, Tryz.ntmps84
  go_wp2
  generalize (w.alloc (.cells #[.string ByteArray.empty, .string ByteArray.empty, .string ByteArray.empty] 9)) = W1 at X ⊢
  clear hmk
  go_loopw [11] (fun v wr => Hid ((v = .int .i64 0 ∧ Arr wr w.heap.size 9 [.string ByteArray.empty, .string ByteArray.empty, .string ByteArray.empty] ∧ Below w.heap.size w wr) ∨ (v = .int .i64 1 ∧ Arr wr w.heap.size 9 [.string ⟨bO.toArray⟩, .string ByteArray.empty, .string ByteArray.empty] ∧ Below w.heap.size w wr) ∨ (v = .int .i64 2 ∧ Arr wr w.heap.size 9 [.string ⟨bO.toArray⟩, .string ⟨bN.toArray⟩, .string ByteArray.empty] ∧ Below w.heap.size w wr) ∨ (v = .int .i64 3 ∧ Arr wr w.heap.size 9 [.string ⟨bO.toArray⟩, .string ⟨bN.toArray⟩, .string ⟨bC.toArray⟩] ∧ Below w.heap.size w wr))) (fun v _ => 3 - (intOf v).toNat)
  case atStart => exact .inl ⟨rfl, X.out⟩
  case round =>
    clear X W1
    rcases hrel.out with ⟨hv, hA, hB⟩ | ⟨hv, hA, hB⟩ | ⟨hv, hA, hB⟩ | ⟨hv, hA, hB⟩
    · subst hv
      clear hrel
      obtain ⟨u0, u1, u2, u3, u4, u5⟩ := HUU.out _ hB
      have hba := fun o => bl_alloc (Below.refl wr.heap.size wr) o
      have HA := hid hA
      have x0 := fun o => (hA.stays (hba o)).cell
      have x1 := fun o => (hA.stays (hba o)).frozen
      have HB := hid hB
      clear hA hB
      go_wp2
      go_roundw
      case rel => exact .inr (.inl ⟨by go_num, (HA.out.stays (hba _)).set 0 _, (bl_alloc HB.out _).setCell (p := ⟨w.heap.size, 0, none⟩) (Nat.le_refl _) _⟩)
      case measure => simp [intOf]
    · subst hv
      clear hrel
      obtain ⟨u0, u1, u2, u3, u4, u5⟩ := HUU.out _ hB
      have hba := fun o => bl_alloc (Below.refl wr.heap.size wr) o
      have HA := hid hA
      have x0 := fun o => (hA.stays (hba o)).cell
      have x1 := fun o => (hA.stays (hba o)).frozen
      have HB := hid hB
      clear hA hB
      go_wp2
      go_roundw
      case rel => exact .inr (.inr (.inl ⟨by go_num, (HA.out.stays (hba _)).set 1 _, (bl_alloc HB.out _).setCell (p := ⟨w.heap.size, 1, none⟩) (Nat.le_refl _) _⟩))
      case measure => simp [intOf]
    · subst hv
      clear hrel
      obtain ⟨u0, u1, u2, u3, u4, u5⟩ := HUU.out _ hB
      have hba := fun o => bl_alloc (Below.refl wr.heap.size wr) o
      have HA := hid hA
      have x0 := fun o => (hA.stays (hba o)).cell
      have x1 := fun o => (hA.stays (hba o)).frozen
      have HB := hid hB
      clear hA hB
      go_wp2
      go_roundw
      case rel => exact .inr (.inr (.inr ⟨by go_num, (HA.out.stays (hba _)).set 2 _, (bl_alloc HB.out _).setCell (p := ⟨w.heap.size, 2, none⟩) (Nat.le_refl _) _⟩))
      case measure => simp [intOf]
    · subst hv
      clear hrel
      have HA := hid hA
      have HB := hid hB
      have hS : Hid (Calls Tryz.prog 109 #[.slice (some ⟨w.heap.size, 0, none⟩) 3 3, .func (.func 87) #[] #[]] wr fun e w' => e = .returned (.tuple #[]) ∧ Holds encStr w' w.heap.size 0 #[bC, bN, bO] ∧ w.heap.size < w'.heap.size ∧ Below w.heap.size wr w') := by
        refine (sort_row w.heap.size 3 3 w.heap.size #[bO, bN, bC] wr rfl (fun j hj => ?_) hA.lt (Nat.le_refl _) (by omega)).mono ?_
        · match j, hj with
          | 0, _ => exact ⟨hA.cell 0, hA.frozen 0⟩
          | 1, _ => exact ⟨hA.cell 1, hA.frozen 1⟩
          | 2, _ => exact ⟨hA.cell 2, hA.frozen 2⟩
          | k + 3, hj => exact absurd hj (by show ¬ k + 3 < 3; omega)
        · rintro e w' ⟨rfl, zs, ⟨h1, h2, h3⟩, h4, h5, h6⟩
          rw [sorted3 h1 h2 h3] at h4
          exact ⟨rfl, h4, h5, h6⟩
      clear hA hB
      go_wp2_with (go_at_call 109; refine hS.out.mono ?_; rintro e w2 ⟨rfl, hH2, hg2, b2⟩; have HH := hid hH2; have HG := hid hg2; have HB2 := hid (HB.out.trans b2); clear hH2 hg2 b2)
      go_ret
      exact ⟨rfl, HH.out, HG.out, HB2.out⟩
end Go.Proofs.YtigliglmejkakaaGreat
