/- TransData: the walk, over what the program's Sum, Rep and Con answer. How great target types are that were made. TransTypes: the walk. TransData: the walk. -/
import Derived.Test.YtigliglmejkakaaQbo
import Derived.Test.YtigliglmejkakaaQay
import Derived.Test.YtigliglmejkakaaQbn
namespace Go.Proofs.Ytigliglmejkakaa
open Go.RowKit
set_option linter.unusedVariables false
set_option linter.unusedSimpArgs false

set_option maxHeartbeats 4000000 in
set_option maxRecDepth 100000 in
theorem data14_core (w : World) (n : Nat) (st : Int) (l : List Ct) (a1 : Option Addr) (c1 : Nat) (hl : CtL w Any n (.slice a1 l.length c1) l) (yU yR : Tgt.Tt) (xU xR : Int) (yC : Ct → Tgt.Tt) (xC : Ct → Int) (hcU : yU.cnt ≤ 1099511627776) (hcR : yR.cnt ≤ 1099511627776) (hcC : ∀ c ∈ l, (yC c).cnt ≤ 1099511627776)
    (HU1 : Hid (∀ wz, Below w.heap.size w wz → Calls Try.prog 11 #[.slice a1 l.length c1] wz fun e w' => (∃ p' q' p q N, e = .returned (.tuple #[.agg #[.int .i64 yU.k, .int .i64 yU.n, .slice p' yU.ls.length q', .slice p yU.ks.length q], .int .i64 xU]) ∧ Tgt.TAt w' Tgt.Any N [.int .i64 yU.k, .int .i64 yU.n, .slice p' yU.ls.length q', .slice p yU.ks.length q] yU) ∧ Below wz.heap.size wz w')) (HU2 : Hid (∀ wz, Below w.heap.size w wz → Calls Try.prog 12 #[.slice a1 l.length c1] wz fun e w' => (∃ p' q' p q N, e = .returned (.tuple #[.agg #[.int .i64 yU.k, .int .i64 yU.n, .slice p' yU.ls.length q', .slice p yU.ks.length q], .int .i64 xU]) ∧ Tgt.TAt w' Tgt.Any N [.int .i64 yU.k, .int .i64 yU.n, .slice p' yU.ls.length q', .slice p yU.ks.length q] yU) ∧ Below wz.heap.size wz w')) (HR1 : Hid (∀ wz, Below w.heap.size w wz → Calls Try.prog 13 #[.int .i64 st, .slice a1 l.length c1] wz fun e w' => (∃ p' q' p q N, e = .returned (.tuple #[.agg #[.int .i64 yR.k, .int .i64 yR.n, .slice p' yR.ls.length q', .slice p yR.ks.length q], .int .i64 xR]) ∧ Tgt.TAt w' Tgt.Any N [.int .i64 yR.k, .int .i64 yR.n, .slice p' yR.ls.length q', .slice p yR.ks.length q] yR) ∧ Below wz.heap.size wz w')) (HR2 : Hid (∀ wz, Below w.heap.size w wz → Calls Try.prog 14 #[.int .i64 st, .slice a1 l.length c1] wz fun e w' => (∃ p' q' p q N, e = .returned (.tuple #[.agg #[.int .i64 yR.k, .int .i64 yR.n, .slice p' yR.ls.length q', .slice p yR.ks.length q], .int .i64 xR]) ∧ Tgt.TAt w' Tgt.Any N [.int .i64 yR.k, .int .i64 yR.n, .slice p' yR.ls.length q', .slice p yR.ks.length q] yR) ∧ Below wz.heap.size wz w'))
    (HC1 : Hid (∀ (wz : World) (c : Ct) ga gc, Below w.heap.size w wz → c ∈ l → CtAt wz Any n [.string c.nm, .slice ga c.args.length gc] c → Calls Try.prog 15 #[.int .i64 st, .agg #[.string c.nm, .slice ga c.args.length gc]] wz fun e w' => (∃ p' q' p q N, e = .returned (.tuple #[.agg #[.int .i64 (yC c).k, .int .i64 (yC c).n, .slice p' (yC c).ls.length q', .slice p (yC c).ks.length q], .int .i64 (xC c)]) ∧ Tgt.TAt w' Tgt.Any N [.int .i64 (yC c).k, .int .i64 (yC c).n, .slice p' (yC c).ls.length q', .slice p (yC c).ks.length q] (yC c)) ∧ Below wz.heap.size wz w')) (HC2 : Hid (∀ (wz : World) (c : Ct) ga gc, Below w.heap.size w wz → c ∈ l → CtAt wz Any n [.string c.nm, .slice ga c.args.length gc] c → Calls Try.prog 16 #[.int .i64 st, .agg #[.string c.nm, .slice ga c.args.length gc]] wz fun e w' => (∃ p' q' p q N, e = .returned (.tuple #[.agg #[.int .i64 (yC c).k, .int .i64 (yC c).n, .slice p' (yC c).ls.length q', .slice p (yC c).ks.length q], .int .i64 (xC c)]) ∧ Tgt.TAt w' Tgt.Any N [.int .i64 (yC c).k, .int .i64 (yC c).n, .slice p' (yC c).ls.length q', .slice p (yC c).ks.length q] (yC c)) ∧ Below wz.heap.size wz w')) (HAl : Hid (∀ wz, Calls Try.prog 10 #[] wz fun e w' => e = .returned (.bool true) ∧ Below wz.heap.size wz w')) :
    Calls Try.prog 4 #[.int .i64 st, .slice a1 l.length c1] w fun e w' => e = .returned (.bool true) ∧ Below w.heap.size w w' := by
  have HB2 : Hid (Below w.heap.size w w) := Below.refl _ _
  have HL := hid hl
  have hlm : l.length ≤ 9223372036854775807 := by obtain ⟨_, _, _, hm⟩ := hl.form; exact hm
  have m1 : Hid True := trivial
  clear hl
  go_enter Try.func4, Try.ntmps4
  go_wp2_with (first | (go_at_call 11; refine (HU1.out _ HB2.out).mono ?_; rintro e w3 ⟨⟨p3', q3', p3, q3, N3, rfl, hT3⟩, b3⟩; have hb3 : Below w.heap.size w (w3.alloc (.cells #[.int .i64 yU.k, .int .i64 yU.n, .slice p3' yU.ls.length q3', .slice p3 yU.ks.length q3] 30)) := bl_alloc b3 _; have HB3 := hid (bl_tr HB2.out hb3); have T3 := hid (hT3.below (bl_alloc (Below.refl w3.heap.size w3) (.cells #[.int .i64 yU.k, .int .i64 yU.n, .slice p3' yU.ls.length q3', .slice p3 yU.ks.length q3] 30))); have A3 : Hid (Arr (w3.alloc (.cells #[.int .i64 yU.k, .int .i64 yU.n, .slice p3' yU.ls.length q3', .slice p3 yU.ks.length q3] 30)) w3.heap.size 30 [.int .i64 yU.k, .int .i64 yU.n, .slice p3' yU.ls.length q3', .slice p3 yU.ks.length q3]) := ⟨heap_alloc_at _ _⟩; clear b3 hT3 hb3) | (go_at_call 12; refine (HU2.out _ HB3.out).mono ?_; rintro e w4 ⟨⟨p4', q4', p4, q4, N4, rfl, hT4⟩, b4⟩; have hb4 : Below (w3.alloc (.cells #[.int .i64 yU.k, .int .i64 yU.n, .slice p3' yU.ls.length q3', .slice p3 yU.ks.length q3] 30)).heap.size (w3.alloc (.cells #[.int .i64 yU.k, .int .i64 yU.n, .slice p3' yU.ls.length q3', .slice p3 yU.ks.length q3] 30)) (w4.alloc (.cells #[.int .i64 yU.k, .int .i64 yU.n, .slice p4' yU.ls.length q4', .slice p4 yU.ks.length q4] 30)) := bl_alloc b4 _; have HB4 := hid (bl_tr HB3.out hb4); have T4 := hid (hT4.below (bl_alloc (Below.refl w4.heap.size w4) (.cells #[.int .i64 yU.k, .int .i64 yU.n, .slice p4' yU.ls.length q4', .slice p4 yU.ks.length q4] 30))); have A4 : Hid (Arr (w4.alloc (.cells #[.int .i64 yU.k, .int .i64 yU.n, .slice p4' yU.ls.length q4', .slice p4 yU.ks.length q4] 30)) w4.heap.size 30 [.int .i64 yU.k, .int .i64 yU.n, .slice p4' yU.ls.length q4', .slice p4 yU.ks.length q4]) := ⟨heap_alloc_at _ _⟩; have T3 := hid (T3.out.below hb4); have A3 := hid (A3.out.stays hb4); clear b4 hT4 hb4) | (go_at_call 13; refine (HR1.out _ HB4.out).mono ?_; rintro e w5 ⟨⟨p5', q5', p5, q5, N5, rfl, hT5⟩, b5⟩; have hb5 : Below (w4.alloc (.cells #[.int .i64 yU.k, .int .i64 yU.n, .slice p4' yU.ls.length q4', .slice p4 yU.ks.length q4] 30)).heap.size (w4.alloc (.cells #[.int .i64 yU.k, .int .i64 yU.n, .slice p4' yU.ls.length q4', .slice p4 yU.ks.length q4] 30)) (w5.alloc (.cells #[.int .i64 yR.k, .int .i64 yR.n, .slice p5' yR.ls.length q5', .slice p5 yR.ks.length q5] 30)) := bl_alloc b5 _; have HB5 := hid (bl_tr HB4.out hb5); have T5 := hid (hT5.below (bl_alloc (Below.refl w5.heap.size w5) (.cells #[.int .i64 yR.k, .int .i64 yR.n, .slice p5' yR.ls.length q5', .slice p5 yR.ks.length q5] 30))); have A5 : Hid (Arr (w5.alloc (.cells #[.int .i64 yR.k, .int .i64 yR.n, .slice p5' yR.ls.length q5', .slice p5 yR.ks.length q5] 30)) w5.heap.size 30 [.int .i64 yR.k, .int .i64 yR.n, .slice p5' yR.ls.length q5', .slice p5 yR.ks.length q5]) := ⟨heap_alloc_at _ _⟩; have T3 := hid (T3.out.below hb5); have A3 := hid (A3.out.stays hb5); have T4 := hid (T4.out.below hb5); have A4 := hid (A4.out.stays hb5); clear b5 hT5 hb5) | (go_at_call 14; refine (HR2.out _ HB5.out).mono ?_; rintro e w6 ⟨⟨p6', q6', p6, q6, N6, rfl, hT6⟩, b6⟩; have hb6 : Below (w5.alloc (.cells #[.int .i64 yR.k, .int .i64 yR.n, .slice p5' yR.ls.length q5', .slice p5 yR.ks.length q5] 30)).heap.size (w5.alloc (.cells #[.int .i64 yR.k, .int .i64 yR.n, .slice p5' yR.ls.length q5', .slice p5 yR.ks.length q5] 30)) (w6.alloc (.cells #[.int .i64 yR.k, .int .i64 yR.n, .slice p6' yR.ls.length q6', .slice p6 yR.ks.length q6] 30)) := bl_alloc b6 _; have HB6 := hid (bl_tr HB5.out hb6); have T6 := hid (hT6.below (bl_alloc (Below.refl w6.heap.size w6) (.cells #[.int .i64 yR.k, .int .i64 yR.n, .slice p6' yR.ls.length q6', .slice p6 yR.ks.length q6] 30))); have A6 : Hid (Arr (w6.alloc (.cells #[.int .i64 yR.k, .int .i64 yR.n, .slice p6' yR.ls.length q6', .slice p6 yR.ks.length q6] 30)) w6.heap.size 30 [.int .i64 yR.k, .int .i64 yR.n, .slice p6' yR.ls.length q6', .slice p6 yR.ks.length q6]) := ⟨heap_alloc_at _ _⟩; have T3 := hid (T3.out.below hb6); have A3 := hid (A3.out.stays hb6); have T4 := hid (T4.out.below hb6); have A4 := hid (A4.out.stays hb6); have T5 := hid (T5.out.below hb6); have A5 := hid (A5.out.stays hb6); have k3 := A3.out.cell; have k4 := A4.out.cell; have k5 := A5.out.cell; have k6 := A6.out.cell; clear b6 hT6 hb6) | (go_at_call 9; have := m1; refine (same14 _ N3 N4 _ _ yU xU T3.out T4.out hcU).mono ?_; rintro e w7 ⟨rfl, b7⟩; have HB7 := hid (bl_tr HB6.out b7); have T5 := hid (T5.out.below b7); have T6 := hid (T6.out.below b7); have k5 := (A5.out.stays b7).cell; have k6 := (A6.out.stays b7).cell; clear m1 b7 T3 T4 k3 k4) | (go_at_call 9; refine (same14 _ N5 N6 _ _ yR xR T5.out T6.out hcR).mono ?_; rintro e w8 ⟨rfl, b8⟩; have HB8 := hid (bl_tr HB7.out b8); clear b8))
  clear HB2 HB3 HB4 HB5 HB6 HB7 T5 T6 k5 k6 A3 A4 A5 A6 HU1 HU2 HR1 HR2
  go_loopw [13] (fun v wr => ∃ j : Nat, v = .int .i64 j ∧ j ≤ l.length ∧ Hid (Below w.heap.size w wr)) (fun v _ => l.length - (intOf v).toNat)
  case atStart => exact ⟨0, rfl, Nat.zero_le _, HB8⟩
  case round =>
    obtain ⟨j, rfl, hjl, HB8x⟩ := hrel
    clear HB8
    by_cases hlt : j < l.length
    · obtain ⟨c, hcj⟩ : ∃ c, l[j]? = some c := ⟨_, List.getElem?_eq_getElem hlt⟩
      have hmem := List.mem_of_getElem? hcj
      obtain ⟨kb, ko, rfl, hcc⟩ : ∃ b o, a1 = some ⟨b, o, none⟩ ∧ ∀ (i : Nat) c, l[i]? = some c → ∃ vs, Cells w b (o + i * 2) vs ∧ CtAt w Any n vs c := by
        rcases HL.out with ⟨b, o, cp, hv, -, -, -, h5⟩ | ⟨h0, -⟩
        · injection hv with e1 e2 e3; exact ⟨b, o, e1, h5⟩
        · rw [h0] at hlt; exact absurd hlt (Nat.not_lt_zero _)
      obtain ⟨vs, hcells, hct⟩ := hcc j c hcj
      obtain ⟨ga, gc, rfl, hAr⟩ := hct.form
      have HCt := hid (hct.below HB8x.out)
      have u0 : wr.cell? ⟨kb, ko + j * 2, none⟩ = some (.string c.nm) := (HB8x.out.cell (p := ⟨kb, ko + j * 2, none⟩) (World.block_lt_of_cell? _ _ (hcells 0 _ rfl))).trans (hcells 0 _ rfl)
      have u1 : wr.cell? ⟨kb, ko + j * 2 + 1, none⟩ = some (.slice ga c.args.length gc) := (HB8x.out.cell (p := ⟨kb, ko + j * 2 + 1, none⟩) (World.block_lt_of_cell? _ _ (hcells 1 _ rfl))).trans (hcells 1 _ rfl)
      clear hcells hct hAr hcc hcj HL
      go_wp2_with (first | (go_at_call 15; refine (HC1.out _ c ga gc HB8x.out hmem HCt.out).mono ?_; rintro e w9 ⟨⟨p9', q9', p9, q9, N9, rfl, hT9⟩, b9⟩; have hb9 : Below wr.heap.size wr (w9.alloc (.cells #[.int .i64 (yC c).k, .int .i64 (yC c).n, .slice p9' (yC c).ls.length q9', .slice p9 (yC c).ks.length q9] 30)) := bl_alloc b9 _; have HB9 := hid (bl_tr HB8x.out hb9); have T9 := hid (hT9.below (bl_alloc (Below.refl w9.heap.size w9) (.cells #[.int .i64 (yC c).k, .int .i64 (yC c).n, .slice p9' (yC c).ls.length q9', .slice p9 (yC c).ks.length q9] 30))); have A9 : Hid (Arr (w9.alloc (.cells #[.int .i64 (yC c).k, .int .i64 (yC c).n, .slice p9' (yC c).ls.length q9', .slice p9 (yC c).ks.length q9] 30)) w9.heap.size 30 [.int .i64 (yC c).k, .int .i64 (yC c).n, .slice p9' (yC c).ls.length q9', .slice p9 (yC c).ks.length q9]) := ⟨heap_alloc_at _ _⟩; have HCt9 := hid (HCt.out.below hb9); have u9 := (hb9.cell (p := ⟨kb, ko + j * 2, none⟩) (World.block_lt_of_cell? _ _ u0)).trans u0; have v9 := (hb9.cell (p := ⟨kb, ko + j * 2 + 1, none⟩) (World.block_lt_of_cell? _ _ u1)).trans u1; clear b9 hT9 hb9) | (go_at_call 16; refine (HC2.out _ c ga gc HB9.out hmem HCt9.out).mono ?_; rintro e w10 ⟨⟨p10', q10', p10, q10, N10, rfl, hT10⟩, b10⟩; have hb10 : Below (w9.alloc (.cells #[.int .i64 (yC c).k, .int .i64 (yC c).n, .slice p9' (yC c).ls.length q9', .slice p9 (yC c).ks.length q9] 30)).heap.size (w9.alloc (.cells #[.int .i64 (yC c).k, .int .i64 (yC c).n, .slice p9' (yC c).ls.length q9', .slice p9 (yC c).ks.length q9] 30)) (w10.alloc (.cells #[.int .i64 (yC c).k, .int .i64 (yC c).n, .slice p10' (yC c).ls.length q10', .slice p10 (yC c).ks.length q10] 30)) := bl_alloc b10 _; have HB10 := hid (bl_tr HB9.out hb10); have T10 := hid (hT10.below (bl_alloc (Below.refl w10.heap.size w10) (.cells #[.int .i64 (yC c).k, .int .i64 (yC c).n, .slice p10' (yC c).ls.length q10', .slice p10 (yC c).ks.length q10] 30))); have A10 : Hid (Arr (w10.alloc (.cells #[.int .i64 (yC c).k, .int .i64 (yC c).n, .slice p10' (yC c).ls.length q10', .slice p10 (yC c).ks.length q10] 30)) w10.heap.size 30 [.int .i64 (yC c).k, .int .i64 (yC c).n, .slice p10' (yC c).ls.length q10', .slice p10 (yC c).ks.length q10]) := ⟨heap_alloc_at _ _⟩; have T9 := hid (T9.out.below hb10); have A9 := hid (A9.out.stays hb10); have k9 := A9.out.cell; have k10 := A10.out.cell; clear b10 hT10 hb10) | (go_at_call 9; refine (same14 _ N9 N10 _ _ (yC c) (xC c) T9.out T10.out (hcC c hmem)).mono ?_; rintro e wb ⟨rfl, bb⟩; have HBb := hid (bl_tr HB10.out bb); clear bb))
      go_roundw
      case rel => exact ⟨j + 1, by go_num, by omega, HBb⟩
      case measure => simp [intOf]; omega
    · clear HL HC1 HC2
      go_wp2_with (go_at_call 10; refine (HAl.out _).mono ?_; rintro e w9 ⟨rfl, b9⟩; have HB9 := hid (bl_tr HB8x.out b9); clear b9)
      go_ret
      exact ⟨rfl, HB9.out⟩
end Go.Proofs.Ytigliglmejkakaa

namespace Go.Proofs.Ytigliglmejkakaa
open Go.RowKit
set_option linter.unusedVariables false
set_option linter.unusedSimpArgs false

theorem leaf_cnt (k n : Int) : (Tgt.Tt.mk k n [] []).cnt = 1 := by rw [Tgt.Tt.cnt, Tgt.Tt.cntL]
mutual
theorem made_cnt (k : Int) : ∀ t : Tp, (Tp.made k t).cnt ≤ t.cnt
  | .mk kd n ks => by
    have h := madeL_cnt k ks
    rw [Tp.made, Tp.cnt]
    repeat' split
    all_goals (try (rw [leaf_cnt]; omega))
    all_goals (rw [Tgt.Tt.cnt]; omega)
theorem madeL_cnt (k : Int) : ∀ l : List Tp, Tgt.Tt.cntL (Tp.madeL k l) ≤ Tp.cntL l
  | [] => by rw [Tp.madeL, Tgt.Tt.cntL, Tp.cntL]; exact Nat.le_refl _
  | x :: r => by
    have h1 := made_cnt k x
    have h2 := madeL_cnt k r
    rw [Tp.madeL, Tgt.Tt.cntL, Tp.cntL]
    omega
end
theorem around_cnt (kind : Int) (y : Tgt.Tt) : ∀ l : List Int, (Tt.around kind l y).cnt = y.cnt + l.length
  | [] => rfl
  | x :: r => by
    have h := around_cnt kind y r
    show (Tgt.Tt.mk kind x [] [Tt.around kind r y]).cnt = _
    rw [Tgt.Tt.cnt, Tgt.Tt.cntL, Tgt.Tt.cntL, h, List.length_cons]
    omega
theorem schemeT_cnt (g : Int) (t : Tp) : (t.schemeT g).cnt ≤ t.cnt + g.toNat := by
  unfold Tp.schemeT
  rw [around_cnt, numsT_len]
  have := made_cnt (topK (Tp.found 6 t [])) t
  omega
theorem sumK_cnt (c : Ct) : (sumK c).cnt ≤ Tp.cntL c.args + 1 := by
  unfold sumK
  split
  · rw [leaf_cnt]; omega
  · rename_i x r h
    have := made_cnt 0 x
    rw [h, Tp.cntL]
    omega
theorem sumL_cnt : ∀ l : List Ct, Tgt.Tt.cntL (l.map sumK) ≤ Ct.wt l
  | [] => by rw [List.map_nil, Tgt.Tt.cntL]; exact Nat.zero_le _
  | c :: r => by
    have h1 := sumK_cnt c
    have h2 := sumL_cnt r
    rw [List.map_cons, Tgt.Tt.cntL, Ct.wt_cons]
    unfold Ct.wt1
    omega
theorem sumT_cnt (l : List Ct) : (sumT l).cnt ≤ Ct.wt l + 1 := by
  have := sumL_cnt l
  unfold sumT
  rw [Tgt.Tt.cnt]
  omega
theorem repT_cnt (s : Int) (l : List Ct) : (repT s l).cnt ≤ Ct.wt l + 2 := by
  have := sumT_cnt l
  unfold repT
  rw [Tgt.Tt.cnt, Tgt.Tt.cntL, Tgt.Tt.cntL]
  omega
theorem conT_cnt (s : Int) (c : Ct) : (conT s c).cnt ≤ Tp.cntL c.args + 3 := by
  unfold conT
  split
  · rw [leaf_cnt]; omega
  · rename_i x r h
    have := made_cnt 0 x
    rw [h, Tp.cntL, Tgt.Tt.cnt, Tgt.Tt.cntL, Tgt.Tt.cntL, Tgt.Tt.cntL, leaf_cnt]
    omega
end Go.Proofs.Ytigliglmejkakaa

namespace Go.Proofs.Ytigliglmejkakaa
open Go.RowKit
set_option linter.unusedVariables false
set_option linter.unusedSimpArgs false

theorem okS_g {g : Int} {t : Tp} (h : Tp.okS g t = true) (hc : t.cnt ≤ 1048576) : g.toNat ≤ 1048576 := by
  unfold Tp.okS at h
  rw [Bool.and_eq_true] at h
  have := rightS_gt h.1 hc
  omega
set_option maxRecDepth 100000 in
theorem types14_walk (w : World) (n m : Nat) (g : Int) (vs us : List Value) (t s : Tp) (hT : TAt w Any n vs t) (hS : TAt w Any m us s) (hc : t.cnt ≤ 1048576) (hd : s.cnt ≤ 1048576) (hg : R64 g) :
    Calls Try.prog 3 #[.agg vs.toArray, .agg (.int .i64 g :: us).toArray] w fun e w' => e = .returned (.bool true) ∧ Below w.heap.size w w' := by
  obtain ⟨a1, c1, rfl⟩ := hT.form
  obtain ⟨b1, d1, rfl⟩ := hS.form
  refine types14_core w g t s a1 b1 c1 d1 (bif t.okT then Tp.made 0 t else zeroT) (bif Tp.okS g s then Tp.schemeT g s else zeroT) (bif t.okT then 0 else 1) (bif Tp.okS g s then 0 else 1) ?_ ?_ ?_ ?_ ?_ ?_ ?_
  · have := made_cnt 0 t
    cases t.okT
    · exact Nat.le_trans (Nat.le_of_eq (leaf_cnt 0 0)) (by omega)
    · show (Tp.made 0 t).cnt ≤ _; omega
  · have h1 := schemeT_cnt g s
    cases hok : Tp.okS g s with
    | false => exact Nat.le_trans (Nat.le_of_eq (leaf_cnt 0 0)) (by omega)
    | true =>
      have := okS_g hok hd
      show (Tp.schemeT g s).cnt ≤ _
      omega
  · exact fun wz hz => (TType_any wz n _ t (hT.below hz) hc).mono fun e w' ⟨h1, h2⟩ => ⟨h1.two.one, h2⟩
  · exact fun wz hz => (refTType_any wz n _ t (hT.below hz) hc).mono fun e w' ⟨h1, h2⟩ => ⟨h1.two.one, h2⟩
  · exact fun wz hz => (TScheme_any wz m g _ s (hS.below hz) hg hd).mono fun e w' ⟨h1, h2⟩ => ⟨h1.one, h2⟩
  · exact fun wz hz => (refTScheme_any wz m g _ s (hS.below hz) hd).mono fun e w' ⟨h1, h2⟩ => ⟨h1.one, h2⟩
  · exact fun wz => alive14 wz
end Go.Proofs.Ytigliglmejkakaa

namespace Go.Proofs.Ytigliglmejkakaa
open Go.RowKit
set_option linter.unusedVariables false
set_option linter.unusedSimpArgs false

theorem ct_len {l : List Ct} {c : Ct} (hc : c ∈ l) : Tp.cntL c.args ≤ Ct.cntL l := by
  obtain ⟨i, hi⟩ := List.getElem?_of_mem hc
  exact Ct.cntL_mem hi
set_option maxRecDepth 100000 in
theorem data14_walk (w : World) (n : Nat) (st : Int) (v : Value) (l : List Ct) (hl : CtL w Any n v l) (hw : Ct.wt l ≤ 1048576) :
    Calls Try.prog 4 #[.int .i64 st, v] w fun e w' => e = .returned (.bool true) ∧ Below w.heap.size w w' := by
  obtain ⟨a1, c1, rfl, -⟩ := hl.form
  have h0 := Ct.wt_le l
  have hc : Ct.cntL l ≤ 1048576 := by omega
  have hn : l.length ≤ 1048576 := by omega
  refine data14_core w n st l a1 c1 hl (bif okSum l then sumT l else zeroT) (bif okRep st l then repT st l else zeroT) (bif okSum l then 0 else 1) (bif okRep st l then 0 else 1) (fun c => bif okC st c then conT st c else zeroT) (fun c => bif okC st c then 0 else 1) ?_ ?_ ?_ ?_ ?_ ?_ ?_ ?_ ?_ ?_
  · have := sumT_cnt l
    cases okSum l
    · exact Nat.le_trans (Nat.le_of_eq (leaf_cnt 0 0)) (by omega)
    · show (sumT l).cnt ≤ _; omega
  · have := repT_cnt st l
    cases okRep st l
    · exact Nat.le_trans (Nat.le_of_eq (leaf_cnt 0 0)) (by omega)
    · show (repT st l).cnt ≤ _; omega
  · intro c hcm
    have h1 := conT_cnt st c
    have h2 := ct_len hcm
    show (bif okC st c then conT st c else zeroT).cnt ≤ _
    cases okC st c
    · exact Nat.le_trans (Nat.le_of_eq (leaf_cnt 0 0)) (by omega)
    · show (conT st c).cnt ≤ _; omega
  · exact fun wz hz => (Sum_any wz n _ l (hl.below hz) hc hn).mono fun e w' ⟨h1, h2⟩ => ⟨h1.one, h2⟩
  · exact fun wz hz => (refSum_any wz n _ l (hl.below hz) hc hn).mono fun e w' ⟨h1, h2⟩ => ⟨h1.one, h2⟩
  · exact fun wz hz => (Rep_any wz n st _ l (hl.below hz) hc hn).mono fun e w' ⟨h1, h2⟩ => ⟨h1.one, h2⟩
  · exact fun wz hz => (refRep_any wz n st _ l (hl.below hz) hc hn).mono fun e w' ⟨h1, h2⟩ => ⟨h1.one, h2⟩
  · exact fun wz c ga gc hz hm hct => (Con_any wz n st _ c hct (Nat.le_trans (ct_len hm) hc)).mono fun e w' ⟨h1, h2⟩ => ⟨h1.one, h2⟩
  · exact fun wz c ga gc hz hm hct => (refCon_any wz n st _ c hct (Nat.le_trans (ct_len hm) hc)).mono fun e w' ⟨h1, h2⟩ => ⟨h1.one, h2⟩
  · exact fun wz => alive14 wz
end Go.Proofs.Ytigliglmejkakaa
