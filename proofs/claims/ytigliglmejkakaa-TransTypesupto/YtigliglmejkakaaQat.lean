/- The document's Sum. -/
import Derived.Test.YtigliglmejkakaaQas
namespace Go.Proofs.Ytigliglmejkakaa
open Go.RowKit
set_option linter.unusedVariables false
set_option linter.unusedSimpArgs false

/-- What stands for a constructor in the sum. -/
def okCs (c : Ct) : Bool := decide (c.args.length ≤ 1) && c.args.all Tp.okT
def sumK (c : Ct) : Tgt.Tt := match c.args with
  | [] => .mk 3 0 [] []
  | x :: _ => Tp.made 0 x
def okSum (l : List Ct) : Bool := l.all okCs
def sumT (l : List Ct) : Tgt.Tt := .mk 8 0 [] (l.map sumK)
theorem okSum_bad {l : List Ct} {i : Nat} {c : Ct} (hc : l[i]? = some c) (h : okCs c = false) : okSum l = false := by
  unfold okSum
  rw [List.all_eq_false]
  exact ⟨c, List.mem_of_getElem? hc, by rw [h]; simp⟩
theorem okSum_take {l : List Ct} {i : Nat} {c : Ct} (hc : l[i]? = some c) (h : okCs c = true) (h2 : okSum (l.take i) = true) : okSum (l.take (i + 1)) = true := by
  unfold okSum at *
  rw [List.take_add_one, hc, List.all_append, h2]
  simp [h]
theorem sumK_take {l : List Ct} {i : Nat} {c : Ct} (hc : l[i]? = some c) : (l.take (i + 1)).map sumK = (l.take i).map sumK ++ [sumK c] := by
  rw [List.take_add_one, hc, List.map_append]
  rfl
theorem made_ls (k : Int) (x : Tp) : (Tp.made k x).ls = [] := by
  obtain ⟨kd, n, ks⟩ := x
  rw [Tp.made]
  repeat' split
  all_goals rfl
/-- All that constructors have, in nodes. -/
def Ct.cntL (l : List Ct) : Nat := (l.map fun c => Tp.cntL c.args).sum
theorem Ct.cntL_mem {l : List Ct} {i : Nat} {c : Ct} (hc : l[i]? = some c) : Tp.cntL c.args ≤ Ct.cntL l := by
  have : ∀ (l : List Ct) c, c ∈ l → Tp.cntL c.args ≤ Ct.cntL l := by
    intro l
    induction l with
    | nil => intro c h; cases h
    | cons d r ih =>
      intro c h
      unfold Ct.cntL at *
      simp only [List.map_cons, List.sum_cons]
      rcases List.mem_cons.1 h with rfl | h
      · omega
      · have := ih c h; omega
  exact this l c (List.mem_of_getElem? hc)

set_option maxHeartbeats 4000000 in
set_option maxRecDepth 100000 in
theorem refSum_any (w : World) (n : Nat) (v : Value) (l : List Ct) (h : CtL w Any n v l) (hcnt : Ct.cntL l ≤ 1048576) (hlen : l.length ≤ 1048576) : Calls Try.prog 12 #[v] w fun e w' => TtAns2 (okSum l) (sumT l) w e w' ∧ Below w.heap.size w w' := by
  obtain ⟨a1, c1, rfl, -⟩ := h.form
  have HL := hid h
  have X : Hid (Kd (w.heap.size + 1) (w.heap.size + 2) 8 0 [] 0 (.slice none 0 0) [] ((w.alloc (.cells #[.int .i64 0, .int .i64 0, .slice none 0 0, .slice none 0 0] 30)).alloc (.cells #[.int .i64 8, .int .i64 0, .slice none 0 0, .slice none 0 0] 30))) := by
    have := Kd.start (w := w.alloc (.cells #[.int .i64 0, .int .i64 0, .slice none 0 0, .slice none 0 0] 30)) 8 0 rfl
    rw [size_alloc] at this
    exact this
  have XR : Hid (Arr ((w.alloc (.cells #[.int .i64 0, .int .i64 0, .slice none 0 0, .slice none 0 0] 30)).alloc (.cells #[.int .i64 8, .int .i64 0, .slice none 0 0, .slice none 0 0] 30)) w.heap.size 30 [.int .i64 0, .int .i64 0, .slice none 0 0, .slice none 0 0]) := Arr.stays (w := w.alloc (.cells #[.int .i64 0, .int .i64 0, .slice none 0 0, .slice none 0 0] 30)) ⟨heap_alloc_at _ _⟩ (bl_alloc (Below.refl _ _) _)
  have XB : Hid (Below w.heap.size w ((w.alloc (.cells #[.int .i64 0, .int .i64 0, .slice none 0 0, .slice none 0 0] 30)).alloc (.cells #[.int .i64 8, .int .i64 0, .slice none 0 0, .slice none 0 0] 30))) := bl_alloc (bl_alloc (Below.refl _ _) _) _
  have hs : ∀ (W : World) i u, Below w.heap.size w W → Below w.heap.size w (W.setCell ⟨w.heap.size, i, none⟩ u) := fun W i u h => bl_set _ _ h (Nat.le_refl _)
  have HSS := hid hs
  obtain ⟨i0, hi0, hz0, hz1, hz2⟩ := info_parts0 info_tt
  clear h hs
  go_enter Try.func12, Try.ntmps12
  go_wp2
  generalize ((w.alloc (.cells #[.int .i64 0, .int .i64 0, .slice none 0 0, .slice none 0 0] 30)).alloc (.cells #[.int .i64 8, .int .i64 0, .slice none 0 0, .slice none 0 0] 30)) = W1 at X XR XB ⊢
  go_loopw [5] (fun v wr => ∃ (j N : Nat) (ov : Value) (xs : List Value), v = .int .i64 j ∧ j ≤ l.length ∧ Hid (Kd (w.heap.size + 1) (w.heap.size + 2) 8 0 ((l.take j).map sumK) N ov xs wr) ∧ Hid (Arr wr w.heap.size 30 [.int .i64 0, .int .i64 0, .slice none 0 0, .slice none 0 0] ∧ Below w.heap.size w wr) ∧ Hid (okSum (l.take j) = true)) (fun v _ => l.length - (intOf v).toNat)
  case atStart => exact ⟨0, 0, _, _, rfl, Nat.zero_le _, by simpa using X, ⟨XR.out, XB.out⟩, rfl⟩
  case round =>
    obtain ⟨j, N, ov, xs, rfl, hjl, hP, hA, hO⟩ := hrel
    clear X XR XB W1
    have r0 := hA.out.1.cell
    have r1 := hA.out.1.frozen
    by_cases hlt : j < l.length
    · obtain ⟨c, hcj⟩ : ∃ c, l[j]? = some c := ⟨_, List.getElem?_eq_getElem hlt⟩
      obtain ⟨kb, ko, rfl, hcc⟩ : ∃ b o, a1 = some ⟨b, o, none⟩ ∧ ∀ (i : Nat) c, l[i]? = some c → ∃ vs, Cells w b (o + i * 2) vs ∧ CtAt w Any n vs c := by
        rcases HL.out with ⟨b, o, cp, hv, -, -, -, h5⟩ | ⟨h0, -⟩
        · injection hv with e1 e2 e3; exact ⟨b, o, e1, h5⟩
        · rw [h0] at hlt; exact absurd hlt (Nat.not_lt_zero _)
      obtain ⟨vs, hcells, hct⟩ := hcc j c hcj
      obtain ⟨ga, gc, rfl, hAr⟩ := hct.form
      have u1 : wr.cell? ⟨kb, ko + j * 2 + 1, none⟩ = some (.slice ga c.args.length gc) := (hA.out.2.cell (p := ⟨kb, ko + j * 2 + 1, none⟩) (World.block_lt_of_cell? _ _ (hcells 1 _ rfl))).trans (hcells 1 _ rfl)
      have hkbw : kb < w.heap.size := World.block_lt_of_cell? _ _ (hcells 1 _ rfl)
      have hcm := Ct.cntL_mem hcj
      have hargm : c.args.length ≤ 1048576 := by have := Tp.cntL_len c.args; omega
      by_cases h1 : 1 < c.args.length
      · have g1 : (1 : Int) < (c.args.length : Int) := by omega
        have HK : Hid (okSum l = false) := okSum_bad hcj (by unfold okCs; rw [decide_eq_false (by omega)]; rfl)
        clear hAr hct hcells hcc HL hP
        go_wp2
        refine bodyPost_ret (v := .tuple #[.agg #[.int .i64 0, .int .i64 0, .slice none 0 0, .slice none 0 0], .int .i64 1]) (by rw [results_cell2t (fn := Try.f12) (p := 2) (a := 3) (ty := 30) (by kernel_rfl)]; simp [go_sem, r0, r1]) rfl ?_
        exact ⟨.inr ⟨HK.out, rfl⟩, HSS.out _ _ _ (HSS.out _ _ _ (HSS.out _ _ _ (HSS.out _ _ _ hA.out.2)))⟩
      · have g1 : ¬ (1 : Int) < (c.args.length : Int) := by omega
        have hlj : ((l.take j).map sumK).length = j := by rw [List.length_map, List.length_take]; omega
        obtain ⟨oa, oc, rfl⟩ : ∃ oa oc, ov = .slice oa j oc := by have := own_form hP.out.own; rw [hlj] at this; exact this
        have HTK := hid (sumK_take hcj)
        have hcase : c.args = [] ∨ ∃ x r, c.args = x :: r := by cases c.args <;> simp
        rcases hcase with hargs | ⟨x, r, hargs⟩
        · have hl0 : c.args.length = 0 := by rw [hargs]; rfl
          have HE : Hid (sumK c = .mk 3 0 [] []) := by show _ = _; unfold sumK; rw [hargs]
          have HO2 : Hid (okSum (l.take (j + 1)) = true) := okSum_take hcj (by unfold okCs; rw [hargs]; rfl) hO.out
          rw [HE.out] at HTK
          rw [hl0] at u1 g1
          have hbb : Below wr.heap.size wr ((wr.alloc (.cells #[.int .i64 3, .int .i64 0, .slice none 0 0, .slice none 0 0] 30)).alloc (.cells #[.int .i64 3, .int .i64 0, .slice none 0 0, .slice none 0 0] 30)) := bl_alloc (bl_alloc (Below.refl _ _) _) _
          generalize (l.take j).map sumK = ys at hP HTK hlj
          subst hlj
          have HP7 := hid (hP.out.stays hbb)
          have u1' := fun o => (bl_alloc (Below.refl wr.heap.size wr) o).cell (p := ⟨kb, ko + ys.length * 2 + 1, none⟩) (World.block_lt_of_cell? _ _ u1) |>.trans u1
          have ob6 := fun o => (hP.out.stays (bl_alloc (Below.refl wr.heap.size wr) o)).ob.cell
          have hY : Hid (∀ (i : Nat) u, [.int .i64 3, .int .i64 0, .slice none 0 0, .slice none 0 0][i]? = some u → ((wr.alloc (.cells #[.int .i64 3, .int .i64 0, .slice none 0 0, .slice none 0 0] 30)).alloc (.cells #[.int .i64 3, .int .i64 0, .slice none 0 0, .slice none 0 0] 30)).cell? ((⟨wr.heap.size + 1, 0, none⟩ : Addr).add i) = some u) := fun i u hu => by
            have hh := heap_alloc_at (wr.alloc (.cells #[.int .i64 3, .int .i64 0, .slice none 0 0, .slice none 0 0] 30)) (.cells #[.int .i64 3, .int .i64 0, .slice none 0 0, .slice none 0 0] 30)
            rw [size_alloc] at hh
            rw [addr_add14, cell_at hh, Nat.zero_add]
            simpa using hu
          clear hAr hct hcells hcc HL hcj hargs hO HE
          go_wp2_with (at_builtin; refine wpList_append2 rfl _ _ 28 rfl (w.heap.size + 2) 30 i0 (.agg #[.int .i64 0, .int .i64 0, .slice none 0 0, .slice none 0 0]) 4 64 Try.underlying28 hi0 hz0 hz1 hz2 rfl (by decide) _ ys.length xs rfl HP7.out.own ⟨wr.heap.size + 1, 0, none⟩ 1 1 [.int .i64 3, .int .i64 0, .slice none 0 0, .slice none 0 0] rfl rfl hY.out (by simp [Value.oneCell']) (by unfold maxLen; omega) (by omega) HP7.out.le ?_)
          intro v' w9 hown' hgrow hfresh
          obtain ⟨va, vc, rfl⟩ := own_form hown'
          have hM := HP7.out.mid hgrow
          have m0 := hM.1.cell
          have m1 := hM.1.frozen
          have HZ := hid (HP7.out.app4 (y := .mk 3 0 [] []) rfl (tat_leaf (w := ((wr.alloc (.cells #[.int .i64 3, .int .i64 0, .slice none 0 0, .slice none 0 0] 30)).alloc (.cells #[.int .i64 3, .int .i64 0, .slice none 0 0, .slice none 0 0] 30))) 3 0 (⟨by omega, by omega⟩ : Tgt.R64 3) (⟨by omega, by omega⟩ : Tgt.R64 0)) hown' hgrow hfresh)
          have HR9 := hid (HP7.out.other (v' := .slice va (ys.length + 1) vc) hgrow (hA.out.1.stays hbb) (by omega) (by omega))
          have HB9 := hid (HP7.out.below (v' := .slice va (ys.length + 1) vc) hgrow (by omega) (bl_tr hA.out.2 hbb))
          clear hown' hgrow hfresh hM
          go_wp2
          go_roundw
          case rel => exact ⟨ys.length + 1, _, _, _, by go_num, by omega, by rw [HTK.out]; exact HZ, ⟨HR9.out, HB9.out⟩, HO2⟩
          case measure => simp [intOf]; omega
        · have hl1 : c.args.length = 1 := by rw [hargs] at h1 ⊢; simp at h1 ⊢; omega
          obtain rfl : r = [] := by rw [hargs] at hl1; simpa using hl1
          obtain ⟨gb, go, rfl⟩ : ∃ b o, ga = some ⟨b, o, none⟩ := by
            rcases hAr with ⟨b, o, c, hv, -⟩ | ⟨h0, -⟩
            · injection hv with e1 e2 e3; exact ⟨b, o, e1⟩
            · rw [h0] at hl1; simp at hl1
          have hx0 : c.args[0]? = some x := by rw [hargs]; rfl
          obtain ⟨vx, tx, t0, t1, t2, -, hgb⟩ := hAr.elem hx0
          obtain ⟨ax, cx, ex⟩ := tx.form
          simp only [List.cons.injEq, and_true, true_and] at ex
          subst ex
          simp only [Nat.zero_mul, Nat.add_zero] at t0 t1 t2
          have hxc : x.cnt ≤ 1048576 := by rw [hargs, Tp.cntL] at hcm; omega
          have HE : Hid (sumK c = Tp.made 0 x) := by show _ = _; unfold sumK; rw [hargs]
          have HKK : okCs c = x.okT := by unfold okCs; rw [hargs]; simp
          have hQ := fun wz (hz : Below w.heap.size w wz) => refTType_any wz n _ x (tx.below hz) hxc
          have hbA : Below wr.heap.size wr (wr.alloc (.cells #[.int .i64 3, .int .i64 0, .slice none 0 0, .slice none 0 0] 30)) := bl_alloc (Below.refl _ _) _
          have hbwA : Below w.heap.size w (wr.alloc (.cells #[.int .i64 3, .int .i64 0, .slice none 0 0, .slice none 0 0] 30)) := bl_tr hA.out.2 hbA
          have HBWA := hid hbwA
          rw [hl1] at u1 g1
          have e0 := (hbwA.cell (p := ⟨gb, go, none⟩) hgb).trans t0
          have e1 := (hbwA.cell (p := ⟨gb, go + 1, none⟩) hgb).trans t1
          have e2 := (hbwA.cell (p := ⟨gb, go + 2, none⟩) hgb).trans t2
          have u1' := (hbA.cell (p := ⟨kb, ko + j * 2 + 1, none⟩) (World.block_lt_of_cell? _ _ u1)).trans u1
          have RA := hid (hA.out.1.stays hbA)
          cases hox : x.okT with
          | false =>
            have HQ : Hid (∀ wz, Below w.heap.size w wz → Calls Try.prog 6 #[.agg #[.int .i64 x.k, .int .i64 x.n, .slice ax x.ks.length cx]] wz fun e w' => e = .returned (.tuple #[.agg #[.int .i64 0, .int .i64 0, .slice none 0 0, .slice none 0 0], .int .i64 1]) ∧ Below wz.heap.size wz w') := fun wz hz => (hQ wz hz).mono fun e w' ⟨h1, h2⟩ => ⟨h1.resolve_left (fun h => by have := h.1; rw [hox] at this; cases this) |>.2, h2⟩
            have HK : Hid (okSum l = false) := okSum_bad hcj (by rw [HKK, hox])
            clear hQ hAr hct hcells hcc HL hcj hargs hO HE hox HKK tx t0 t1 t2 hP HTK hlj h1
            go_wp2_with (go_at_call 6; refine (HQ.out _ HBWA.out).mono ?_; rintro e w4 ⟨rfl, b4⟩; have HB4 := hid (bl_tr HBWA.out b4); have y4 := fun o => ((RA.out.stays b4).stays (bl_alloc (Below.refl _ _) o)).cell; have z4 := fun o => ((RA.out.stays b4).stays (bl_alloc (Below.refl _ _) o)).frozen; clear b4)
            refine bodyPost_ret (v := .tuple #[.agg #[.int .i64 0, .int .i64 0, .slice none 0 0, .slice none 0 0], .int .i64 1]) (by rw [results_cell2t (fn := Try.f12) (p := 2) (a := 3) (ty := 30) (by kernel_rfl)]; simp [go_sem, y4, z4]) rfl ?_
            exact ⟨.inr ⟨HK.out, rfl⟩, HSS.out _ _ _ (HSS.out _ _ _ (HSS.out _ _ _ (HSS.out _ _ _ (bl_alloc HB4.out _))))⟩
          | true =>
            have HO2 : Hid (okSum (l.take (j + 1)) = true) := okSum_take hcj (by rw [HKK, hox]) hO.out
            have HLS : Hid ((Tp.made 0 x).ls = []) := made_ls 0 x
            rw [HE.out] at HTK
            obtain ⟨y, hy⟩ : ∃ y, Tp.made 0 x = y := ⟨_, rfl⟩
            rw [hy] at HTK hQ HLS
            have HQ : Hid (∀ wz, Below w.heap.size w wz → Calls Try.prog 6 #[.agg #[.int .i64 x.k, .int .i64 x.n, .slice ax x.ks.length cx]] wz fun e w' => (∃ a4 c4 N4, e = .returned (.tuple #[.agg #[.int .i64 y.k, .int .i64 y.n, .slice none 0 0, .slice a4 y.ks.length c4], .int .i64 0]) ∧ Tgt.TAt w' (fun b => wz.heap.size ≤ b) N4 [.int .i64 y.k, .int .i64 y.n, .slice none 0 0, .slice a4 y.ks.length c4] y) ∧ Below wz.heap.size wz w') := fun wz hz => (hQ wz hz).mono fun e w' ⟨h1, h2⟩ => ⟨match (h1.resolve_right (fun h => by have := h.1; rw [hox] at this; cases this)).2 with | ⟨a4, c4, N4, g1, g2, _⟩ => ⟨a4, c4, N4, g1, g2⟩, h2⟩
            generalize (l.take j).map sumK = ys at hP HTK hlj
            subst hlj
            have TB : Hid (Arr (wr.alloc (.cells #[.int .i64 3, .int .i64 0, .slice none 0 0, .slice none 0 0] 30)) wr.heap.size 30 [.int .i64 3, .int .i64 0, .slice none 0 0, .slice none 0 0]) := ⟨heap_alloc_at _ _⟩
            have hbA2 := hid hbA
            clear hQ hAr hct hcells hcc HL hcj hargs hO HE hox HKK tx t0 t1 t2 h1 hy
            have hY0 : ∀ (w4 : World) (a4 : Option Addr) (c4 : Nat), Hid (∀ (i : Nat) u, [.int .i64 y.k, .int .i64 y.n, .slice none 0 0, .slice a4 y.ks.length c4][i]? = some u → ((((((w4.alloc (.cells #[.int .i64 y.k, .int .i64 y.n, .slice none 0 0, .slice a4 y.ks.length c4] 30)).setCell ⟨wr.heap.size, 0, none⟩ (.int .i64 y.k)).setCell ⟨wr.heap.size, 1, none⟩ (.int .i64 y.n)).setCell ⟨wr.heap.size, 2, none⟩ (.slice none 0 0)).setCell ⟨wr.heap.size, 3, none⟩ (.slice a4 y.ks.length c4)).alloc (.cells #[.int .i64 y.k, .int .i64 y.n, .slice none 0 0, .slice a4 y.ks.length c4] 30)).cell? ((⟨w4.heap.size + 1, 0, none⟩ : Addr).add i) = some u) := fun w4 a4 c4 i u hu => by
              have hh := heap_alloc_at (((((w4.alloc (.cells #[.int .i64 y.k, .int .i64 y.n, .slice none 0 0, .slice a4 y.ks.length c4] 30)).setCell ⟨wr.heap.size, 0, none⟩ (.int .i64 y.k)).setCell ⟨wr.heap.size, 1, none⟩ (.int .i64 y.n)).setCell ⟨wr.heap.size, 2, none⟩ (.slice none 0 0)).setCell ⟨wr.heap.size, 3, none⟩ (.slice a4 y.ks.length c4)) (.cells #[.int .i64 y.k, .int .i64 y.n, .slice none 0 0, .slice a4 y.ks.length c4] 30)
              have hz : (((((w4.alloc (.cells #[.int .i64 y.k, .int .i64 y.n, .slice none 0 0, .slice a4 y.ks.length c4] 30)).setCell ⟨wr.heap.size, 0, none⟩ (.int .i64 y.k)).setCell ⟨wr.heap.size, 1, none⟩ (.int .i64 y.n)).setCell ⟨wr.heap.size, 2, none⟩ (.slice none 0 0)).setCell ⟨wr.heap.size, 3, none⟩ (.slice a4 y.ks.length c4)).heap.size = w4.heap.size + 1 := by simp [World.setCell]
              rw [hz] at hh
              rw [addr_add14, cell_at hh, Nat.zero_add]
              simpa using hu
            have hbase := hP.out.le
            have hne1 : ¬ w.heap.size + 1 = wr.heap.size := by omega
            have hne2 : ¬ w.heap.size = wr.heap.size := by omega
            go_wp2_with (first
              | (go_at_call 6; refine (HQ.out _ HBWA.out).mono ?_; rintro e w4 ⟨⟨a4, c4, N4, rfl, hT4⟩, b4⟩; have HB4 := hid b4; have HT4 := hid hT4; have tb4 := fun o => ((TB.out.stays b4).stays (bl_alloc (Below.refl _ _) o)).cell; have tf4 := fun o => ((TB.out.stays b4).stays (bl_alloc (Below.refl _ _) o)).frozen; have ob4 := fun o => (((hP.out.stays hbA2.out).stays b4).stays (bl_alloc (Below.refl _ _) o)).ob.cell; have hbC : Below wr.heap.size wr (((((w4.alloc (.cells #[.int .i64 y.k, .int .i64 y.n, .slice none 0 0, .slice a4 y.ks.length c4] 30)).setCell ⟨wr.heap.size, 0, none⟩ (.int .i64 y.k)).setCell ⟨wr.heap.size, 1, none⟩ (.int .i64 y.n)).setCell ⟨wr.heap.size, 2, none⟩ (.slice none 0 0)).setCell ⟨wr.heap.size, 3, none⟩ (.slice a4 y.ks.length c4)) := ((((bl_alloc (bl_tr hbA2.out b4) (.cells #[.int .i64 y.k, .int .i64 y.n, .slice none 0 0, .slice a4 y.ks.length c4] 30)).setCell (p := ⟨wr.heap.size, 0, none⟩) (Nat.le_refl _) (.int .i64 y.k)).setCell (p := ⟨wr.heap.size, 1, none⟩) (Nat.le_refl _) (.int .i64 y.n)).setCell (p := ⟨wr.heap.size, 2, none⟩) (Nat.le_refl _) (.slice none 0 0)).setCell (p := ⟨wr.heap.size, 3, none⟩) (Nat.le_refl _) (.slice a4 y.ks.length c4); have HBC := hid hbC; have HBD := hid (bl_alloc hbC (.cells #[.int .i64 y.k, .int .i64 y.n, .slice none 0 0, .slice a4 y.ks.length c4] 30)); have HP7 := hid (hP.out.stays HBD.out); clear hT4 b4 hbC)
              | (at_builtin; have hY := hY0 w4 a4 c4; refine wpList_append2 rfl _ _ 28 rfl (w.heap.size + 2) 30 i0 (.agg #[.int .i64 0, .int .i64 0, .slice none 0 0, .slice none 0 0]) 4 64 Try.underlying28 hi0 hz0 hz1 hz2 rfl (by decide) _ ys.length xs rfl HP7.out.own ⟨w4.heap.size + 1, 0, none⟩ 1 1 [.int .i64 y.k, .int .i64 y.n, .slice none 0 0, .slice a4 y.ks.length c4] rfl rfl hY.out (by simp [Value.oneCell']) (by unfold maxLen; omega) (by omega) HP7.out.le ?_))
            intro v' w9 hown' hgrow hfresh
            obtain ⟨va, vc, rfl⟩ := own_form hown'
            have hM := HP7.out.mid hgrow
            have m0 := hM.1.cell
            have m1 := hM.1.frozen
            have hsA : (wr.alloc (.cells #[.int .i64 3, .int .i64 0, .slice none 0 0, .slice none 0 0] 30)).heap.size = wr.heap.size + 1 := size_alloc _ _
            have hKy : ∀ (W : World) i u, Tgt.Keeps (fun b => wr.heap.size + 1 ≤ b) W (W.setCell ⟨wr.heap.size, i, none⟩ u) := fun W i u b o v hb hv => by have hb : wr.heap.size + 1 ≤ b := hb; rw [World.cell?_of_block (w := W) (Below.heap_setCell _ _ _ _ (by show b ≠ wr.heap.size; omega))]; exact hv
            have hTy : Tgt.TAt ((((((w4.alloc (.cells #[.int .i64 y.k, .int .i64 y.n, .slice none 0 0, .slice a4 y.ks.length c4] 30)).setCell ⟨wr.heap.size, 0, none⟩ (.int .i64 y.k)).setCell ⟨wr.heap.size, 1, none⟩ (.int .i64 y.n)).setCell ⟨wr.heap.size, 2, none⟩ (.slice none 0 0)).setCell ⟨wr.heap.size, 3, none⟩ (.slice a4 y.ks.length c4)).alloc (.cells #[.int .i64 y.k, .int .i64 y.n, .slice none 0 0, .slice a4 y.ks.length c4] 30)) (fun b => wr.heap.size + 1 ≤ b) N4 [.int .i64 y.k, .int .i64 y.n, .slice none 0 0, .slice a4 y.ks.length c4] y := ((((HT4.out.move (Tgt.Keeps.refl _ _) (K' := fun b => wr.heap.size + 1 ≤ b) (fun b hb => by have hb := hb; rw [hsA] at hb; exact hb)).below (bl_alloc (Below.refl _ _) (.cells #[.int .i64 y.k, .int .i64 y.n, .slice none 0 0, .slice a4 y.ks.length c4] 30))).move (((hKy _ 0 (.int .i64 y.k)).trans (hKy _ 1 (.int .i64 y.n))).trans ((hKy _ 2 (.slice none 0 0)).trans (hKy _ 3 (.slice a4 y.ks.length c4)))) (fun b hb => hb))).below (bl_alloc (Below.refl _ _) _)
            have hTy2 := hTy.move (Tgt.Keeps.refl _ _) (K' := fun b => w.heap.size + 2 ≤ b ∧ (Value.slice oa ys.length oc).ownBlock ≠ some b) (fun b hb => ⟨by have hb : wr.heap.size + 1 ≤ b := hb; omega, fun e => by have hb : wr.heap.size + 1 ≤ b := hb; have := (hP.out.own.lt b e).2; omega⟩)
            have HZ := hid (HP7.out.app4 HLS.out hTy2 hown' hgrow hfresh)
            have HR9 := hid (HP7.out.other (v' := .slice va (ys.length + 1) vc) hgrow (hA.out.1.stays HBD.out) (by omega) (by omega))
            have HB9 := hid (HP7.out.below (v' := .slice va (ys.length + 1) vc) hgrow (by omega) (bl_tr hA.out.2 HBD.out))
            clear hown' hgrow hfresh hM hTy hTy2 tb4 tf4 ob4 hY0
            go_wp2
            go_roundw
            case rel => exact ⟨ys.length + 1, _, _, _, by go_num, by omega, by rw [HTK.out]; exact HZ, ⟨HR9.out, HB9.out⟩, HO2⟩
            case measure => simp [intOf]; omega
    · obtain rfl : j = l.length := by omega
      rw [List.take_length] at hP hO
      obtain ⟨m, hmm⟩ : ∃ m, (l.map sumK).length = m := ⟨_, rfl⟩
      obtain ⟨oa, oc, rfl⟩ : ∃ oa oc, ov = .slice oa m oc := by have := own_form hP.out.own; rw [hmm] at this; exact this
      have o3 := hP.out.ob.cell
      have hne : ¬ w.heap.size + 1 = w.heap.size := by omega
      clear HL
      go_wp2
      refine bodyPost_ret (v := .tuple #[.agg #[.int .i64 8, .int .i64 0, .slice none 0 0, .slice oa m oc], .int .i64 0]) (by rw [results_cell2t (fn := Try.f12) (p := 2) (a := 3) (ty := 30) (by kernel_rfl)]; simp [go_sem, r0, r1]) rfl ?_
      have hK : ∀ (W : World) i u, Tgt.Keeps (fun b => w.heap.size + 2 ≤ b) W (W.setCell ⟨w.heap.size, i, none⟩ u) := fun W i u b o v hb hv => by have hb : w.heap.size + 2 ≤ b := hb; rw [World.cell?_of_block (w := W) (Below.heap_setCell _ _ _ _ (by show b ≠ w.heap.size; omega))]; exact hv
      refine ⟨.inl ⟨hO.out, none, 0, oa, oc, N + 1, ?_, ?_⟩, HSS.out _ _ _ (HSS.out _ _ _ (HSS.out _ _ _ (HSS.out _ _ _ hA.out.2)))⟩
      · show _ = Ending.returned (.tuple #[.agg #[.int .i64 8, .int .i64 0, .slice none 0 0, .slice oa (l.map sumK).length oc], .int .i64 0])
        rw [hmm]
      · show Tgt.TAt _ _ _ [.int .i64 8, .int .i64 0, .slice none 0 0, .slice oa (l.map sumK).length oc] _
        rw [hmm]
        exact (hP.out.fin (((hK _ _ _).trans (hK _ _ _)).trans ((hK _ _ _).trans (hK _ _ _))) (⟨by omega, by omega⟩ : Tgt.R64 8) (⟨by omega, by omega⟩ : Tgt.R64 0) (by rw [List.length_map]; omega)).move (Tgt.Keeps.refl _ _) (fun b hb => by have hb : w.heap.size + 2 ≤ b := hb; show w.heap.size ≤ b; omega)
end Go.Proofs.Ytigliglmejkakaa
