/- The program's Sum, fits, Rep, Con. -/
import Derived.Test.YtigliglmejkakaaGreatRam
namespace Go.Proofs.YtigliglmejkakaaGreat
open Go.RowKit
set_option linter.unusedVariables false
set_option linter.unusedSimpArgs false

theorem Fil.congr {g n : Nat} {f f' : Nat → Option Tgt.Tt} {N : Nat} {cur : List Value} {wr : World} (h : Fil g n f N cur wr) (hf : ∀ i, f' i = f i) : Fil g n f' N cur wr :=
  ⟨h.arr, h.len, fun i y hy => h.el i y (by rw [← hf]; exact hy)⟩
/-- The first of a list. -/
def upF (l : List Tgt.Tt) (j : Nat) : Nat → Option Tgt.Tt := fun i => if i < j then l[i]? else none
theorem upF_succ {l : List Tgt.Tt} {j : Nat} {y : Tgt.Tt} (hy : l[j]? = some y) (i : Nat) : upF l (j + 1) i = if i = j then some y else upF l j i := by
  unfold upF
  by_cases h : i = j
  · subst h; rw [if_pos (by omega), if_pos rfl, hy]
  · rw [if_neg h]
    by_cases h2 : i < j
    · rw [if_pos h2, if_pos (by omega)]
    · rw [if_neg h2, if_neg (by omega)]

set_option maxHeartbeats 4000000 in
set_option maxRecDepth 100000 in
theorem Sum_any (w : World) (n : Nat) (v : Value) (l : List Ct) (h : CtL w Any n v l) (hcnt : Ct.cntL l ≤ 1048576) (hlen : l.length ≤ 1048576) : Calls Tryz.prog 51 #[v] w fun e w' => TtAns2 (okSum l) (sumT l) w e w' ∧ Below w.heap.size w w' := by
  obtain ⟨a1, c1, rfl, -⟩ := h.form
  have HL := hid h
  obtain ⟨M, hM, hmk⟩ := made_tts l.length
  have hmk2 : ∀ w, (Instr.makeSlice 26 (.int .i64 (l.length : Int)) (.int .i64 (l.length : Int))).run Tryz.prog w = .ok (.slice (some ⟨w.heap.size, 0, none⟩) l.length l.length) (w.alloc (.cells M 28)) := fun w => hmk w hlen
  have X : Hid (Fil (w.heap.size + 1) l.length (upF (l.map sumK) 0) 0 M.toList ((w.alloc (.cells #[.int .i64 0, .int .i64 0, .slice none 0 0, .slice none 0 0] 28)).alloc (.cells M 28))) := by
    have := Fil.start (w := (w.alloc (.cells #[.int .i64 0, .int .i64 0, .slice none 0 0, .slice none 0 0] 28))) l.length M hM
    rw [size_alloc] at this
    exact this.congr (fun i => by unfold upF; rw [if_neg (by omega)])
  have XR : Hid (Arr ((w.alloc (.cells #[.int .i64 0, .int .i64 0, .slice none 0 0, .slice none 0 0] 28)).alloc (.cells M 28)) w.heap.size 28 [.int .i64 0, .int .i64 0, .slice none 0 0, .slice none 0 0] ∧ Below w.heap.size w ((w.alloc (.cells #[.int .i64 0, .int .i64 0, .slice none 0 0, .slice none 0 0] 28)).alloc (.cells M 28))) := ⟨Arr.stays (w := (w.alloc (.cells #[.int .i64 0, .int .i64 0, .slice none 0 0, .slice none 0 0] 28))) ⟨heap_alloc_at _ _⟩ (bl_alloc (Below.refl _ _) _), bl_alloc (bl_alloc (Below.refl _ _) _) _⟩
  have HSS : Hid (∀ (W : World) i u, Below w.heap.size w W → Below w.heap.size w (W.setCell ⟨w.heap.size, i, none⟩ u)) := fun W i u h => bl_set _ _ h (Nat.le_refl _)
  have HLEN := hid hlen
  clear h hM hmk hlen
  go_enter Tryz.func51, Tryz.ntmps51
  go_wp2
  clear hmk2
  generalize ((w.alloc (.cells #[.int .i64 0, .int .i64 0, .slice none 0 0, .slice none 0 0] 28)).alloc (.cells M 28)) = W2 at X XR ⊢
  generalize M.toList = cur0 at X
  go_loopw [14] (fun v wr => ∃ (j N : Nat) (cur : List Value), v = .int .i64 j ∧ j ≤ l.length ∧ Hid (Fil (w.heap.size + 1) l.length (upF (l.map sumK) j) N cur wr) ∧ Hid (Arr wr w.heap.size 28 [.int .i64 0, .int .i64 0, .slice none 0 0, .slice none 0 0] ∧ Below w.heap.size w wr) ∧ Hid (okSum (l.take j) = true)) (fun v _ => l.length - (intOf v).toNat)
  case atStart => exact ⟨0, 0, _, rfl, Nat.zero_le _, X, XR, rfl⟩
  case round =>
    obtain ⟨j, N, cur, rfl, hjl, hP, hA, hO⟩ := hrel
    clear X XR W2 cur0
    have hjb : j ≤ 1048576 := by have := HLEN.out; omega
    by_cases hlt : j < l.length
    · obtain ⟨c, hcj⟩ : ∃ c, l[j]? = some c := ⟨_, List.getElem?_eq_getElem hlt⟩
      obtain ⟨kb, ko, rfl, hcc⟩ : ∃ b o, a1 = some ⟨b, o, none⟩ ∧ ∀ (i : Nat) c, l[i]? = some c → ∃ vs, Cells w b (o + i * 2) vs ∧ CtAt w Any n vs c := by
        rcases HL.out with ⟨b, o, cp, hv, -, -, -, h5⟩ | ⟨h0, -⟩
        · injection hv with e1 e2 e3; exact ⟨b, o, e1, h5⟩
        · rw [h0] at hlt; exact absurd hlt (Nat.not_lt_zero _)
      obtain ⟨vs, hcells, hct⟩ := hcc j c hcj
      obtain ⟨ga, gc, rfl, -⟩ := hct.form
      have u0 : wr.cell? ⟨kb, ko + j * 2, none⟩ = some (.string c.nm) := (hA.out.2.cell (p := ⟨kb, ko + j * 2, none⟩) (World.block_lt_of_cell? _ _ (hcells 0 _ rfl))).trans (hcells 0 _ rfl)
      have u1 : wr.cell? ⟨kb, ko + j * 2 + 1, none⟩ = some (.slice ga c.args.length gc) := (hA.out.2.cell (p := ⟨kb, ko + j * 2 + 1, none⟩) (World.block_lt_of_cell? _ _ (hcells 1 _ rfl))).trans (hcells 1 _ rfl)
      have hcm := Ct.cntL_mem hcj
      have hq := fun wz (hz : Below w.heap.size w wz) => argument_any wz n _ c (hct.below hz) (by omega)
      have HS3 : Hid (Below w.heap.size w (wr.alloc (.cells #[.string c.nm, .slice ga c.args.length gc] 125))) := bl_alloc hA.out.2 _
      have HF3 := hid (hP.out.stays (bl_alloc (Below.refl _ _) (.cells #[.string c.nm, .slice ga c.args.length gc] 125)))
      have HR3 := hid (hA.out.1.stays (bl_alloc (Below.refl _ _) (.cells #[.string c.nm, .slice ga c.args.length gc] 125)))
      have HKL : Hid ((l.map sumK)[j]? = some (sumK c)) := by show _ = _; rw [List.getElem?_map, hcj]; rfl
      have HZ3 : Hid (w.heap.size + 1 < (wr.alloc (.cells #[.string c.nm, .slice ga c.args.length gc] 125)).heap.size) := HF3.out.arr.lt
      cases hok : okCs c with
      | false =>
        rw [hok] at hq
        have HQ : Hid (Calls Tryz.prog 89 #[.agg #[.string c.nm, .slice ga c.args.length gc]] (wr.alloc (.cells #[.string c.nm, .slice ga c.args.length gc] 125)) fun e w' => e = .returned (.tuple #[.agg #[.int .i64 0, .int .i64 0, .slice none 0 0, .slice none 0 0], .int .i64 1]) ∧ Below (wr.alloc (.cells #[.string c.nm, .slice ga c.args.length gc] 125)).heap.size (wr.alloc (.cells #[.string c.nm, .slice ga c.args.length gc] 125)) w') := (hq _ HS3.out).mono fun e w' ⟨h1, h2⟩ => ⟨h1.resolve_left (fun h => by cases h.1) |>.2, h2⟩
        have HK : Hid (okSum l = false) := okSum_bad hcj hok
        clear hq hct hcells hcc HL hcj hok hP hO HKL hcm
        go_wp2_with (go_at_call 89; refine HQ.out.mono ?_; rintro e w4 ⟨rfl, b4⟩; have HB4 := hid (bl_tr HS3.out b4); have y4 := fun o => ((HR3.out.stays b4).stays (bl_alloc (Below.refl _ _) o)).cell; have z4 := fun o => ((HR3.out.stays b4).stays (bl_alloc (Below.refl _ _) o)).frozen; clear b4)
        refine bodyPost_ret (v := .tuple #[.agg #[.int .i64 0, .int .i64 0, .slice none 0 0, .slice none 0 0], .int .i64 1]) (by rw [results_cell2t (fn := Tryz.f51) (p := 2) (a := 3) (ty := 28) (by kernel_rfl)]; simp [go_sem, y4, z4]) rfl ?_
        exact ⟨.inr ⟨HK.out, rfl⟩, HSS.out _ _ _ (HSS.out _ _ _ (HSS.out _ _ _ (HSS.out _ _ _ (bl_alloc HB4.out _))))⟩
      | true =>
        rw [hok] at hq
        obtain ⟨y, hy⟩ : ∃ y, sumK c = y := ⟨_, rfl⟩
        rw [hy] at hq HKL
        have HQ : Hid (Calls Tryz.prog 89 #[.agg #[.string c.nm, .slice ga c.args.length gc]] (wr.alloc (.cells #[.string c.nm, .slice ga c.args.length gc] 125)) fun e w' => (∃ a4' c4' a4 c4 N4, e = .returned (.tuple #[.agg #[.int .i64 y.k, .int .i64 y.n, .slice a4' y.ls.length c4', .slice a4 y.ks.length c4], .int .i64 0]) ∧ Tgt.TAt w' (fun b => (wr.alloc (.cells #[.string c.nm, .slice ga c.args.length gc] 125)).heap.size ≤ b) N4 [.int .i64 y.k, .int .i64 y.n, .slice a4' y.ls.length c4', .slice a4 y.ks.length c4] y) ∧ Below (wr.alloc (.cells #[.string c.nm, .slice ga c.args.length gc] 125)).heap.size (wr.alloc (.cells #[.string c.nm, .slice ga c.args.length gc] 125)) w') := (hq _ HS3.out).mono fun e w' ⟨h1, h2⟩ => ⟨(h1.resolve_right (fun h => by cases h.1)).2, h2⟩
        have HO2 : Hid (okSum (l.take (j + 1)) = true) := okSum_take hcj hok hO.out
        have hcl : ∀ k, k < 4 → j * 4 + k < cur.length := fun k hk => by have := hP.out.len; omega
        obtain ⟨t0, ht0⟩ : ∃ u, cur[j * 4]? = some u := ⟨_, List.getElem?_eq_getElem (hcl 0 (by omega))⟩
        obtain ⟨t1, ht1⟩ : ∃ u, cur[j * 4 + 1]? = some u := ⟨_, List.getElem?_eq_getElem (hcl 1 (by omega))⟩
        obtain ⟨t2, ht2⟩ : ∃ u, cur[j * 4 + 2]? = some u := ⟨_, List.getElem?_eq_getElem (hcl 2 (by omega))⟩
        obtain ⟨t3, ht3⟩ : ∃ u, cur[j * 4 + 3]? = some u := ⟨_, List.getElem?_eq_getElem (hcl 3 (by omega))⟩
        clear hq hct hcells hcc HL hcj hok hP hO hcm hy hcl
        go_wp2_with (go_at_call 89; refine HQ.out.mono ?_; rintro e w4 ⟨⟨a4', c4', a4, c4, N4, rfl, hT4⟩, b4⟩; have hb5 := bl_alloc b4 (.cells #[.int .i64 y.k, .int .i64 y.n, .slice a4' y.ls.length c4', .slice a4 y.ks.length c4] 28); have HB5 := hid (bl_tr HS3.out hb5); have HF5 := hid (HF3.out.stays hb5); have HR5 := hid (HR3.out.stays hb5); have HT5 : Hid (Tgt.TAt (w4.alloc (.cells #[.int .i64 y.k, .int .i64 y.n, .slice a4' y.ls.length c4', .slice a4 y.ks.length c4] 28)) (fun b => w.heap.size + 1 < b) N4 [.int .i64 y.k, .int .i64 y.n, .slice a4' y.ls.length c4', .slice a4 y.ks.length c4] y) := (hT4.below (bl_alloc (Below.refl _ _) _)).move (Tgt.Keeps.refl _ _) (fun b hb => Nat.lt_of_lt_of_le HZ3.out hb); have hf5 := HF5.out.arr.frozen; have z0 := (HF5.out.arr.cell (j * 4)).trans ht0; have z1 := (HF5.out.arr.cell (j * 4 + 1)).trans ht1; have z2 := (HF5.out.arr.cell (j * 4 + 2)).trans ht2; have z3 := (HF5.out.arr.cell (j * 4 + 3)).trans ht3; clear b4 hT4 hb5 HQ)
        go_roundw
        case rel =>
          have ho1 : ∀ (W : World) i u, Arr W w.heap.size 28 [.int .i64 0, .int .i64 0, .slice none 0 0, .slice none 0 0] → Arr (W.setCell ⟨w.heap.size + 1, i, none⟩ u) w.heap.size 28 [.int .i64 0, .int .i64 0, .slice none 0 0, .slice none 0 0] := fun W i u h => h.other (p := ⟨w.heap.size + 1, i, none⟩) (by show w.heap.size ≠ w.heap.size + 1; omega) u
          have hs1 : ∀ (W : World) i u, Below w.heap.size w W → Below w.heap.size w (W.setCell ⟨w.heap.size + 1, i, none⟩ u) := fun W i u h => bl_set _ _ h (by show _ ≤ w.heap.size + 1; omega)
          exact ⟨j + 1, _, _, by go_num, by omega, (HF5.out.store hlt HT5.out).congr (upF_succ HKL.out), ⟨ho1 _ _ _ (ho1 _ _ _ (ho1 _ _ _ (ho1 _ _ _ HR5.out))), hs1 _ _ _ (hs1 _ _ _ (hs1 _ _ _ (hs1 _ _ _ HB5.out)))⟩, HO2⟩
        case measure => simp [intOf]; omega
    · obtain rfl : j = l.length := by omega
      rw [List.take_length] at hO
      have r0 := hA.out.1.cell
      have r1 := hA.out.1.frozen
      clear HL
      go_wp2
      refine bodyPost_ret (v := .tuple #[.agg #[.int .i64 8, .int .i64 0, .slice none 0 0, .slice (some ⟨w.heap.size + 1, 0, none⟩) l.length l.length], .int .i64 0]) (by rw [results_cell2t (fn := Tryz.f51) (p := 2) (a := 3) (ty := 28) (by kernel_rfl)]; simp [go_sem, r0, r1]) rfl ?_
      have hK : ∀ (W : World) i u, Tgt.Keeps (fun b => w.heap.size + 1 ≤ b) W (W.setCell ⟨w.heap.size, i, none⟩ u) := fun W i u b o v hb hv => by have hb : w.heap.size + 1 ≤ b := hb; rw [World.cell?_of_block (w := W) (Below.heap_setCell _ _ _ _ (by show b ≠ w.heap.size; omega))]; exact hv
      have hKK := fun W u0 u1 u2 u3 => (((hK W 0 u0).trans (hK _ 1 u1)).trans ((hK _ 2 u2).trans (hK _ 3 u3)))
      have hlm : (sumT l).ks.length = l.length := by show (l.map sumK).length = _; rw [List.length_map]
      have hTL := hP.out.fin (hKK _ (.int .i64 8) (.int .i64 0) (.slice none 0 0) (.slice (some ⟨w.heap.size + 1, 0, none⟩) l.length l.length)) (l := l.map sumK) (by rw [List.length_map]) (fun i y hy => by unfold upF; rw [if_pos (by have := (List.getElem?_eq_some_iff.1 hy).1; rw [List.length_map] at this; exact this)]; exact hy) (by have := HLEN.out; omega)
      refine ⟨.inl ⟨hO.out, none, 0, some ⟨w.heap.size + 1, 0, none⟩, l.length, N + 1, ?_, ?_⟩, HSS.out _ _ _ (HSS.out _ _ _ (HSS.out _ _ _ (HSS.out _ _ _ hA.out.2)))⟩
      · rw [hlm]; rfl
      · rw [hlm]
        exact ⟨_, _, rfl, (⟨by omega, by omega⟩ : Tgt.R64 8), (⟨by omega, by omega⟩ : Tgt.R64 0), .inr ⟨rfl, none, 0, rfl⟩, Tgt.TAtL.move hTL (Tgt.Keeps.refl _ _) (fun b hb => by have hb : w.heap.size + 1 ≤ b := hb; show w.heap.size ≤ b; omega)⟩

set_option maxRecDepth 100000 in
theorem fits_any (w : World) (s : Int) : Calls Tryz.prog 50 #[.int .i64 s] w fun e w' => e = .returned (.bool (decide (0 ≤ s ∧ s ≤ 2147483647))) ∧ w' = w := by
  obtain ⟨q, hq⟩ : ∃ q, decide (0 ≤ s ∧ s ≤ 2147483647) = q := ⟨_, rfl⟩
  rw [hq]
  by_cases h1 : 0 ≤ s
  · by_cases h2 : s ≤ 2147483647
    · have HE : Hid (q = true) := hq.symm.trans (decide_eq_true ⟨h1, h2⟩)
      clear hq
      go_enter Tryz.func50, Tryz.ntmps50
      go_wp2
      go_ret
      exact ⟨by rw [HE.out]; rfl, rfl⟩
    · have HE : Hid (q = false) := hq.symm.trans (decide_eq_false (fun h => h2 h.2))
      clear hq
      go_enter Tryz.func50, Tryz.ntmps50
      go_wp2
      go_ret
      exact ⟨by rw [HE.out]; rfl, rfl⟩
  · have HE : Hid (q = false) := hq.symm.trans (decide_eq_false (fun h => h1 h.1))
    clear hq
    go_enter Tryz.func50, Tryz.ntmps50
    go_wp2
    go_ret
    exact ⟨by rw [HE.out]; rfl, rfl⟩

set_option maxHeartbeats 4000000 in
set_option maxRecDepth 100000 in
theorem Rep_any (w : World) (n : Nat) (s : Int) (v : Value) (l : List Ct) (h : CtL w Any n v l) (hcnt : Ct.cntL l ≤ 1048576) (hlen : l.length ≤ 1048576) : Calls Tryz.prog 23 #[.int .i64 s, v] w fun e w' => TtAns2 (okRep s l) (repT s l) w e w' ∧ Below w.heap.size w w' := by
  obtain ⟨a1, c1, rfl, -⟩ := h.form
  have hQ := fun wz (hz : Below w.heap.size w wz) => Sum_any wz n _ l (h.below hz) hcnt hlen
  have HB1 : Hid (Below w.heap.size w (w.alloc (.cells #[.int .i64 0, .int .i64 0, .slice none 0 0, .slice none 0 0] 28))) := bl_alloc (Below.refl _ _) _
  have Y1 : Hid (Arr (w.alloc (.cells #[.int .i64 0, .int .i64 0, .slice none 0 0, .slice none 0 0] 28)) w.heap.size 28 [.int .i64 0, .int .i64 0, .slice none 0 0, .slice none 0 0]) := ⟨heap_alloc_at _ _⟩
  have HSS : Hid (∀ (W : World) i u, Below w.heap.size w W → Below w.heap.size w (W.setCell ⟨w.heap.size, i, none⟩ u)) := fun W i u h => bl_set _ _ h (Nat.le_refl _)
  have HZ1 : Hid ((w.alloc (.cells #[.int .i64 0, .int .i64 0, .slice none 0 0, .slice none 0 0] 28)).heap.size = w.heap.size + 1) := size_alloc _ _
  have HFi : Hid (∀ wz, Calls Tryz.prog 50 #[.int .i64 s] wz fun e w' => e = .returned (.bool (decide (0 ≤ s ∧ s ≤ 2147483647))) ∧ w' = wz) := fun wz => fits_any wz s
  clear h
  have hRT : repT s l = .mk 9 s [] [sumT l] := rfl
  have hOK : okRep s l = (okSum l && decide (0 ≤ s ∧ s ≤ 2147483647)) := rfl
  by_cases hs : 0 ≤ s ∧ s ≤ 2147483647
  · rw [decide_eq_true hs] at HFi hOK
    cases hos : okSum l with
    | false =>
      have HQ : Hid (Calls Tryz.prog 51 #[.slice a1 l.length c1] (w.alloc (.cells #[.int .i64 0, .int .i64 0, .slice none 0 0, .slice none 0 0] 28)) fun e w' => e = .returned (.tuple #[.agg #[.int .i64 0, .int .i64 0, .slice none 0 0, .slice none 0 0], .int .i64 1]) ∧ Below (w.alloc (.cells #[.int .i64 0, .int .i64 0, .slice none 0 0, .slice none 0 0] 28)).heap.size (w.alloc (.cells #[.int .i64 0, .int .i64 0, .slice none 0 0, .slice none 0 0] 28)) w') := (hQ _ HB1.out).mono fun e w' ⟨h1, h2⟩ => ⟨h1.resolve_left (fun h => by have := h.1; rw [hos] at this; cases this) |>.2, h2⟩
      have HK : Hid (okRep s l = false) := by show _ = _; rw [hOK, hos]; rfl
      clear hQ hos hRT hOK
      go_enter Tryz.func23, Tryz.ntmps23
      go_wp2_with (first | (go_at_call 50; refine (HFi.out _).mono ?_; rintro e w2 ⟨rfl, hw⟩; rw [hw]; clear hw w2) | (go_at_call 51; refine HQ.out.mono ?_; rintro e w4 ⟨rfl, b4⟩; have HB4 := hid (bl_tr HB1.out b4); have y4 := fun o => ((Y1.out.stays b4).stays (bl_alloc (Below.refl _ _) o)).cell; have z4 := fun o => ((Y1.out.stays b4).stays (bl_alloc (Below.refl _ _) o)).frozen; clear b4))
      refine bodyPost_ret (v := .tuple #[.agg #[.int .i64 0, .int .i64 0, .slice none 0 0, .slice none 0 0], .int .i64 1]) (by rw [results_cell2t (fn := Tryz.f23) (p := 4) (a := 5) (ty := 28) (by kernel_rfl)]; simp [go_sem, y4, z4]) rfl ?_
      exact ⟨.inr ⟨HK.out, rfl⟩, HSS.out _ _ _ (HSS.out _ _ _ (HSS.out _ _ _ (HSS.out _ _ _ (bl_alloc HB4.out _))))⟩
    | true =>
      have HK : Hid (okRep s l = true) := by show _ = _; rw [hOK, hos]; rfl
      obtain ⟨y, hy⟩ : ∃ y, sumT l = y := ⟨_, rfl⟩
      rw [hy] at hQ hRT
      have HRT := hid hRT
      have hs64 : Tgt.R64 s := ⟨by omega, by omega⟩
      have HQ : Hid (Calls Tryz.prog 51 #[.slice a1 l.length c1] (w.alloc (.cells #[.int .i64 0, .int .i64 0, .slice none 0 0, .slice none 0 0] 28)) fun e w' => (∃ a4' c4' a4 c4 N4, e = .returned (.tuple #[.agg #[.int .i64 y.k, .int .i64 y.n, .slice a4' y.ls.length c4', .slice a4 y.ks.length c4], .int .i64 0]) ∧ Tgt.TAt w' (fun b => (w.alloc (.cells #[.int .i64 0, .int .i64 0, .slice none 0 0, .slice none 0 0] 28)).heap.size ≤ b) N4 [.int .i64 y.k, .int .i64 y.n, .slice a4' y.ls.length c4', .slice a4 y.ks.length c4] y) ∧ Below (w.alloc (.cells #[.int .i64 0, .int .i64 0, .slice none 0 0, .slice none 0 0] 28)).heap.size (w.alloc (.cells #[.int .i64 0, .int .i64 0, .slice none 0 0, .slice none 0 0] 28)) w') := (hQ _ HB1.out).mono fun e w' ⟨h1, h2⟩ => ⟨(h1.resolve_right (fun h => by have := h.1; rw [hos] at this; cases this)).2, h2⟩
      have HBi : Hid (∀ (W : World) (N : Nat) (a4' a4 : Option Addr) (c4' c4 : Nat), Tgt.TAt W (fun b => w.heap.size + 1 ≤ b) N [.int .i64 y.k, .int .i64 y.n, .slice a4' y.ls.length c4', .slice a4 y.ks.length c4] y → w.heap.size + 1 ≤ W.heap.size → Calls Tryz.prog 41 #[.int .i64 9, .int .i64 s, .agg #[.int .i64 y.k, .int .i64 y.n, .slice a4' y.ls.length c4', .slice a4 y.ks.length c4]] W fun e w' => ∃ a c, e = .returned (.agg #[.int .i64 9, .int .i64 s, .slice none 0 0, .slice a 1 c]) ∧ Tgt.TAt w' (fun b => w.heap.size + 1 ≤ b) (N + 1) [.int .i64 9, .int .i64 s, .slice none 0 0, .slice a 1 c] (.mk 9 s [] [y]) ∧ Below W.heap.size W w') := fun W N a4' a4 c4' c4 hT hW => binder_any W _ N 9 s y a4' a4 c4' c4 ⟨by omega, by omega⟩ hs64 hT (fun b hb => by show _ ≤ b; omega)
      clear hQ hos hy hOK hRT
      go_enter Tryz.func23, Tryz.ntmps23
      go_wp2_with (first | (go_at_call 50; refine (HFi.out _).mono ?_; rintro e w2 ⟨rfl, hw⟩; rw [hw]; clear hw w2) | (go_at_call 51; refine HQ.out.mono ?_; rintro e w4 ⟨⟨a4', c4', a4, c4, N4, rfl, hT4⟩, b4⟩; have hb5 := bl_alloc b4 (.cells #[.int .i64 y.k, .int .i64 y.n, .slice a4' y.ls.length c4', .slice a4 y.ks.length c4] 28); have HB5 := hid (bl_tr HB1.out hb5); have HY5 := hid (Y1.out.stays hb5); have HT5 : Hid (Tgt.TAt (w4.alloc (.cells #[.int .i64 y.k, .int .i64 y.n, .slice a4' y.ls.length c4', .slice a4 y.ks.length c4] 28)) (fun b => w.heap.size + 1 ≤ b) N4 [.int .i64 y.k, .int .i64 y.n, .slice a4' y.ls.length c4', .slice a4 y.ks.length c4] y) := (hT4.below (bl_alloc (Below.refl _ _) _)).move (Tgt.Keeps.refl _ _) (fun b hb => by have hb := hb; rw [HZ1.out] at hb; exact hb); have HS5 : Hid (w.heap.size + 1 ≤ (w4.alloc (.cells #[.int .i64 y.k, .int .i64 y.n, .slice a4' y.ls.length c4', .slice a4 y.ks.length c4] 28)).heap.size) := HY5.out.lt; clear b4 hT4 hb5 HQ) | (go_at_call 41; refine (HBi.out _ N4 a4' a4 c4' c4 HT5.out HS5.out).mono ?_; rintro e w6 ⟨a6, c6, rfl, hT6, b6⟩; have HT6 := hid hT6; have HB6 := hid (bl_tr HB5.out b6); have y6 := (HY5.out.stays b6).cell; have z6 := (HY5.out.stays b6).frozen; clear b6 hT6))
      refine bodyPost_ret (v := .tuple #[.agg #[.int .i64 9, .int .i64 s, .slice none 0 0, .slice a6 1 c6], .int .i64 0]) (by rw [results_cell2t (fn := Tryz.f23) (p := 4) (a := 5) (ty := 28) (by kernel_rfl)]; simp [go_sem, y6, z6]) rfl ?_
      rw [HRT.out]
      have hK : ∀ (W : World) i u, Tgt.Keeps (fun b => w.heap.size + 1 ≤ b) W (W.setCell ⟨w.heap.size, i, none⟩ u) := fun W i u b o v hb hv => by have hb : w.heap.size + 1 ≤ b := hb; rw [World.cell?_of_block (w := W) (Below.heap_setCell _ _ _ _ (by show b ≠ w.heap.size; omega))]; exact hv
      exact ⟨.inl ⟨HK.out, none, 0, a6, c6, _, rfl, HT6.out.move (((hK _ _ _).trans (hK _ _ _)).trans ((hK _ _ _).trans (hK _ _ _))) (fun b hb => by have hb : w.heap.size + 1 ≤ b := hb; show w.heap.size ≤ b; omega)⟩, HSS.out _ _ _ (HSS.out _ _ _ (HSS.out _ _ _ (HSS.out _ _ _ HB6.out)))⟩
  · rw [decide_eq_false hs] at HFi hOK
    have HK : Hid (okRep s l = false) := by show _ = _; rw [hOK, Bool.and_false]
    have y1 := Y1.out.cell
    have z1 := Y1.out.frozen
    clear hQ hRT hOK hs
    go_enter Tryz.func23, Tryz.ntmps23
    go_wp2_with (go_at_call 50; refine (HFi.out _).mono ?_; rintro e w2 ⟨rfl, hw⟩; rw [hw]; clear hw w2)
    refine bodyPost_ret (v := .tuple #[.agg #[.int .i64 0, .int .i64 0, .slice none 0 0, .slice none 0 0], .int .i64 1]) (by rw [results_cell2t (fn := Tryz.f23) (p := 4) (a := 5) (ty := 28) (by kernel_rfl)]; simp [go_sem, y1, z1]) rfl ?_
    exact ⟨.inr ⟨HK.out, rfl⟩, by first | exact HSS.out _ _ _ (HSS.out _ _ _ (HSS.out _ _ _ (HSS.out _ _ _ HB1.out))) | exact HB1.out⟩
end Go.Proofs.YtigliglmejkakaaGreat
