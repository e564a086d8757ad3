/- The document's Scheme. -/
import Derived.Test.YtigliglmejkakaaQaq
import Derived.Test.YtigliglmejkakaaQae
namespace Go.Proofs.Ytigliglmejkakaa
open Go.RowKit
set_option linter.unusedVariables false
set_option linter.unusedSimpArgs false

theorem ups_memt : ∀ (l : List Int) (i : Nat), Tp.ups l i = true → ∀ x, x ∈ l ↔ (i : Int) ≤ x ∧ x < i + l.length
  | [], i, _, x => by simp
  | y :: r, i, h, x => by
    rw [Tp.ups, Bool.and_eq_true, decide_eq_true_eq] at h
    rw [List.mem_cons, ups_memt r (i + 1) h.2, h.1]
    simp only [List.length_cons]
    omega
theorem rightS_allt {g : Int} {t : Tp} (h : Tp.rightS g t = true) (x : Int) : x ∈ Tp.all 8 t ↔ 0 ≤ x ∧ x < g := by
  unfold Tp.rightS at h
  simp only [Bool.and_eq_true, decide_eq_true_eq] at h
  rw [← Tp.mem_fnd, ups_memt _ 0 h.2.1]
  omega
theorem rightS_gt {g : Int} {t : Tp} (h : Tp.rightS g t = true) (hc : t.cnt ≤ 1048576) : 0 ≤ g ∧ g ≤ 1048576 := by
  unfold Tp.rightS at h
  simp only [Bool.and_eq_true, decide_eq_true_eq] at h
  have := Tp.found_lenD 8 t []
  simp at this
  omega
/-- One more than the greatest, 0 of none. -/
def topK (l : List Int) : Int := l.foldl (fun k x => if k ≤ x then x + 1 else k) 0
theorem topK_take {l : List Int} {i : Nat} {x : Int} (hx : l[i]? = some x) : topK (l.take (i + 1)) = if topK (l.take i) ≤ x then x + 1 else topK (l.take i) := by
  unfold topK
  rw [List.take_add_one, hx, List.foldl_append]
  rfl
theorem okStamps_mem {l : List Int} (h : okStamps l = true) : ∀ x ∈ l, 0 ≤ x ∧ x ≤ 2147483647 := by
  unfold okStamps at h
  rw [List.all_eq_true] at h
  exact fun x hx => by simpa using h x hx
theorem topK_le {l : List Int} (h : okStamps l = true) : ∀ i, i ≤ l.length → 0 ≤ topK (l.take i) ∧ topK (l.take i) ≤ 2147483648
  | 0, _ => by simp [topK]
  | i + 1, hi => by
    obtain ⟨x, hx⟩ : ∃ x, l[i]? = some x := ⟨_, List.getElem?_eq_getElem (by omega)⟩
    have := topK_le h i (by omega)
    have h2 := okStamps_mem h x (List.mem_of_getElem? hx)
    rw [topK_take hx]
    split <;> omega
/-- So many numbers from one on. -/
def numsT (k : Int) (g : Nat) : List Int := (List.range g).map fun (i : Nat) => k + (i : Int)
theorem numsT_succ (k : Int) (g : Nat) : numsT k (g + 1) = numsT k g ++ [k + (g : Int)] := by unfold numsT; rw [List.range_succ, List.map_append]; rfl
theorem numsT_len (k : Int) (g : Nat) : (numsT k g).length = g := by simp [numsT]
def Tp.okS (g : Int) (t : Tp) : Bool := Tp.rightS g t && (decide ((Tp.found 7 t []).length = 0) && okStamps (Tp.found 6 t []))
/-- The target type of a scheme. -/
def Tp.schemeT (g : Int) (t : Tp) : Tgt.Tt := Tt.around 10 (numsT (topK (Tp.found 6 t [])) g.toNat) (Tp.made (topK (Tp.found 6 t [])) t)
/-- What a call that makes a target type answers, wherever its labels lie. -/
def TtAns2 (ok : Bool) (y : Tgt.Tt) (w : World) (e : Ending) (w' : World) : Prop :=
  (ok = true ∧ ∃ a' c' a c N, e = .returned (.tuple #[.agg #[.int .i64 y.k, .int .i64 y.n, .slice a' y.ls.length c', .slice a y.ks.length c], .int .i64 0]) ∧ Tgt.TAt w' (fun b => w.heap.size ≤ b) N [.int .i64 y.k, .int .i64 y.n, .slice a' y.ls.length c', .slice a y.ks.length c] y) ∨
  (ok = false ∧ e = .returned (.tuple #[.agg #[.int .i64 0, .int .i64 0, .slice none 0 0, .slice none 0 0], .int .i64 1]))
theorem TtAns.two {ok : Bool} {y : Tgt.Tt} {w : World} {e : Ending} {w' : World} (h : TtAns ok y w e w') : TtAns2 ok y w e w' := by
  rcases h with ⟨h1, a, c, N, h2, h3, h4⟩ | h
  · have hl : y.ls.length = 0 := by rw [h4]; rfl
    exact .inl ⟨h1, none, 0, a, c, N, by rw [hl]; exact h2, by rw [hl]; exact h3⟩
  · exact .inr h
/-- A list of numbers of one's own, behind two boxes. -/
structure Nst (w : World) (cs : List Value) (k : Int) (i : Nat) (v : Value) (wr : World) : Prop where
  bl : Below w.heap.size w wr
  a0 : Arr wr w.heap.size 26 cs
  a1 : Arr wr (w.heap.size + 1) 30 [.int .i64 0, .int .i64 0, .slice none 0 0, .slice none 0 0]
  own : wr.ownsRow (w.heap.size + 2) 3 1 v i ((numsT k i).map (.int .i64))
theorem Nst.app {w : World} {cs : List Value} {k : Int} {i : Nat} {v v' : Value} {wr w1 w2 : World} (h : Nst w cs k i v wr) (hb : Below wr.heap.size wr w1) (ho : w2.ownsRow (w.heap.size + 2) 3 1 v' (i + 1) ((numsT k i).map (.int .i64) ++ [.int .i64 (k + (i : Int))])) (hg : w1.grownBy w2 v.ownBlock) : Nst w cs k (i + 1) v' w2 := by
  have hrow : ∀ b, v.ownBlock = some b → w.heap.size + 2 ≤ b := fun b hb => (h.own.lt b hb).1
  have hsz := h.a1.lt
  refine ⟨(bl_tr h.bl hb).grown hg (by have := hb.size; omega) (fun b e => by have := hrow b e; omega), (h.a0.stays hb).grown hg (fun e => by have := hrow _ e.symm; omega), (h.a1.stays hb).grown hg (fun e => by have := hrow _ e.symm; omega), ?_⟩
  rw [numsT_succ, List.map_append]
  exact ho
theorem Nst.ls {w : World} {cs : List Value} {k : Int} {i : Nat} {v : Value} {wr : World} (h : Nst w cs k i v wr) : Ls wr Any v (numsT k i) := by
  rcases h.own.2 with ⟨rfl, h0⟩ | ⟨g, cap, cur, rfl, hb, hh, hle, hcm, hsz, htk⟩
  · exact .inr ⟨by rw [h0]; rfl, none, 0, rfl⟩
  · refine .inl ⟨g, 0, cap, by rw [numsT_len], trivial, by rw [numsT_len]; exact hle, by rw [numsT_len]; omega, fun j x hx => ?_⟩
    have hq : ((numsT k i).map (Value.int IntKind.i64))[j]? = some (.int .i64 x) := by rw [List.getElem?_map, hx]; rfl
    rw [← htk, List.getElem?_take] at hq
    split at hq
    · rw [cell_at hh, Nat.zero_add]
      rw [Array.getElem?_toList] at hq
      exact hq
    · cases hq

set_option maxHeartbeats 4000000 in
set_option maxRecDepth 100000 in
theorem refTScheme_any (w : World) (n : Nat) (g : Int) (vs : List Value) (t : Tp) (hT : TAt w Any n vs t) (hcnt : t.cnt ≤ 1048576) : Calls Try.prog 8 #[.agg (.int .i64 g :: vs).toArray] w fun e w' => TtAns2 (t.okS g) (t.schemeT g) w e w' ∧ Below w.heap.size w w' := by
  obtain ⟨a1, c1, rfl⟩ := hT.form
  have hOK : t.okS g = (Tp.rightS g t && (decide ((Tp.found 7 t []).length = 0) && okStamps (Tp.found 6 t []))) := rfl
  have hST : t.schemeT g = Tt.around 10 (numsT (topK (Tp.found 6 t [])) g.toNat) (Tp.made (topK (Tp.found 6 t [])) t) := rfl
  have hlen6 := Tp.found_lenD 6 t []
  have hlen7 := Tp.found_lenD 7 t []
  simp only [List.length_nil, Nat.zero_add] at hlen6 hlen7
  have hR : Hid (∀ wz, Below w.heap.size w wz → Calls Try.prog 29 #[.agg #[.int .i64 g, .int .i64 t.k, .int .i64 t.n, .slice a1 t.ks.length c1]] wz fun e w' => e = .returned (.bool (Tp.rightS g t)) ∧ Below wz.heap.size wz w') := fun wz hz => refRightScheme_any wz n g _ t (hT.below hz) hcnt
  have hS := hid (fun wz (hz : Below w.heap.size w wz) => (refStamps_any wz n _ t (hT.below hz) hcnt).mono fun e w' ⟨p, c, h1, h2, h3⟩ => And.intro (Exists.intro p (Exists.intro c (And.intro h1 h2))) h3)
  have hM7 := hid (fun wz (hz : Below w.heap.size w wz) => (refMetas_any wz n _ t (hT.below hz) hcnt).mono fun e w' ⟨p, c, h1, h2, h3⟩ => And.intro (Exists.intro p (Exists.intro c h1)) h3)
  have HB2 : Hid (Below w.heap.size w ((w.alloc (.cells #[.int .i64 g, .int .i64 t.k, .int .i64 t.n, .slice a1 t.ks.length c1] 26)).alloc (.cells #[.int .i64 0, .int .i64 0, .slice none 0 0, .slice none 0 0] 30))) := bl_alloc (bl_alloc (Below.refl _ _) _) _
  have X2 : Hid (Arr ((w.alloc (.cells #[.int .i64 g, .int .i64 t.k, .int .i64 t.n, .slice a1 t.ks.length c1] 26)).alloc (.cells #[.int .i64 0, .int .i64 0, .slice none 0 0, .slice none 0 0] 30)) w.heap.size 26 [.int .i64 g, .int .i64 t.k, .int .i64 t.n, .slice a1 t.ks.length c1]) := Arr.stays ⟨heap_alloc_at _ _⟩ (bl_alloc (Below.refl _ _) _)
  have Y2 : Hid (Arr ((w.alloc (.cells #[.int .i64 g, .int .i64 t.k, .int .i64 t.n, .slice a1 t.ks.length c1] 26)).alloc (.cells #[.int .i64 0, .int .i64 0, .slice none 0 0, .slice none 0 0] 30)) (w.heap.size + 1) 30 [.int .i64 0, .int .i64 0, .slice none 0 0, .slice none 0 0]) := ⟨by have := heap_alloc_at (w.alloc (.cells #[.int .i64 g, .int .i64 t.k, .int .i64 t.n, .slice a1 t.ks.length c1] 26)) (.cells #[.int .i64 0, .int .i64 0, .slice none 0 0, .slice none 0 0] 30); rw [size_alloc] at this; exact this⟩
  have HTT := hid hT
  clear hT
  generalize hL6 : Tp.found 6 t [] = L6 at hOK hST hlen6 hS
  generalize hm7 : (Tp.found 7 t []).length = m7 at hOK hlen7 hM7
  have hT6 : Hid (∀ (wz : World) p c, Ls wz Any (.slice p L6.length c) L6 → Calls Try.prog 23 #[.slice p L6.length c] wz fun e w' => e = .returned (.bool (okStamps L6)) ∧ w' = wz) := fun wz p c h => rstamps_any wz _ _ h
  clear hL6 hm7
  cases hr : Tp.rightS g t with
  | false =>
    rw [hr] at hR
    have HK : Hid (t.okS g = false) := by show _ = _; rw [hOK, hr]; rfl
    clear hr hcnt hM7 hT6 HTT hOK hST
    go_enter Try.func8, Try.ntmps8
    go_wp2_with (first | (go_at_call 24; refine (hS.out _ HB2.out).mono ?_; rintro e w3 ⟨⟨p3, c3, rfl, hl3⟩, b3⟩; have HB3 := hid (bl_tr HB2.out b3); have X3 := hid (X2.out.stays b3); have Y3 := hid (Y2.out.stays b3); have q3 := X3.out.cell; have r3 := Y3.out.cell; have s3 := Y3.out.frozen; have HL3 := hid hl3; clear b3 hS hl3) | (go_at_call 29; refine (hR.out _ HB3.out).mono ?_; rintro e w4 ⟨rfl, b4⟩; have HB4 := hid (bl_tr HB3.out b4); have X4 := hid (X3.out.stays b4); have Y4 := hid (Y3.out.stays b4); have q4 := X4.out.cell; have r4 := Y4.out.cell; have s4 := Y4.out.frozen; have HL4 := hid (HL3.out.below b4); clear b4 hR HL3 q3 r3 s3))
    refine bodyPost_ret (v := .tuple #[.agg #[.int .i64 0, .int .i64 0, .slice none 0 0, .slice none 0 0], .int .i64 1]) (by rw [results_cell2t (fn := Try.f8) (p := 2) (a := 3) (ty := 30) (by kernel_rfl)]; simp [go_sem, r4, s4]) rfl ?_
    have hs : ∀ (W : World) i u, Below w.heap.size w W → Below w.heap.size w (W.setCell ⟨w.heap.size + 1, i, none⟩ u) := fun W i u h => bl_set _ _ h (by show _ ≤ w.heap.size + 1; omega)
    exact ⟨.inr ⟨HK.out, rfl⟩, hs _ _ _ (hs _ _ _ (hs _ _ _ (hs _ _ _ HB4.out)))⟩
  | true =>
  rw [hr] at hR
  by_cases h7 : m7 = 0
  · cases hs6 : okStamps L6 with
    | false =>
      rw [hs6] at hT6
      have HK : Hid (t.okS g = false) := by show _ = _; rw [hOK, hs6, Bool.and_false, Bool.and_false]
      subst h7
      clear hr hcnt HTT hOK hST hs6
      go_enter Try.func8, Try.ntmps8
      go_wp2_with (first | (go_at_call 24; refine (hS.out _ HB2.out).mono ?_; rintro e w3 ⟨⟨p3, c3, rfl, hl3⟩, b3⟩; have HB3 := hid (bl_tr HB2.out b3); have X3 := hid (X2.out.stays b3); have Y3 := hid (Y2.out.stays b3); have q3 := X3.out.cell; have r3 := Y3.out.cell; have s3 := Y3.out.frozen; have HL3 := hid hl3; clear b3 hS hl3) | (go_at_call 29; refine (hR.out _ HB3.out).mono ?_; rintro e w4 ⟨rfl, b4⟩; have HB4 := hid (bl_tr HB3.out b4); have X4 := hid (X3.out.stays b4); have Y4 := hid (Y3.out.stays b4); have q4 := X4.out.cell; have r4 := Y4.out.cell; have s4 := Y4.out.frozen; have HL4 := hid (HL3.out.below b4); clear b4 hR HL3 q3 r3 s3) | (go_at_call 30; refine (hM7.out _ HB4.out).mono ?_; rintro e w5 ⟨⟨p5, c5, rfl⟩, b5⟩; have HB5 := hid (bl_tr HB4.out b5); have X5 := hid (X4.out.stays b5); have Y5 := hid (Y4.out.stays b5); have q5 := X5.out.cell; have r5 := Y5.out.cell; have s5 := Y5.out.frozen; have HL5 := hid (HL4.out.below b5); clear b5 hM7 HL4 q4 r4 s4) | (go_at_call 23; refine (hT6.out _ _ _ HL5.out).mono ?_; rintro e w6 ⟨rfl, hw⟩; rw [hw]; clear hw w6 hT6))
      refine bodyPost_ret (v := .tuple #[.agg #[.int .i64 0, .int .i64 0, .slice none 0 0, .slice none 0 0], .int .i64 1]) (by rw [results_cell2t (fn := Try.f8) (p := 2) (a := 3) (ty := 30) (by kernel_rfl)]; simp [go_sem, r5, s5]) rfl ?_
      have hs : ∀ (W : World) i u, Below w.heap.size w W → Below w.heap.size w (W.setCell ⟨w.heap.size + 1, i, none⟩ u) := fun W i u h => bl_set _ _ h (by show _ ≤ w.heap.size + 1; omega)
      exact ⟨.inr ⟨HK.out, rfl⟩, hs _ _ _ (hs _ _ _ (hs _ _ _ (hs _ _ _ HB5.out)))⟩
    | true =>
      rw [hs6] at hT6
      have HK : Hid (t.okS g = true) := by show _ = _; rw [hOK, hr, hs6, h7]; rfl
      obtain ⟨g', rfl⟩ : ∃ g' : Nat, g = g' := ⟨g.toNat, by have := rightS_gt hr hcnt; omega⟩
      have hgl : g' ≤ 1048576 := by have := rightS_gt hr hcnt; omega
      rw [Int.toNat_natCast] at hST
      have HTK := hid (topK_le hs6)
      have HST := hid hST
      have hkk : topK L6 ≤ 2147483648 ∧ 0 ≤ topK L6 := by have := topK_le hs6 L6.length (Nat.le_refl _); rw [List.take_length] at this; exact ⟨this.2, this.1⟩
      have hMd : Hid (∀ wz, Below w.heap.size w wz → Calls Try.prog 25 #[.agg #[.int .i64 t.k, .int .i64 t.n, .slice a1 t.ks.length c1], .int .i64 (topK L6)] wz (TmAns wz (Tp.made (topK L6) t))) := fun wz hz => made_any n wz _ t _ (HTT.out.below hz) hcnt (fun x hx => by have := (rightS_allt hr x).1 hx; unfold R64; omega)
      have HM6 := hid (okStamps_mem hs6)
      have hl6 : L6.length ≤ 1048576 := by omega
      obtain ⟨i0, hi0, hz0, hz1, hz2⟩ := info_parts0 info_int
      subst h7
      clear hr hcnt HTT hOK hs6 hST
      go_enter Try.func8, Try.ntmps8
      go_wp2_with (first | (go_at_call 24; refine (hS.out _ HB2.out).mono ?_; rintro e w3 ⟨⟨p3, c3, rfl, hl3⟩, b3⟩; have HB3 := hid (bl_tr HB2.out b3); have X3 := hid (X2.out.stays b3); have Y3 := hid (Y2.out.stays b3); have q3 := X3.out.cell; have r3 := Y3.out.cell; have s3 := Y3.out.frozen; have HL3 := hid hl3; clear b3 hS hl3) | (go_at_call 29; refine (hR.out _ HB3.out).mono ?_; rintro e w4 ⟨rfl, b4⟩; have HB4 := hid (bl_tr HB3.out b4); have X4 := hid (X3.out.stays b4); have Y4 := hid (Y3.out.stays b4); have q4 := X4.out.cell; have r4 := Y4.out.cell; have s4 := Y4.out.frozen; have HL4 := hid (HL3.out.below b4); clear b4 hR HL3 q3 r3 s3) | (go_at_call 30; refine (hM7.out _ HB4.out).mono ?_; rintro e w5 ⟨⟨p5, c5, rfl⟩, b5⟩; have HB5 := hid (bl_tr HB4.out b5); have X5 := hid (X4.out.stays b5); have Y5 := hid (Y4.out.stays b5); have q5 := X5.out.cell; have r5 := Y5.out.cell; have s5 := Y5.out.frozen; have HL5 := hid (HL4.out.below b5); clear b5 hM7 HL4 q4 r4 s4) | (go_at_call 23; refine (hT6.out _ _ _ HL5.out).mono ?_; rintro e w6 ⟨rfl, hw⟩; rw [hw]; clear hw w6 hT6))
      go_loopw [5, 6] (fun v5 v6 wr => ∃ i : Nat, v5 = .int .i64 (topK (L6.take i)) ∧ v6 = .int .i64 i ∧ i ≤ L6.length ∧ wr = w5) (fun _ v6 _ => L6.length - (intOf v6).toNat)
      case atStart => exact ⟨0, rfl, rfl, Nat.zero_le _, rfl⟩
      case round =>
        obtain ⟨i, rfl, rfl, hil, hwr⟩ := hrel
        subst wr
        by_cases hlt : i < L6.length
        · obtain ⟨x, hx⟩ : ∃ x, L6[i]? = some x := ⟨_, List.getElem?_eq_getElem hlt⟩
          obtain ⟨lb, lo, lc', hv, -, -, -, hlc⟩ := HL5.out.resolve_right (fun h => by rw [h.1] at hlt; exact absurd hlt (Nat.not_lt_zero _))
          injection hv with e1 e2 e3
          subst e1
          have hc5 := hlc i x hx
          have hx6 := HM6.out x (List.mem_of_getElem? hx)
          have HN := hid (topK_take hx)
          have hw : IntKind.i64.wrap (x + 1) = x + 1 := by rw [IntKind.wrap_i64]; omega
          clear hlc hx e2 e3
          by_cases hle : topK (L6.take i) ≤ x
          · have HN2 : Hid (topK (L6.take (i + 1)) = x + 1) := by show _ = _; rw [HN.out, if_pos hle]
            go_wp2
            go_roundw
            case rel => exact ⟨i + 1, by rw [HN2.out], by go_num, by omega, by first | rfl | trivial⟩
            case measure => simp [intOf]; omega
          · have HN2 : Hid (topK (L6.take (i + 1)) = topK (L6.take i)) := by show _ = _; rw [HN.out, if_neg hle]
            go_wp2
            go_roundw
            case rel => exact ⟨i + 1, by rw [HN2.out], by go_num, by omega, by first | rfl | trivial⟩
            case measure => simp [intOf]; omega
        · obtain rfl : i = L6.length := by omega
          rw [List.take_length]
          have HN0 : Hid (Nst w [.int .i64 (g' : Int), .int .i64 t.k, .int .i64 t.n, .slice a1 t.ks.length c1] (topK L6) 0 (.slice none 0 0) w5) := ⟨HB5.out, X5.out, Y5.out, World.ownsRow_nil _ _ _ _⟩
          clear HL5 X5 Y5
          go_wp2
          go_loopw [7, 8] (fun v7 v8 wr => ∃ i : Nat, v8 = .int .i64 i ∧ i ≤ g' ∧ Hid (Nst w [.int .i64 (g' : Int), .int .i64 t.k, .int .i64 t.n, .slice a1 t.ks.length c1] (topK L6) i v7 wr)) (fun _ v8 _ => g' - (intOf v8).toNat)
          case atStart => exact ⟨0, rfl, Nat.zero_le _, HN0⟩
          case round =>
            obtain ⟨i, rfl, hig, hN⟩ := hrel
            clear HN0
            obtain ⟨ap, cp, rfl⟩ := own_form hN.out.own
            have p0 := hN.out.a0.cell
            by_cases hlg : i < g'
            · have hw : IntKind.i64.wrap (topK L6 + (i : Int)) = topK L6 + i := by rw [IntKind.wrap_i64]; omega
              clear hMd
              go_wp2_with (at_builtin; refine wpList_append_own _ rfl _ _ 49 rfl (w.heap.size + 2) 3 i0 (.int .i64 0) 1 8 Try.underlying49 hi0 hz0 hz1 hz2 rfl (by decide) _ _ _ rfl (hN.out.own.alloc _) ⟨wr.heap.size, 0, none⟩ 1 1 [.int .i64 (topK L6 + (i : Int))] rfl rfl ?c1 ?c2 ?c3 ?c4 ?c5 ?_)
              case c1 =>
                intro j u hj
                match j, hj with
                | 0, hj => simp at hj; subst hj; simp [Addr.add]
                | j + 1, hj => simp at hj
              case c2 => intro u hu; simp at hu; subst hu; rfl
              case c3 => unfold maxLen; omega
              case c4 => omega
              case c5 => have := hN.out.a1.lt; simp; omega
              intro v' w2 hown' hgrow _
              have HN1 := hid (Nst.app hN.out (bl_alloc (Below.refl _ _) _) hown' hgrow)
              obtain ⟨va, vc, rfl⟩ := own_form hown'
              clear hown' hgrow
              go_wp2
              go_roundw
              case rel => exact ⟨i + 1, by go_num, by omega, HN1⟩
              case measure => simp [intOf]; omega
            · obtain rfl : i = g' := by omega
              obtain ⟨y, hy⟩ : ∃ y, Tp.made (topK L6) t = y := ⟨_, rfl⟩
              obtain ⟨z, hz⟩ : ∃ z, Tt.around 10 (numsT (topK L6) i) y = z := ⟨_, rfl⟩
              rw [hy] at hMd HST
              rw [hz] at HST
              have hAr : Hid (∀ (w7 : World) N7 a7 c7, Below wr.heap.size wr w7 → Tgt.TAt w7 (fun b => wr.heap.size ≤ b) N7 [.int .i64 y.k, .int .i64 y.n, .slice none 0 0, .slice a7 y.ks.length c7] y → Calls Try.prog 31 #[.int .i64 10, .slice ap i cp, .agg #[.int .i64 y.k, .int .i64 y.n, .slice none 0 0, .slice a7 y.ks.length c7]] w7 fun e w' => ∃ a' c' a c N, e = .returned (.agg #[.int .i64 z.k, .int .i64 z.n, .slice a' z.ls.length c', .slice a z.ks.length c]) ∧ Tgt.TAt w' (fun b => wr.heap.size ≤ b) N [.int .i64 z.k, .int .i64 z.n, .slice a' z.ls.length c', .slice a z.ks.length c] z ∧ Below w7.heap.size w7 w') := by
                intro w7 N7 a7 c7 hb hT
                have hls := hN.out.ls.below hb
                have := around_any w7 _ 10 (⟨by omega, by omega⟩ : Tgt.R64 10) _ _ hls (fun x hx => by
                  unfold numsT at hx
                  obtain ⟨j, hj, rfl⟩ := List.mem_map.1 hx
                  have := List.mem_range.1 hj
                  unfold R64
                  omega) N7 _ y hT
                rw [hz] at this
                refine this.mono ?_
                rintro e w' ⟨a', c', a, c, N, h1, h2, h3⟩
                exact ⟨a', c', a, c, N, h1, h2.move (Tgt.Keeps.refl _ _) (fun b hb2 => by have := hb.size; rcases hb2 with h | h <;> (show wr.heap.size ≤ b; omega)), h3⟩
              have HNB := hid hN.out.bl
              have HA1 := hid hN.out.a1
              clear hy hz hN
              go_wp2_with (first
                | (go_at_call 25; refine (hMd.out _ HNB.out).mono ?_; rintro e w7 ⟨a7, c7, N7, rfl, hT7, hls7, b7⟩; have HT7 := hid hT7; have HB7 := hid b7; clear hT7 hls7 b7)
                | (go_at_call 31; refine (hAr.out _ _ _ _ HB7.out HT7.out).mono ?_; rintro e w8 ⟨a8', c8', a8, c8, N8, rfl, hT8, b8⟩; have HT8 := hid hT8; have HB8 := hid (bl_tr HB7.out b8); have r8 := (HA1.out.stays HB8.out).cell; have s8 := (HA1.out.stays HB8.out).frozen; clear hT8 b8))
              refine bodyPost_ret (v := .tuple #[.agg #[.int .i64 z.k, .int .i64 z.n, .slice a8' z.ls.length c8', .slice a8 z.ks.length c8], .int .i64 0]) (by rw [results_cell2t (fn := Try.f8) (p := 2) (a := 3) (ty := 30) (by kernel_rfl)]; simp [go_sem, r8, s8]) rfl ?_
              have hs : ∀ (W : World) i u, Below w.heap.size w W → Below w.heap.size w (W.setCell ⟨w.heap.size + 1, i, none⟩ u) := fun W i u h => bl_set _ _ h (by show _ ≤ w.heap.size + 1; omega)
              have hlt : w.heap.size + 1 < wr.heap.size := HA1.out.lt
              have hK : ∀ (W : World) i u, Tgt.Keeps (fun b => wr.heap.size ≤ b) W (W.setCell ⟨w.heap.size + 1, i, none⟩ u) := fun W i u b o v hb hv => by have hb : wr.heap.size ≤ b := hb; rw [World.cell?_of_block (w := W) (Below.heap_setCell _ _ _ _ (by show b ≠ w.heap.size + 1; omega))]; exact hv
              refine ⟨?_, hs _ _ _ (hs _ _ _ (hs _ _ _ (hs _ _ _ (bl_tr HNB.out HB8.out))))⟩
              rw [HST.out]
              exact .inl ⟨HK.out, a8', c8', a8, c8, N8, rfl, HT8.out.move (((hK _ _ _).trans (hK _ _ _)).trans ((hK _ _ _).trans (hK _ _ _))) (fun b hb => by have hb : wr.heap.size ≤ b := hb; show w.heap.size ≤ b; omega)⟩
  · have HK : Hid (t.okS g = false) := by show _ = _; rw [hOK, decide_eq_false h7]; simp
    have h7g : (0 : Int) < (m7 : Int) := by omega
    clear hr hcnt hT6 HTT hOK hST h7
    go_enter Try.func8, Try.ntmps8
    go_wp2_with (first | (go_at_call 24; refine (hS.out _ HB2.out).mono ?_; rintro e w3 ⟨⟨p3, c3, rfl, hl3⟩, b3⟩; have HB3 := hid (bl_tr HB2.out b3); have X3 := hid (X2.out.stays b3); have Y3 := hid (Y2.out.stays b3); have q3 := X3.out.cell; have r3 := Y3.out.cell; have s3 := Y3.out.frozen; have HL3 := hid hl3; clear b3 hS hl3) | (go_at_call 29; refine (hR.out _ HB3.out).mono ?_; rintro e w4 ⟨rfl, b4⟩; have HB4 := hid (bl_tr HB3.out b4); have X4 := hid (X3.out.stays b4); have Y4 := hid (Y3.out.stays b4); have q4 := X4.out.cell; have r4 := Y4.out.cell; have s4 := Y4.out.frozen; have HL4 := hid (HL3.out.below b4); clear b4 hR HL3 q3 r3 s3) | (go_at_call 30; refine (hM7.out _ HB4.out).mono ?_; rintro e w5 ⟨⟨p5, c5, rfl⟩, b5⟩; have HB5 := hid (bl_tr HB4.out b5); have X5 := hid (X4.out.stays b5); have Y5 := hid (Y4.out.stays b5); have q5 := X5.out.cell; have r5 := Y5.out.cell; have s5 := Y5.out.frozen; have HL5 := hid (HL4.out.below b5); clear b5 hM7 HL4 q4 r4 s4))
    refine bodyPost_ret (v := .tuple #[.agg #[.int .i64 0, .int .i64 0, .slice none 0 0, .slice none 0 0], .int .i64 1]) (by rw [results_cell2t (fn := Try.f8) (p := 2) (a := 3) (ty := 30) (by kernel_rfl)]; simp [go_sem, r5, s5]) rfl ?_
    have hs : ∀ (W : World) i u, Below w.heap.size w W → Below w.heap.size w (W.setCell ⟨w.heap.size + 1, i, none⟩ u) := fun W i u h => bl_set _ _ h (by show _ ≤ w.heap.size + 1; omega)
    exact ⟨.inr ⟨HK.out, rfl⟩, hs _ _ _ (hs _ _ _ (hs _ _ _ (hs _ _ _ HB5.out)))⟩

end Go.Proofs.Ytigliglmejkakaa
