/- SchemeKept: the walk. -/
import Derived.Test.YtadmiefnblgpdaaTsKp
import Derived.Test.YtadmiefnblgpdaaTsA
import Derived.Test.YtadmiefnblgpdaaTpFr
namespace Go.Proofs.Ytadmiefnblgpdaa
open Go.RowKit
set_option linter.unusedVariables false
set_option linter.unusedSimpArgs false

theorem has_at12 {n : Int} {l : List Int} {k : Nat} {x : Int} (hx : l[k]? = some x) : decide (n ∈ l.drop k) = if x = n then true else decide (n ∈ l.drop (k + 1)) := by
  obtain ⟨h1, e1⟩ := List.getElem?_eq_some_iff.1 hx
  rw [List.drop_eq_getElem_cons h1, e1]
  by_cases he : x = n
  · rw [if_pos he]; simp [he]
  · rw [if_neg he]
    have : (n = x) = False := by simp; exact fun h => he h.symm
    simp [this]
set_option maxRecDepth 100000 in
theorem in12 (w : World) (v : Value) (l : List Int) (n : Int) (h : Ls w Any v l) : Calls Try.prog 18 #[v, .int .i64 n] w fun e w' => e = .returned (.bool (decide (n ∈ l))) ∧ w' = w := by
  obtain ⟨a, c, rfl, hm⟩ := h.form
  unfold maxLen at hm
  go_enter Try.func18, Try.ntmps18
  go_wp2
  go_loopw [5] (fun v wr => ∃ k : Nat, v = .int .i64 k ∧ k ≤ l.length ∧ Hid (decide (n ∈ l) = decide (n ∈ l.drop k)) ∧ wr = w) (fun v _ => l.length - (intOf v).toNat)
  case atStart => exact ⟨0, rfl, Nat.zero_le _, rfl, rfl⟩
  case round =>
    obtain ⟨k, rfl, hk, hH, rfl⟩ := hrel
    by_cases hlt : k < l.length
    · obtain ⟨b, o, c', hv, -, -, -, hl⟩ := h.resolve_right (fun h => by rw [h.1] at hlt; exact absurd hlt (Nat.not_lt_zero _))
      injection hv with e1 e2 e3
      subst e1
      obtain ⟨x, hx⟩ : ∃ x, l[k]? = some x := ⟨_, List.getElem?_eq_getElem hlt⟩
      have hc := hl k x hx
      have HX := hH.out
      rw [has_at12 hx] at HX
      clear hl hx hH h e2 e3
      by_cases he : x = n
      · have HY : Hid (decide (n ∈ l) = true) := by show _ = _; rw [HX]; rw [if_pos he]
        have he2 : (x == n) = true := by rw [beq_iff_eq]; exact he
        clear HX he
        go_wp2
        go_ret
        exact ⟨ret_bool HY.out.symm, rfl⟩
      · have HY : Hid (decide (n ∈ l) = decide (n ∈ l.drop (k + 1))) := by show _ = _; rw [HX]; rw [if_neg he]
        have he2 : (x == n) = false := by rw [beq_eq_false_iff_ne]; exact he
        clear HX he
        go_wp2
        go_roundw
        case rel => exact ⟨k + 1, by go_num, by omega, HY, by first | trivial | rfl⟩
        case measure => simp [intOf]; omega
    · have HX : Hid (decide (n ∈ l) = false) := by
        show _ = _
        rw [hH.out, List.drop_eq_nil_of_le (by omega)]; simp
      clear hH h
      go_wp2
      go_ret
      exact ⟨ret_bool HX.out.symm, rfl⟩
theorem st2U {P : World → Prop} {W : World} {b1 b2 : Nat} {c1 c2 : List Value} (h : (∀ j : Nat, W.cell? ⟨b1, j, none⟩ = c1[j]?) ∧ (∀ j : Nat, W.cell? ⟨b2, j, none⟩ = c2[j]?) ∧ St P W) : St P W := h.2.2
theorem St.addL {P : World → Prop} {W : World} {v : Value} {l : List Int} (h : St P W) (q : Ls W Any v l) : St (fun W => P W ∧ Ls W Any v l) W := h.add q fun _ _ h hb => h.below hb

set_option maxHeartbeats 8000000 in
set_option maxRecDepth 100000 in
theorem kept_walk (w : World) (n : Nat) (vs : List Value) (t : Tp) (kv : Value) (keep : List Int) (hT : TAt w Any n vs t) (hk : Ls w Any kv keep) (hk64 : ∀ x ∈ keep, R64 x) (hkl : keep.length ≤ 1048576) (hc : t.cnt ≤ 1048576) : Calls Try.prog 4 #[.agg vs.toArray, kv] w fun e w' => e = .returned (.bool true) ∧ Below w.heap.size w w' := by
  obtain ⟨a, c, rfl⟩ := hT.form
  obtain ⟨ak, ck, rfl, hmk⟩ := hk.form
  have HB0 : Hid (∀ o, Below w.heap.size w (w.alloc o)) := fun o => bl_alloc (Below.refl _ _) _
  have hRi : Hid (∀ wz, Below w.heap.size w wz → Calls Try.prog 16 #[.agg #[.int .i64 t.k, .int .i64 t.n, .slice a t.ks.length c]] wz fun e w' => e = .returned (.bool t.right) ∧ Below wz.heap.size wz w') := fun wz hz => refRight_any n wz _ t (hT.below hz)
  have hAl : Hid (∀ wz, Calls Try.prog 15 #[] wz fun e w' => e = .returned (.bool true) ∧ Below wz.heap.size wz w') := fun wz => alive12 wz
  have HA0 : Hid (Arr (w.alloc (.cells #[.int .i64 t.k, .int .i64 t.n, .slice a t.ks.length c] 24)) w.heap.size 24 [.int .i64 t.k, .int .i64 t.n, .slice a t.ks.length c]) := ⟨heap_alloc_at _ _⟩
  cases hr : t.right with
  | false =>
    rw [hr] at hRi
    clear hT hc hr hk hk64 hkl
    go_enter Try.func4, Try.ntmps4
    go_wp2_with (first | (go_at_call 16; refine (hRi.out _ (HB0.out _)).mono ?_; rintro e w3 ⟨rfl, hb3⟩; have HB3 := hid (bl_tr (HB0.out _) hb3); clear hb3) | (go_at_call 15; refine (hAl.out _).mono ?_; rintro e w4 ⟨rfl, hb4⟩; have HB4 := hid (bl_tr HB3.out hb4); clear hb4))
    go_ret
    exact ⟨rfl, HB4.out⟩
  | true =>
    rw [hr] at hRi
    obtain ⟨m, hm⟩ : ∃ m, (Tp.open_ t keep).length = m := ⟨_, rfl⟩
    obtain ⟨y, hy⟩ : ∃ y, Tp.ren (plf (Tp.open_ t keep)) t = y := ⟨_, rfl⟩
    have hcy : y.cnt ≤ 1048576 := by rw [← hy, Tp.cnt_ren]; exact hc
    have hGe : Hid (∀ wz, Below w.heap.size w wz → Calls Try.prog 5 #[.agg #[.int .i64 t.k, .int .i64 t.n, .slice a t.ks.length c], .slice ak keep.length ck] wz fun e w' => ∃ a6 n6 c6, e = .returned (.agg #[.int .i64 (m : Nat), .int .i64 y.k, .int .i64 y.n, .slice a6 y.ks.length c6]) ∧ TAt w' Any n6 [.int .i64 y.k, .int .i64 y.n, .slice a6 y.ks.length c6] y ∧ Below wz.heap.size wz w') := by
      intro wz hz
      refine (Generalise_any wz n _ t _ keep (hT.below hz) (hk.below hz) hk64 hkl hc).mono ?_
      rintro e w' ⟨vs', n', rfl, h1, h2⟩
      rw [hy] at h1
      obtain ⟨a', c', rfl⟩ := h1.form
      exact ⟨a', n', c', by rw [hm], h1.any, h2⟩
    have hMt : Hid (∀ wz, Below w.heap.size w wz → Calls Try.prog 17 #[.agg #[.int .i64 t.k, .int .i64 t.n, .slice a t.ks.length c]] wz fun e w' => ∃ p q, e = .returned (.slice p (Tp.found 7 t []).length q) ∧ Ls w' Any (.slice p (Tp.found 7 t []).length q) (Tp.found 7 t []) ∧ Below wz.heap.size wz w') := by
      intro wz hz
      refine (Metas_any wz n _ t (hT.below hz) hc).mono ?_
      rintro e w' ⟨v, rfl, h1, h2⟩
      obtain ⟨p, q, rfl, -⟩ := h1.form
      exact ⟨p, q, rfl, h1, h2⟩
    have hMy : Hid (∀ wz a6 n6 c6, TAt wz Any n6 [.int .i64 y.k, .int .i64 y.n, .slice a6 y.ks.length c6] y → Calls Try.prog 17 #[.agg #[.int .i64 y.k, .int .i64 y.n, .slice a6 y.ks.length c6]] wz fun e w' => ∃ p q, e = .returned (.slice p (Tp.found 7 y []).length q) ∧ Ls w' Any (.slice p (Tp.found 7 y []).length q) (Tp.found 7 y []) ∧ Below wz.heap.size wz w') := by
      intro wz a6 n6 c6 h6
      refine (Metas_any wz n6 _ y h6 hcy).mono ?_
      rintro e w' ⟨v, rfl, h1, h2⟩
      obtain ⟨p, q, rfl, -⟩ := h1.form
      exact ⟨p, q, rfl, h1, h2⟩
    have hGt : Hid (∀ wz, Below w.heap.size w wz → Calls Try.prog 7 #[.agg #[.int .i64 t.k, .int .i64 t.n, .slice a t.ks.length c]] wz fun e w' => ∃ p q, e = .returned (.slice p (Tp.found 8 t []).length q) ∧ Below wz.heap.size wz w') := by
      intro wz hz
      refine (Gens_any wz n _ t (hT.below hz) hc).mono ?_
      rintro e w' ⟨v, rfl, h1, h2⟩
      obtain ⟨p, q, rfl, -⟩ := h1.form
      exact ⟨p, q, rfl, h2⟩
    have hGy : Hid (∀ wz a6 n6 c6, TAt wz Any n6 [.int .i64 y.k, .int .i64 y.n, .slice a6 y.ks.length c6] y → Calls Try.prog 7 #[.agg #[.int .i64 y.k, .int .i64 y.n, .slice a6 y.ks.length c6]] wz fun e w' => ∃ p q, e = .returned (.slice p m q) ∧ Below wz.heap.size wz w') := by
      intro wz a6 n6 c6 h6
      refine (Gens_any wz n6 _ y h6 hcy).mono ?_
      rintro e w' ⟨v, rfl, h1, h2⟩
      obtain ⟨p, q, rfl, -⟩ := h1.form
      exact ⟨p, q, by rw [← hy, kept_len, hm], h2⟩
    have hnow : Hid (∀ x, x ∈ Tp.found 7 y [] ↔ x ∈ Tp.found 7 t [] ∧ x ∈ keep) := fun x => by rw [Tp.mem_fnd, Tp.mem_fnd, ← hy, kept_mem]
    have hsum : Hid (m = ((Tp.found 7 t []).filter fun x => !decide (x ∈ keep)).length + (Tp.found 8 t []).length) := by show m = _; rw [← hm, open_count]
    have hl8 : (Tp.found 8 t []).length ≤ 1048576 := Nat.le_trans (Tp.found_len 8 t) hc
    have hl7 : (Tp.found 7 t []).length ≤ 1048576 := Nat.le_trans (Tp.found_len 7 t) hc
    have hl7y : (Tp.found 7 y []).length ≤ 1048576 := Nat.le_trans (Tp.found_len 7 y) hcy
    generalize Tp.found 7 t [] = was at hMt hnow hsum hl7
    generalize Tp.found 7 y [] = now at hMy hnow hl7y
    obtain ⟨g8, hg8⟩ : ∃ g8, (Tp.found 8 t []).length = g8 := ⟨_, rfl⟩
    rw [hg8] at hGt hsum hl8
    have HK : Hid (∀ wz, Below w.heap.size w wz → Ls wz Any (.slice ak keep.length ck) keep) := fun wz hz => hk.below hz
    clear hT hc hr hk hk64 hm hy hcy hg8 hmk
    go_enter Try.func4, Try.ntmps4
    go_wp2_with (first | (go_at_call 16; refine (hRi.out _ (HB0.out _)).mono ?_; rintro e w3 ⟨rfl, hb3⟩; have HB3 := hid (bl_tr (HB0.out _) hb3); have HA3 := hid (HA0.out.stays hb3); have q3 := HA3.out.cell; clear hb3) | (go_at_call 5; refine (hGe.out _ HB3.out).mono ?_; rintro e w5 ⟨a5, n5, c5, rfl, hT5, hb5⟩; have HB5 := hid (bl_tr HB3.out hb5); have HA5 := hid (HA3.out.stays hb5); have HT5 := hid hT5; clear hb5 q3 hT5))
    obtain ⟨W1, hW1⟩ : ∃ W1, w5.alloc (.cells #[.int .i64 (m : Nat), .int .i64 y.k, .int .i64 y.n, .slice a5 y.ks.length c5] 27) = W1 := ⟨_, rfl⟩
    have Z := hid (((St.mk (P := fun W => Below w.heap.size w W) HB5.out (fun _ _ h hb => bl_tr h hb)).addA HA5.out).addT HT5.out)
    have Z := hid ((Z.out.stays (bl_alloc (Below.refl _ _) (.cells #[.int .i64 (m : Nat), .int .i64 y.k, .int .i64 y.n, .slice a5 y.ks.length c5] 27))).addA (b := w5.heap.size) (T := 27) (cur := [.int .i64 (m : Nat), .int .i64 y.k, .int .i64 y.n, .slice a5 y.ks.length c5]) ⟨heap_alloc_at _ _⟩)
    rw [hW1] at Z ⊢
    obtain ⟨P, b2, e2, ZP, k1, k2, qT, qB⟩ : ∃ (P : World → Prop) (b2 : Nat), b2 = w5.heap.size ∧ Hid (St P W1) ∧ Hid (∀ W, P W → ∀ j : Nat, W.cell? ⟨w.heap.size, j, none⟩ = [.int .i64 t.k, .int .i64 t.n, .slice a t.ks.length c][j]?) ∧ Hid (∀ W, P W → ∀ j : Nat, W.cell? ⟨b2, j, none⟩ = [.int .i64 (m : Nat), .int .i64 y.k, .int .i64 y.n, .slice a5 y.ks.length c5][j]?) ∧ Hid (∀ W, P W → TAt W Any n5 [.int .i64 y.k, .int .i64 y.n, .slice a5 y.ks.length c5] y) ∧ Hid (∀ W, P W → Below w.heap.size w W) :=
      ⟨_, _, rfl, Z, fun W h => h.1.1.2.cell, fun W h => h.2.cell, fun W h => h.1.2, fun W h => h.1.1.1⟩
    rw [← e2]
    have mkS : Hid (∀ wz, St P wz → (∀ j : Nat, wz.cell? ⟨w.heap.size, j, none⟩ = [.int .i64 t.k, .int .i64 t.n, .slice a t.ks.length c][j]?) ∧ (∀ j : Nat, wz.cell? ⟨b2, j, none⟩ = [.int .i64 (m : Nat), .int .i64 y.k, .int .i64 y.n, .slice a5 y.ks.length c5][j]?) ∧ St P wz) := fun wz h => ⟨k1.out wz h.here, k2.out wz h.here, h⟩
    have hs0 := hid (mkS.out _ (ZP.out.stays (Below.refl _ _).drew))
    have m1 : Hid True := trivial
    clear Z e2 hW1 HA0 HA3 HA5 HB3 HB5 HT5 hRi HB0 hGe
    go_region_held (fun w' => (∀ j : Nat, w'.cell? ⟨w.heap.size, j, none⟩ = [.int .i64 t.k, .int .i64 t.n, .slice a t.ks.length c][j]?) ∧ (∀ j : Nat, w'.cell? ⟨b2, j, none⟩ = [.int .i64 (m : Nat), .int .i64 y.k, .int .i64 y.n, .slice a5 y.ks.length c5][j]?) ∧ St P w') (first | exact hs0.out | exact mkS.out _ ((st2U (by assumption)).stays (by assumption))) (first
      | (go_at_call 17; have := m1; refine (hMt.out _ (qB.out _ (st2U (by assumption)).here)).mono ?_; rintro e w7 ⟨p7, c7, rfl, h7, b7⟩; have H7 := hid h7; clear h7 m1)
      | (go_at_call 17; refine (hMy.out _ _ _ _ (qT.out _ (st2U (by assumption)).here)).mono ?_; rintro e w8 ⟨p8, c8, rfl, h8, b8⟩; have H8 := hid h8; have H7 := hid (H7.out.below b8); clear h8))
    all_goals have HZ := hid (st2U (by assumption))
    all_goals have HKK := hid (HK.out _ (qB.out _ HZ.out.here))
    all_goals clear hMt hMy HK
    all_goals go_wp2
    all_goals go_loopw [8] (fun v wr => ∃ k : Nat, v = .int .i64 k ∧ k ≤ now.length ∧ wr = w8) (fun v _ => now.length - (intOf v).toNat)
    case atStart => exact ⟨0, rfl, Nat.zero_le _, rfl⟩
    case round =>
      obtain ⟨k, rfl, hk, rfl⟩ := hrel
      by_cases hlt : k < now.length
      · obtain ⟨b, o, c', hv, -, -, -, hl⟩ := H8.out.resolve_right (fun h => by rw [h.1] at hlt; exact absurd hlt (Nat.not_lt_zero _))
        injection hv with e1 e2 e3
        subst e1
        obtain ⟨x, hx⟩ : ∃ x, now[k]? = some x := ⟨_, List.getElem?_eq_getElem hlt⟩
        have hc := hl k x hx
        have hin := (hnow.out x).1 (List.mem_of_getElem? hx)
        have I1 := hid (in12 _ _ was x H7.out)
        rw [decide_eq_true hin.1] at I1
        have I2 := hid (in12 _ _ keep x HKK.out)
        rw [decide_eq_true hin.2] at I2
        have m1 : Hid True := trivial
        clear hl hx e2 e3 hin
        go_wp2_with (first | (go_at_call 18; have := m1; refine I1.out.mono ?_; rintro e w9 ⟨rfl, rfl⟩; clear m1) | (go_at_call 18; refine I2.out.mono ?_; rintro e w9 ⟨rfl, rfl⟩))
        go_roundw
        case rel => exact ⟨k + 1, by go_num, by omega, by trivial⟩
        case measure => simp [intOf]; omega
      · go_wp2
        go_loopw [9, 10] (fun v9 v10 wq => ∃ (q j : Nat), v9 = .int .i64 q ∧ v10 = .int .i64 j ∧ j ≤ was.length ∧ q ≤ j ∧ Hid (q = ((was.take j).filter fun x => !decide (x ∈ keep)).length) ∧ wq = wr) (fun _ v10 _ => was.length - (intOf v10).toNat)
        case atStart => exact ⟨0, 0, rfl, rfl, Nat.zero_le _, Nat.le_refl _, by show _ = _; simp, rfl⟩
        case round =>
          obtain ⟨q, j, rfl, rfl, hj, hqj, hH, rfl⟩ := hrel
          by_cases hlt2 : j < was.length
          · obtain ⟨b, o, c', hv, -, -, -, hl⟩ := H7.out.resolve_right (fun h => by rw [h.1] at hlt2; exact absurd hlt2 (Nat.not_lt_zero _))
            injection hv with e1 e2 e3
            subst e1
            obtain ⟨x, hx⟩ : ∃ x, was[j]? = some x := ⟨_, List.getElem?_eq_getElem hlt2⟩
            have hc := hl j x hx
            have hmem := List.mem_of_getElem? hx
            have HX := hH.out
            have htk : was.take (j + 1) = was.take j ++ [x] := take_next hx
            have I2 := hid (in12 _ _ keep x HKK.out)
            by_cases hkp : x ∈ keep
            · rw [decide_eq_true hkp] at I2
              have I3 := hid (in12 _ _ now x H8.out)
              rw [decide_eq_true ((hnow.out x).2 ⟨hmem, hkp⟩)] at I3
              have HY : Hid (q = ((was.take (j + 1)).filter fun x => !decide (x ∈ keep)).length) := by show q = _; rw [htk, List.filter_append, List.length_append, ← HX]; simp [hkp]
              have m1 : Hid True := trivial
              clear hl hx e2 e3 hmem HX htk hkp hH
              go_wp2_with (first | (go_at_call 18; have := m1; refine I2.out.mono ?_; rintro e w9 ⟨rfl, rfl⟩; clear m1) | (go_at_call 18; refine I3.out.mono ?_; rintro e w9 ⟨rfl, rfl⟩))
              go_roundw
              case rel => exact ⟨q, j + 1, by go_num, by go_num, by omega, by omega, HY, by trivial⟩
              case measure => simp [intOf]; omega
            · rw [decide_eq_false hkp] at I2
              have HY : Hid (q + 1 = ((was.take (j + 1)).filter fun x => !decide (x ∈ keep)).length) := by show q + 1 = _; rw [htk, List.filter_append, List.length_append, ← HX]; simp [hkp]
              clear hl hx e2 e3 hmem HX htk hkp hH
              go_wp2_with (go_at_call 18; refine I2.out.mono ?_; rintro e w9 ⟨rfl, rfl⟩)
              go_roundw
              case rel => exact ⟨q + 1, j + 1, by go_num, by go_num, by omega, by omega, HY, by trivial⟩
              case measure => simp [intOf]; omega
          · obtain rfl : j = was.length := by omega
            have hqm : q + g8 = m := by have h1 := hH.out; rw [List.take_length] at h1; have h2 := hsum.out; omega
            have hwr : IntKind.i64.wrap ((q : Int) + (g8 : Int)) = (m : Int) := by rw [IntKind.wrap_i64]; omega
            have hmm : ((m : Int) == (m : Int)) = true := by simp
            have hsA := hid (mkS.out _ (HZ.out.stays (Below.refl _ _).drew))
            have n1 : Hid True := trivial
            clear hqm hH hsum hnow H7 H8 HKK hs0
            go_wp2
            go_region_held (fun w' => (∀ j : Nat, w'.cell? ⟨w.heap.size, j, none⟩ = [.int .i64 t.k, .int .i64 t.n, .slice a t.ks.length c][j]?) ∧ (∀ j : Nat, w'.cell? ⟨b2, j, none⟩ = [.int .i64 (m : Nat), .int .i64 y.k, .int .i64 y.n, .slice a5 y.ks.length c5][j]?) ∧ St P w') (first | exact hsA.out | exact mkS.out _ ((st2U (by assumption)).stays (by assumption))) (first
              | (go_at_call 7; have := n1; refine (hGt.out _ (qB.out _ (st2U (by assumption)).here)).mono ?_; rintro e w17 ⟨p17, c17, rfl, b17⟩; clear n1)
              | (go_at_call 7; refine (hGy.out _ _ _ _ (qT.out _ (st2U (by assumption)).here)).mono ?_; rintro e w18 ⟨p18, c18, rfl, b18⟩)
              | (go_at_call 15; refine (hAl.out _).mono ?_; rintro e w19 ⟨rfl, b19⟩))
            all_goals have HE := hid (qB.out _ (st2U (by assumption)).here)
            all_goals go_wp2
            all_goals go_ret
            all_goals exact ⟨rfl, HE.out⟩
end Go.Proofs.Ytadmiefnblgpdaa
