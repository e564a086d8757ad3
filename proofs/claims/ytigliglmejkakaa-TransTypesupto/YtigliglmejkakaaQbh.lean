/- The document's own: Texts, same, sameAll, SameType. -/
import Derived.Deep.RegionHeld
import Derived.Test.YtigliglmejkakaaQbg
import Derived.Test.YtigliglmejkakaaQbf
namespace Go.Proofs.Ytigliglmejkakaa.Tgt
open Go.RowKit
set_option linter.unusedVariables false
set_option linter.unusedSimpArgs false

set_option maxHeartbeats 1000000 in
set_option maxRecDepth 100000 in
theorem texts_any (w : World) (v v' : Value) (l l' : List ByteArray) (h : Sl w Any v l) (h' : Sl w Any v' l') : Calls Try.prog 55 #[v, v'] w fun e w' => e = .returned (.bool (Tt.eqLs l l')) ∧ ∃ m, w' = w.drewN m := by
  obtain ⟨a, c, rfl, hm⟩ := h.form
  obtain ⟨a', c', rfl, hm'⟩ := h'.form
  unfold maxLen at hm hm'
  have HL : Hid (Sl w Any (.slice a l.length c) l) := h
  have HL' : Hid (Sl w Any (.slice a' l'.length c') l') := h'
  clear h h'
  by_cases hlen : l.length = l'.length
  · have hle : ((l.length : Int) != (l'.length : Int)) = false := by simp [hlen]
    have HLE := hid hlen
    have hne := neq_str
    clear hlen
    go_enter Try.func55, Try.ntmps55
    go_wp2
    go_loopw [5] (fun v wr => ∃ k : Nat, v = .int .i64 k ∧ k ≤ l.length ∧ Hid (Tt.eqLs l l' = Tt.eqLs (l.drop k) (l'.drop k)) ∧ Hid (∃ m, wr = w.drewN m)) (fun v _ => l.length - (intOf v).toNat)
    case atStart => exact ⟨0, rfl, Nat.zero_le _, rfl, ⟨0, rfl⟩⟩
    case round =>
      obtain ⟨k, rfl, hkl, hH, hD⟩ := hrel
      have hB : Below w.heap.size w wr := by obtain ⟨m, rfl⟩ := hD.out; exact bl_drewN _ _
      by_cases hlt : k < l.length
      · obtain ⟨x, hx⟩ : ∃ x, l[k]? = some x := ⟨_, List.getElem?_eq_getElem hlt⟩
        obtain ⟨y, hy⟩ : ∃ y, l'[k]? = some y := ⟨_, List.getElem?_eq_getElem (by rw [← HLE.out]; exact hlt)⟩
        obtain ⟨b, o, rfl, cx⟩ : ∃ b o, a = some ⟨b, o, none⟩ ∧ wr.cell? ⟨b, o + k, none⟩ = some (.string x) := by
          rcases HL.out with ⟨b, o, c', hv, -, -, -, hc⟩ | ⟨rfl, -⟩
          · injection hv with e1 e2 e3
            exact ⟨b, o, e1, Keeps.of_below (K := Any) hB b _ _ trivial (hc k x hx)⟩
          · simp at hx
        obtain ⟨b', o', rfl, cy⟩ : ∃ b o, a' = some ⟨b, o, none⟩ ∧ wr.cell? ⟨b, o + k, none⟩ = some (.string y) := by
          rcases HL'.out with ⟨b, o, c', hv, -, -, -, hc⟩ | ⟨rfl, -⟩
          · injection hv with e1 e2 e3
            exact ⟨b, o, e1, Keeps.of_below (K := Any) hB b _ _ trivial (hc k y hy)⟩
          · simp at hy
        have HX : Hid (Tt.eqLs l l' = (Tt.eqS x y && Tt.eqLs (l.drop (k + 1)) (l'.drop (k + 1)))) := hH.out.trans (Tt.eqLs_at hx hy)
        have hlt2 : (k : Int) < l.length := by omega
        have hlt3 : (k : Int) < l'.length := by have := HLE.out; omega
        clear hH HL HL' hx hy hB
        cases hxy : Tt.eqS x y with
        | true =>
          rw [hxy, Bool.true_and] at HX
          go_wp2
          go_quiet (fail)
          go_wp2
          go_roundw
          case rel => exact ⟨k + 1, by go_num, by omega, HX, by obtain ⟨m, rfl⟩ := hD.out; exact ⟨_, by rw [World.drewN_drewN]⟩⟩
          case measure => simp [intOf]; omega
        | false =>
          rw [hxy, Bool.false_and] at HX
          go_wp2
          go_quiet (fail)
          go_wp2
          go_ret
          exact ⟨ret_bool HX.out.symm, by obtain ⟨m, rfl⟩ := hD.out; exact ⟨_, by rw [World.drewN_drewN]⟩⟩
      · have HX : Hid (Tt.eqLs l l' = true) := by
          show _ = _
          rw [hH.out, List.drop_eq_nil_of_le (by omega), List.drop_eq_nil_of_le (by have := HLE.out; omega)]; rfl
        clear hH HL HL'
        go_wp2
        go_ret
        exact ⟨ret_bool HX.out.symm, hD.out⟩
  · have hle : ((l.length : Int) != (l'.length : Int)) = true := by simp; omega
    have HX : Hid (Tt.eqLs l l' = false) := Tt.eqLs_len hlen
    clear hlen HL HL'
    go_enter Try.func55, Try.ntmps55
    go_wp2
    go_ret
    exact ⟨ret_bool HX.out.symm, 0, rfl⟩
def RSameOf (n : Nat) : Prop := ∀ (w : World) (m : Nat) (us us' : List Value) (t t' : Tt) (xv yv : Value) (X Y : List Int), TAt w Any n us t → TAt w Any m us' t' → Ow w xv X → Ow w yv Y → X.length + t.cnt ≤ 1099511627776 → Y.length + t.cnt ≤ 1099511627776 →
  Calls Try.prog 50 #[.agg us.toArray, .agg us'.toArray, xv, yv] w fun e w' => e = .returned (.bool (Tt.same t t' (envOf X) (envOf Y))) ∧ Below w.heap.size w w'
def RSamesOf (n : Nat) : Prop := ∀ (w : World) (m : Nat) (v v' : Value) (l l' : List Tt) (xv yv : Value) (X Y : List Int), TAtL w Any n v l → TAtL w Any m v' l' → l.length = l'.length → Ow w xv X → Ow w yv Y → X.length + Tt.cntL l ≤ 1099511627776 → Y.length + Tt.cntL l ≤ 1099511627776 →
  Calls Try.prog 57 #[v, v', xv, yv] w fun e w' => e = .returned (.bool (Tt.sameL l l' (envOf X) (envOf Y))) ∧ Below w.heap.size w w'
theorem Tt.cntL_get {l : List Tt} {k : Nat} {x : Tt} (hx : l[k]? = some x) : x.cnt ≤ Tt.cntL l := by
  have : ∀ (l : List Tt) (x : Tt), x ∈ l → x.cnt ≤ Tt.cntL l := by
    intro l
    induction l with
    | nil => intro x h; cases h
    | cons y r ih =>
      intro x h
      rw [Tt.cntL]
      rcases List.mem_cons.1 h with rfl | h
      · omega
      · have := ih x h; omega
  exact this l x (List.mem_of_getElem? hx)

set_option maxHeartbeats 2000000 in
set_option maxRecDepth 100000 in
theorem rsames_step (n : Nat) (ih : RSameOf n) : RSamesOf n := by
  intro w m v v' l l' xv yv X Y h h' hlen hX hY q1 q2
  obtain ⟨a, c, rfl, hm⟩ := h.form
  obtain ⟨a', c', rfl, -⟩ := h'.form
  unfold maxLen at hm
  have HL : Hid (∀ wz, Below w.heap.size w wz → TAtL wz Any n (.slice a l.length c) l) := fun wz hz => h.below hz
  have HL' : Hid (∀ wz, Below w.heap.size w wz → TAtL wz Any m (.slice a' l'.length c') l') := fun wz hz => h'.below hz
  have HO : Hid (∀ wz, Below w.heap.size w wz → Ow wz xv X ∧ Ow wz yv Y) := fun wz hz => ⟨hX.below hz, hY.below hz⟩
  have HQ := hid (And.intro q1 q2)
  have HE := hid hlen
  clear h h' hX hY q1 q2 hlen
  go_enter Try.func57, Try.ntmps57
  go_wp2
  go_loopw [9] (fun v wr => ∃ k : Nat, v = .int .i64 k ∧ k ≤ l.length ∧ Hid (Tt.sameL l l' (envOf X) (envOf Y) = Tt.sameL (l.drop k) (l'.drop k) (envOf X) (envOf Y)) ∧ Hid (Below w.heap.size w wr)) (fun v _ => l.length - (intOf v).toNat)
  case atStart => exact ⟨0, rfl, Nat.zero_le _, rfl, Below.refl _ _⟩
  case round =>
    obtain ⟨k, rfl, hk, hH, hB⟩ := hrel
    by_cases hlt : k < l.length
    · have hlt' : k < l'.length := by rw [← HE.out]; exact hlt
      obtain ⟨x, hx⟩ : ∃ x, l[k]? = some x := ⟨_, List.getElem?_eq_getElem hlt⟩
      obtain ⟨y, hy⟩ : ∃ y, l'[k]? = some y := ⟨_, List.getElem?_eq_getElem hlt'⟩
      obtain ⟨kb, ko, k1, k2, k3, k4, rfl, -, z0, z1, z2, z3, hT⟩ := (HL.out wr hB.out).load hx
      obtain ⟨jb, jo, j1, j2, j3, j4, rfl, -, y0, y1, y2, y3, hT'⟩ := (HL'.out wr hB.out).load hy
      have HX := hid (hH.out.trans (Tt.sameL_at hx hy _ _))
      have HR : Hid (∀ wz, Below wr.heap.size wr wz → Calls Try.prog 50 #[.agg #[.int .i64 x.k, .int .i64 x.n, .slice k1 x.ls.length k2, .slice k3 x.ks.length k4], .agg #[.int .i64 y.k, .int .i64 y.n, .slice j1 y.ls.length j2, .slice j3 y.ks.length j4], xv, yv] wz fun e w' => e = .returned (.bool (Tt.same x y (envOf X) (envOf Y))) ∧ Below wr.heap.size wr w') := fun wz hz => (ih wz m _ _ x y xv yv X Y (hT.below hz) (hT'.below hz) (HO.out wz (bl_tr hB.out hz)).1 (HO.out wz (bl_tr hB.out hz)).2 (by have := HQ.out; have := Tt.cntL_get hx; omega) (by have := HQ.out; have := Tt.cntL_get hx; omega)).mono fun e w' ⟨h1, h2⟩ => ⟨h1, bl_tr hz h2⟩
      clear hH hT hT' hx hy HL HL' HO ih
      generalize Tt.same x y (envOf X) (envOf Y) = r at HR HX
      cases r with
      | true =>
        rw [Bool.true_and] at HX
        go_wp2
        go_region_with (go_at_call 50; refine (HR.out _ (Below.refl _ _).drew).mono ?_; rintro e w2 ⟨rfl, hb2⟩)
        all_goals go_wp2
        all_goals go_roundw
        all_goals (try case measure => simp [intOf]; omega)
        all_goals exact ⟨k + 1, by go_num, by omega, HX, bl_tr hB.out hb2⟩
      | false =>
        rw [Bool.false_and] at HX
        go_wp2
        go_region_with (go_at_call 50; refine (HR.out _ (Below.refl _ _).drew).mono ?_; rintro e w2 ⟨rfl, hb2⟩)
        all_goals go_wp2
        all_goals go_ret
        all_goals exact ⟨ret_bool HX.out.symm, bl_tr hB.out hb2⟩
    · have HX : Hid (Tt.sameL l l' (envOf X) (envOf Y) = true) := by
        show _ = _
        rw [hH.out, List.drop_eq_nil_of_le (by omega), List.drop_eq_nil_of_le (by have := HE.out; omega)]; rfl
      clear hH HL HL' HO ih
      go_wp2
      go_ret
      exact ⟨ret_bool HX.out.symm, hB.out⟩
theorem one_lv (X Y : List Int) (x y : Int) : Tt.one (envOf X) (envOf Y) x y = ((lk (envOf X) x).getD (-1) == (lk (envOf Y) y).getD (-1) && (decide (0 ≤ (lk (envOf X) x).getD (-1)) || x == y)) := by
  unfold Tt.one
  cases h1 : lk (envOf X) x with
  | none =>
    cases h2 : lk (envOf Y) y with
    | none => simp
    | some b =>
      have := envOf_pos _ Y y b rfl h2
      simp
      omega
  | some a =>
    have ha := envOf_pos _ X x a rfl h1
    cases h2 : lk (envOf Y) y with
    | none =>
      simp
      intro h
      omega
    | some b => simp [ha]
theorem sB {W1 W : World} {b1 b2 : Nat} {c1 c2 : List Value} (h : (∀ j : Nat, W.cell? ⟨b1, j, none⟩ = c1[j]?) ∧ (∀ j : Nat, W.cell? ⟨b2, j, none⟩ = c2[j]?) ∧ Below W1.heap.size W1 W) : Below W1.heap.size W1 W := h.2.2
theorem Sl.any' {w : World} {K : Nat → Prop} {v : Value} {l : List ByteArray} (h : Sl w K v l) : Sl w Any v l := h.move (Keeps.refl _ _) fun _ _ => trivial
theorem env_no {t : Tt} (h : t.binds = false) (e : List (Int × Int)) : t.env e = e := by unfold Tt.env; rw [h]; rfl
theorem env_yes {t : Tt} (h : t.binds = true) (X : List Int) : t.env (envOf X) = envOf (X ++ [t.n]) := by unfold Tt.env; rw [h, envOf_snoc]; rfl

set_option maxHeartbeats 4000000 in
set_option maxRecDepth 100000 in
theorem rsame_step (n : Nat) (ih : RSamesOf n) : RSameOf (n + 1) := by
  intro w m us us' t t' xv yv X Y h h' hX hY q1 q2
  obtain ⟨u1, v1, rfl, -, hn1, hS, hL⟩ := h.open_
  obtain ⟨a1, c1, rfl, hlm1⟩ := hS.form
  obtain ⟨a2, c2, rfl, hkm1⟩ := hL.form
  cases m with
  | zero => exact h'.elim
  | succ m =>
  obtain ⟨u2, v2, rfl, -, hn2, hS', hL'⟩ := h'.open_
  obtain ⟨b1, d1, rfl, hlm2⟩ := hS'.form
  obtain ⟨b2, d2, rfl, hkm2⟩ := hL'.form
  unfold maxLen at hlm1 hkm1 hlm2 hkm2
  have x0 : Hid (Arr ((w.alloc (.cells #[.int .i64 t.k, .int .i64 t.n, .slice a1 t.ls.length c1, .slice a2 t.ks.length c2] TY)).alloc (.cells #[.int .i64 t'.k, .int .i64 t'.n, .slice b1 t'.ls.length d1, .slice b2 t'.ks.length d2] TY)) w.heap.size TY [.int .i64 t.k, .int .i64 t.n, .slice a1 t.ls.length c1, .slice a2 t.ks.length c2]) := Arr.stays ⟨heap_alloc_at _ _⟩ (bl_alloc (Below.refl _ _) _)
  have x1 : Hid (Arr ((w.alloc (.cells #[.int .i64 t.k, .int .i64 t.n, .slice a1 t.ls.length c1, .slice a2 t.ks.length c2] TY)).alloc (.cells #[.int .i64 t'.k, .int .i64 t'.n, .slice b1 t'.ls.length d1, .slice b2 t'.ks.length d2] TY)) (w.heap.size + 1) TY [.int .i64 t'.k, .int .i64 t'.n, .slice b1 t'.ls.length d1, .slice b2 t'.ks.length d2]) := ⟨by have := heap_alloc_at (w.alloc (.cells #[.int .i64 t.k, .int .i64 t.n, .slice a1 t.ls.length c1, .slice a2 t.ks.length c2] TY)) (.cells #[.int .i64 t'.k, .int .i64 t'.n, .slice b1 t'.ls.length d1, .slice b2 t'.ks.length d2] TY); rw [size_alloc] at this; exact this⟩
  have xb : Hid (Below w.heap.size w ((w.alloc (.cells #[.int .i64 t.k, .int .i64 t.n, .slice a1 t.ls.length c1, .slice a2 t.ks.length c2] TY)).alloc (.cells #[.int .i64 t'.k, .int .i64 t'.n, .slice b1 t'.ls.length d1, .slice b2 t'.ks.length d2] TY))) := bl_alloc (bl_alloc (Below.refl _ _) _) _
  have hcn := Tt.cnt_ks t
  have LX : Hid (∀ wz, Below w.heap.size w wz → Calls Try.prog 56 #[xv, .int .i64 t.n] wz fun e w' => e = .returned (.int .i64 ((lk (envOf X) t.n).getD (-1))) ∧ w' = wz) := fun wz hz => level_any wz xv X t.n (hX.below hz)
  have LY : Hid (∀ wz, Below w.heap.size w wz → Calls Try.prog 56 #[yv, .int .i64 t'.n] wz fun e w' => e = .returned (.int .i64 ((lk (envOf Y) t'.n).getD (-1))) ∧ w' = wz) := fun wz hz => level_any wz yv Y t'.n (hY.below hz)
  have WX : Hid (∀ wz, Below w.heap.size w wz → Calls Try.prog 59 #[xv, .int .i64 t.n] wz fun e w' => ∃ v', e = .returned v' ∧ Ow w' v' (X ++ [t.n]) ∧ Below wz.heap.size wz w') := fun wz hz => with_any wz xv X t.n (hX.below hz) (by omega)
  have WY : Hid (∀ wz, Below w.heap.size w wz → Calls Try.prog 59 #[yv, .int .i64 t'.n] wz fun e w' => ∃ v', e = .returned v' ∧ Ow w' v' (Y ++ [t'.n]) ∧ Below wz.heap.size wz w') := fun wz hz => with_any wz yv Y t'.n (hY.below hz) (by omega)
  have BQ : Hid (∀ wz : World, Calls Try.prog 58 #[.int .i64 t.k] wz fun e w' => e = .returned (.bool t.binds) ∧ w' = wz) := fun wz => rbinds_any wz t.k
  have HSM := Tt.same_mk t t' (envOf X) (envOf Y)
  by_cases h1 : t.k = t'.k
  · have g1 : (t.k != t'.k) = false := by simp [h1]
    by_cases h2 : t.ks.length = t'.ks.length
    · have g2 : ((t.ks.length : Int) != (t'.ks.length : Int)) = false := by simp [h2]
      have TQ : Hid (∀ wz, Below w.heap.size w wz → Calls Try.prog 55 #[.slice a1 t.ls.length c1, .slice b1 t'.ls.length d1] wz fun e w' => e = .returned (.bool (Tt.eqLs t.ls t'.ls)) ∧ Below wz.heap.size wz w') := fun wz hz => (texts_any wz _ _ t.ls t'.ls ((hS.any'.below hz)) ((hS'.any'.below hz))).mono fun e w' ⟨h1, m, h2⟩ => ⟨h1, by rw [h2]; exact bl_drewN _ _⟩
      have AQ : Hid (∀ wz, Below w.heap.size w wz → Calls Try.prog 57 #[.slice a2 t.ks.length c2, .slice b2 t'.ks.length d2, xv, yv] wz fun e w' => e = .returned (.bool (Tt.sameL t.ks t'.ks (envOf X) (envOf Y))) ∧ Below wz.heap.size wz w') := fun wz hz => ih wz m _ _ t.ks t'.ks xv yv X Y (hL.below hz) (hL'.below hz) h2 (hX.below hz) (hY.below hz) (by omega) (by omega)
      have AW : Hid (∀ wz xv' yv', Below w.heap.size w wz → Ow wz xv' (X ++ [t.n]) → Ow wz yv' (Y ++ [t'.n]) → Calls Try.prog 57 #[.slice a2 t.ks.length c2, .slice b2 t'.ks.length d2, xv', yv'] wz fun e w' => e = .returned (.bool (Tt.sameL t.ks t'.ks (envOf (X ++ [t.n])) (envOf (Y ++ [t'.n])))) ∧ Below wz.heap.size wz w') := fun wz xv' yv' hz ox oy => ih wz m _ _ t.ks t'.ks xv' yv' _ _ (hL.below hz) (hL'.below hz) h2 ox oy (by simp; omega) (by simp; omega)
      have HA : Tt.alike (envOf X) (envOf Y) t t' = (Tt.eqLs t.ls t'.ls && Tt.num (envOf X) (envOf Y) t t') := by unfold Tt.alike; rw [h1, h2]; simp
      rw [HA] at HSM
      have p0 := x0.out.cell
      have p1 := x1.out.cell
      have HNU : Hid (Tt.num (envOf X) (envOf Y) t t' = if t.binds then true else if t.k = 6 then Tt.one (envOf X) (envOf Y) t.n t'.n else t.n == t'.n) := rfl
      have HBB : Hid (t'.binds = t.binds) := by show _ = _; rw [Tt.binds_k, Tt.binds_k, h1]
      clear h h' hX hY hS hS' hL hL' q1 q2 hcn ih HA
      cases hls : Tt.eqLs t.ls t'.ls with
      | false =>
        rw [hls] at TQ
        have HE : Hid (Tt.same t t' (envOf X) (envOf Y) = false) := by show _ = _; rw [HSM, hls]; rfl
        clear HSM hls h1 h2 AQ AW LX LY WX WY BQ
        go_enter Try.func50, Try.ntmps50
        go_wp2_with (go_at_call 55; refine (TQ.out _ xb.out).mono ?_; rintro e w3 ⟨rfl, b3⟩)
        go_ret
        exact ⟨ret_bool HE.out.symm, bl_tr xb.out b3⟩
      | true =>
        rw [hls] at TQ HSM
        rw [Bool.true_and] at HSM
        by_cases h6 : t.k = 6
        · have g6 : (t.k == 6) = true := by rw [h6]; rfl
          have hbn : t.binds = false := by rw [Tt.binds_k]; unfold bindsK; rw [h6]; rfl
          have HEN : Hid (Tt.same t t' (envOf X) (envOf Y) = (((lk (envOf X) t.n).getD (-1) == (lk (envOf Y) t'.n).getD (-1) && (decide (0 ≤ (lk (envOf X) t.n).getD (-1)) || t.n == t'.n)) && Tt.sameL t.ks t'.ks (envOf X) (envOf Y))) := by
            show _ = _
            rw [HSM, HNU.out, hbn, h6, env_no hbn, env_no (by rw [HBB.out]; exact hbn), one_lv]; rfl
          clear HSM hls h1 h2 h6 hbn HNU HBB AW WX WY BQ
          generalize (lk (envOf X) t.n).getD (-1) = i at LX HEN
          generalize (lk (envOf Y) t'.n).getD (-1) = j at LY HEN
          by_cases hij : i = j
          · have gij : (i == j) = true := by simp [hij]
            by_cases hi0 : 0 ≤ i
            · have HE : Hid (Tt.same t t' (envOf X) (envOf Y) = Tt.sameL t.ks t'.ks (envOf X) (envOf Y)) := by show _ = _; rw [HEN.out, gij, decide_eq_true hi0]; simp
              have gi0 : (0 : Int) ≤ i := hi0
              clear HEN hij hi0
              go_enter Try.func50, Try.ntmps50
              go_wp2_with (first | (go_at_call 55; refine (TQ.out _ xb.out).mono ?_; rintro e w3 ⟨rfl, b3⟩; have HB3 := hid (bl_tr xb.out b3); have X3 := hid (x0.out.stays b3); have Y3 := hid (x1.out.stays b3); have r0 := X3.out.cell; have r1 := Y3.out.cell; clear b3 TQ) | (go_at_call 56; refine (LX.out _ HB3.out).mono ?_; rintro e w4 ⟨rfl, hw⟩; rw [hw]; clear hw w4 LX) | (go_at_call 56; refine (LY.out _ HB3.out).mono ?_; rintro e w4 ⟨rfl, hw⟩; rw [hw]; clear hw w4 LY) | (go_at_call 57; refine (AQ.out _ HB3.out).mono ?_; rintro e w6 ⟨rfl, b6⟩))
              go_ret
              exact ⟨ret_bool HE.out.symm, bl_tr HB3.out b6⟩
            · by_cases hnn : t.n = t'.n
              · have HE : Hid (Tt.same t t' (envOf X) (envOf Y) = Tt.sameL t.ks t'.ks (envOf X) (envOf Y)) := by show _ = _; rw [HEN.out, gij, hnn]; simp
                have gnn : (t.n == t'.n) = true := by simp [hnn]
                clear HEN hij hnn
                go_enter Try.func50, Try.ntmps50
                go_wp2_with (first | (go_at_call 55; refine (TQ.out _ xb.out).mono ?_; rintro e w3 ⟨rfl, b3⟩; have HB3 := hid (bl_tr xb.out b3); have X3 := hid (x0.out.stays b3); have Y3 := hid (x1.out.stays b3); have r0 := X3.out.cell; have r1 := Y3.out.cell; clear b3 TQ) | (go_at_call 56; refine (LX.out _ HB3.out).mono ?_; rintro e w4 ⟨rfl, hw⟩; rw [hw]; clear hw w4 LX) | (go_at_call 56; refine (LY.out _ HB3.out).mono ?_; rintro e w4 ⟨rfl, hw⟩; rw [hw]; clear hw w4 LY) | (go_at_call 57; refine (AQ.out _ HB3.out).mono ?_; rintro e w6 ⟨rfl, b6⟩))
                go_ret
                exact ⟨ret_bool HE.out.symm, bl_tr HB3.out b6⟩
              · have HE : Hid (Tt.same t t' (envOf X) (envOf Y) = false) := by show _ = _; rw [HEN.out, decide_eq_false hi0]; simp [hnn]
                have gnn : (t.n == t'.n) = false := by simp [hnn]
                clear HEN hij hnn AQ
                go_enter Try.func50, Try.ntmps50
                go_wp2_with (first | (go_at_call 55; refine (TQ.out _ xb.out).mono ?_; rintro e w3 ⟨rfl, b3⟩; have HB3 := hid (bl_tr xb.out b3); have X3 := hid (x0.out.stays b3); have Y3 := hid (x1.out.stays b3); have r0 := X3.out.cell; have r1 := Y3.out.cell; clear b3 TQ) | (go_at_call 56; refine (LX.out _ HB3.out).mono ?_; rintro e w4 ⟨rfl, hw⟩; rw [hw]; clear hw w4 LX) | (go_at_call 56; refine (LY.out _ HB3.out).mono ?_; rintro e w4 ⟨rfl, hw⟩; rw [hw]; clear hw w4 LY))
                go_ret
                exact ⟨ret_bool HE.out.symm, HB3.out⟩
          · have gij : (i == j) = false := by simp [hij]
            have HE : Hid (Tt.same t t' (envOf X) (envOf Y) = false) := by show _ = _; rw [HEN.out, gij]; simp
            clear HEN hij AQ
            go_enter Try.func50, Try.ntmps50
            go_wp2_with (first | (go_at_call 55; refine (TQ.out _ xb.out).mono ?_; rintro e w3 ⟨rfl, b3⟩; have HB3 := hid (bl_tr xb.out b3); have X3 := hid (x0.out.stays b3); have Y3 := hid (x1.out.stays b3); have r0 := X3.out.cell; have r1 := Y3.out.cell; clear b3 TQ) | (go_at_call 56; refine (LX.out _ HB3.out).mono ?_; rintro e w4 ⟨rfl, hw⟩; rw [hw]; clear hw w4 LX) | (go_at_call 56; refine (LY.out _ HB3.out).mono ?_; rintro e w4 ⟨rfl, hw⟩; rw [hw]; clear hw w4 LY))
            go_ret
            exact ⟨ret_bool HE.out.symm, HB3.out⟩
        · have g6 : (t.k == 6) = false := by rw [beq_eq_false_iff_ne]; exact h6
          cases hbn : t.binds with
          | true =>
            rw [hbn] at BQ
            have HE : Hid (Tt.same t t' (envOf X) (envOf Y) = Tt.sameL t.ks t'.ks (envOf (X ++ [t.n])) (envOf (Y ++ [t'.n]))) := by
              show _ = _
              rw [HSM, HNU.out, hbn, env_yes hbn, env_yes (by rw [HBB.out]; exact hbn)]; rfl
            clear HSM hls h1 h2 h6 hbn HNU HBB AQ LX LY
            go_enter Try.func50, Try.ntmps50
            go_wp2_with (first | (go_at_call 55; refine (TQ.out _ xb.out).mono ?_; rintro e w3 ⟨rfl, b3⟩; have HB3 := hid (bl_tr xb.out b3); have X3 := hid (x0.out.stays b3); have Y3 := hid (x1.out.stays b3); have r0 := X3.out.cell; have r1 := Y3.out.cell; clear b3 TQ) | (go_at_call 58; refine (BQ.out _).mono ?_; rintro e w4 ⟨rfl, hw⟩; rw [hw]; clear hw w4 BQ))
            have mkS : Hid (∀ wz, Below w3.heap.size w3 wz → (∀ j : Nat, wz.cell? ⟨w.heap.size, j, none⟩ = [.int .i64 t.k, .int .i64 t.n, .slice a1 t.ls.length c1, .slice a2 t.ks.length c2][j]?) ∧ (∀ j : Nat, wz.cell? ⟨w.heap.size + 1, j, none⟩ = [.int .i64 t'.k, .int .i64 t'.n, .slice b1 t'.ls.length d1, .slice b2 t'.ks.length d2][j]?) ∧ Below w3.heap.size w3 wz) := fun wz hz => ⟨(X3.out.stays hz).cell, (Y3.out.stays hz).cell, hz⟩
            have hs0 := hid (mkS.out _ (Below.refl _ _).drew)
            go_region_held (fun wz => (∀ j : Nat, wz.cell? ⟨w.heap.size, j, none⟩ = [.int .i64 t.k, .int .i64 t.n, .slice a1 t.ls.length c1, .slice a2 t.ks.length c2][j]?) ∧ (∀ j : Nat, wz.cell? ⟨w.heap.size + 1, j, none⟩ = [.int .i64 t'.k, .int .i64 t'.n, .slice b1 t'.ls.length d1, .slice b2 t'.ks.length d2][j]?) ∧ Below w3.heap.size w3 wz) (first | exact hs0.out | exact mkS.out _ (bl_tr (sB (by assumption)) (by assumption))) (first
              | (go_at_call 59; refine (WX.out _ (bl_tr HB3.out (sB (by assumption)))).mono ?_; rintro e w5 ⟨v5, rfl, ho5, b5⟩; have HO5 := hid ho5; clear ho5)
              | (go_at_call 59; refine (WY.out _ (bl_tr HB3.out (sB (by assumption)))).mono ?_; rintro e w6 ⟨v6, rfl, ho6, b6⟩; have HO6 := hid ho6; have HO5 := hid (HO5.out.below b6); clear ho6)
              | (go_at_call 57; refine (AW.out _ _ _ (bl_tr HB3.out (sB (by assumption))) HO5.out HO6.out).mono ?_; rintro e w7 ⟨rfl, b7⟩))
            have HZ := hid (bl_tr HB3.out (sB (by assumption)))
            go_wp2
            go_ret
            exact ⟨ret_bool HE.out.symm, HZ.out⟩
          | false =>
            rw [hbn] at BQ
            have HEN : Hid (Tt.same t t' (envOf X) (envOf Y) = ((t.n == t'.n) && Tt.sameL t.ks t'.ks (envOf X) (envOf Y))) := by
              show _ = _
              rw [HSM, HNU.out, hbn, if_neg h6, env_no hbn, env_no (by rw [HBB.out]; exact hbn)]; rfl
            clear HSM hls h1 h2 h6 hbn HNU HBB AW WX WY LX LY
            by_cases hnn : t.n = t'.n
            · have HE : Hid (Tt.same t t' (envOf X) (envOf Y) = Tt.sameL t.ks t'.ks (envOf X) (envOf Y)) := by show _ = _; rw [HEN.out, hnn]; simp
              have gnn : (t.n == t'.n) = true := by simp [hnn]
              clear HEN hnn
              go_enter Try.func50, Try.ntmps50
              go_wp2_with (first | (go_at_call 55; refine (TQ.out _ xb.out).mono ?_; rintro e w3 ⟨rfl, b3⟩; have HB3 := hid (bl_tr xb.out b3); have X3 := hid (x0.out.stays b3); have Y3 := hid (x1.out.stays b3); have r0 := X3.out.cell; have r1 := Y3.out.cell; clear b3 TQ) | (go_at_call 58; refine (BQ.out _).mono ?_; rintro e w4 ⟨rfl, hw⟩; rw [hw]; clear hw w4 BQ) | (go_at_call 57; refine (AQ.out _ HB3.out).mono ?_; rintro e w6 ⟨rfl, b6⟩))
              go_ret
              exact ⟨ret_bool HE.out.symm, bl_tr HB3.out b6⟩
            · have HE : Hid (Tt.same t t' (envOf X) (envOf Y) = false) := by show _ = _; rw [HEN.out]; simp [hnn]
              have gnn : (t.n == t'.n) = false := by simp [hnn]
              clear HEN hnn AQ
              go_enter Try.func50, Try.ntmps50
              go_wp2_with (first | (go_at_call 55; refine (TQ.out _ xb.out).mono ?_; rintro e w3 ⟨rfl, b3⟩; have HB3 := hid (bl_tr xb.out b3); have X3 := hid (x0.out.stays b3); have Y3 := hid (x1.out.stays b3); have r0 := X3.out.cell; have r1 := Y3.out.cell; clear b3 TQ) | (go_at_call 58; refine (BQ.out _).mono ?_; rintro e w4 ⟨rfl, hw⟩; rw [hw]; clear hw w4 BQ))
              go_ret
              exact ⟨ret_bool HE.out.symm, HB3.out⟩
    · have g2 : ((t.ks.length : Int) != (t'.ks.length : Int)) = true := by simp; omega
      have HE : Hid (Tt.same t t' (envOf X) (envOf Y) = false) := by
        show _ = _
        have hne : ((t.ks.length : Int) == t'.ks.length) = false := by simp; omega
        rw [HSM]
        unfold Tt.alike
        rw [hne]
        simp
      clear HSM h1 h2 h h' hX hY hS hS' hL hL' LX LY WX WY BQ ih
      go_enter Try.func50, Try.ntmps50
      go_wp2
      go_ret
      exact ⟨ret_bool HE.out.symm, xb.out⟩
  · have g1 : (t.k != t'.k) = true := by simp [h1]
    have HE : Hid (Tt.same t t' (envOf X) (envOf Y) = false) := by
      show _ = _
      have hne : (t.k == t'.k) = false := by simp [h1]
      rw [HSM]
      unfold Tt.alike
      rw [hne]
      simp
    clear HSM h1 h h' hX hY hS hS' hL hL' LX LY WX WY BQ ih
    go_enter Try.func50, Try.ntmps50
    go_wp2
    go_ret
    exact ⟨ret_bool HE.out.symm, xb.out⟩
theorem rsame_any : ∀ n, RSameOf n
  | 0 => fun w m us us' t t' xv yv X Y h => h.elim
  | n + 1 => rsame_step n (rsames_step n (rsame_any n))

set_option maxRecDepth 100000 in
theorem RSameType_any (w : World) (n m : Nat) (us us' : List Value) (t t' : Tt) (h : TAt w Any n us t) (h' : TAt w Any m us' t') (hc : t.cnt ≤ 1099511627776) : Calls Try.prog 32 #[.agg us.toArray, .agg us'.toArray] w fun e w' => e = .returned (.bool (Tt.same t t' [] [])) ∧ Below w.heap.size w w' := by
  have HQ : Hid (∀ o o', Calls Try.prog 50 #[.agg us.toArray, .agg us'.toArray, .slice none 0 0, .slice none 0 0] ((w.alloc o).alloc o') fun e w' => e = .returned (.bool (Tt.same t t' [] [])) ∧ Below w.heap.size w w') := fun o o' => (rsame_any n _ m us us' t t' _ _ [] [] (h.below (bl_alloc (bl_alloc (Below.refl _ _) _) _)) (h'.below (bl_alloc (bl_alloc (Below.refl _ _) _) _)) (Ow.nil _) (Ow.nil _) (by simp; omega) (by simp; omega)).mono fun e w' ⟨h1, h2⟩ => ⟨h1, bl_tr (bl_alloc (bl_alloc (Below.refl _ _) _) _) h2⟩
  obtain ⟨a1, c1, a2, c2, rfl⟩ := h.form
  obtain ⟨b1, d1, b2, d2, rfl⟩ := h'.form
  clear h h'
  go_enter Try.func32, Try.ntmps32
  go_wp2_with (go_at_call 50; refine (HQ.out _ _).mono ?_; rintro e w2 ⟨rfl, hb2⟩)
  go_ret
  exact ⟨rfl, hb2⟩
end Go.Proofs.Ytigliglmejkakaa.Tgt
