/- The document's stamps, made. -/
import Derived.Deep.RegionHeld
import Derived.Test.YtigliglmejkakaaQah
import Derived.Test.YtigliglmejkakaaQac
namespace Go.Proofs.Ytigliglmejkakaa
open Go.RowKit
set_option linter.unusedVariables false
set_option linter.unusedSimpArgs false

mutual
/-- The target type of a right type, its TGen from a number on. -/
def Tp.made (k : Int) : Tp → Tgt.Tt
  | .mk kd n ks => if kd = 1 then .mk 1 0 [] [] else if kd = 2 then .mk 2 0 [] [] else if kd = 3 then .mk 3 0 [] [] else if kd = 6 then .mk 6 n [] [] else if kd = 8 then .mk 6 (k + n) [] [] else .mk (if kd = 5 then 5 else 4) 0 [] (Tp.madeL k ks)
def Tp.madeL (k : Int) : List Tp → List Tgt.Tt
  | [] => []
  | x :: r => Tp.made k x :: Tp.madeL k r
end
theorem Tp.madeL_map (k : Int) : ∀ l : List Tp, Tp.madeL k l = l.map (Tp.made k)
  | [] => by rw [Tp.madeL]; rfl
  | x :: r => by rw [Tp.madeL, Tp.madeL_map k r]; rfl
/-- Are all stamps such as may be? -/
def okStamps (l : List Int) : Bool := l.all fun x => decide (0 ≤ x ∧ x ≤ 2147483647)
theorem okStamps_at {l : List Int} {k : Nat} {x : Int} (hx : l[k]? = some x) : okStamps (l.drop k) = (decide (0 ≤ x ∧ x ≤ 2147483647) && okStamps (l.drop (k + 1))) := by
  obtain ⟨h1, e1⟩ := List.getElem?_eq_some_iff.1 hx
  rw [List.drop_eq_getElem_cons h1, e1]
  rfl

set_option maxRecDepth 100000 in
theorem rstamps_any (w : World) (v : Value) (l : List Int) (h : Ls w Any v l) : Calls Try.prog 23 #[v] w fun e w' => e = .returned (.bool (okStamps l)) ∧ w' = w := by
  obtain ⟨a, c, rfl, hm⟩ := h.form
  unfold maxLen at hm
  go_enter Try.func23, Try.ntmps23
  go_wp2
  go_loopw [3] (fun v wr => ∃ k : Nat, v = .int .i64 k ∧ k ≤ l.length ∧ Hid (okStamps l = okStamps (l.drop k)) ∧ wr = w) (fun v _ => l.length - (intOf v).toNat)
  case atStart => exact ⟨0, rfl, Nat.zero_le _, rfl, rfl⟩
  case round =>
    obtain ⟨k, rfl, hk, hH, hwr⟩ := hrel
    subst wr
    by_cases hlt : k < l.length
    · obtain ⟨b, o, c', hv, -, -, -, hl⟩ := h.resolve_right (fun h => by rw [h.1] at hlt; exact absurd hlt (Nat.not_lt_zero _))
      injection hv with e1 e2 e3
      subst e1
      obtain ⟨x, hx⟩ : ∃ x, l[k]? = some x := ⟨_, List.getElem?_eq_getElem hlt⟩
      have hc := hl k x hx
      have HX := hid (hH.out.trans (okStamps_at hx))
      clear hl hx hH h e2 e3
      by_cases h0 : x < 0
      · have HY : Hid (okStamps l = false) := by show _ = _; rw [HX.out, decide_eq_false (by omega)]; rfl
        clear HX
        go_wp2
        go_ret
        exact ⟨ret_bool HY.out.symm, rfl⟩
      · by_cases h1 : 2147483647 < x
        · have HY : Hid (okStamps l = false) := by show _ = _; rw [HX.out, decide_eq_false (by omega)]; rfl
          clear HX
          go_wp2
          go_ret
          exact ⟨ret_bool HY.out.symm, rfl⟩
        · have HY : Hid (okStamps l = okStamps (l.drop (k + 1))) := by show _ = _; rw [HX.out, decide_eq_true (by omega)]; rfl
          clear HX
          go_wp2
          go_roundw
          case rel => exact ⟨k + 1, by go_num, by omega, HY, by first | trivial | rfl⟩
          case measure => simp [intOf]; omega
    · have HX : Hid (okStamps l = true) := by
        show _ = _
        rw [hH.out, List.drop_eq_nil_of_le (by omega)]; rfl
      clear hH h
      go_wp2
      go_ret
      exact ⟨ret_bool HX.out.symm, rfl⟩
theorem Tp.all_8t {x : Tp} (h : x.k = 8) : x.n ∈ Tp.all 8 x := by
  obtain ⟨k, n, ks⟩ := x
  have h : k = 8 := h
  rw [Tp.all, if_pos h]
  exact List.mem_append_left _ (List.mem_singleton.2 rfl)
theorem Tp.allL_memt {z : Int} : ∀ {l : List Tp} {y : Tp}, y ∈ l → z ∈ Tp.all 8 y → z ∈ Tp.allL 8 l
  | [], y, h, _ => by cases h
  | v :: r, y, h, hz => by
    rw [Tp.allL]
    rcases List.mem_cons.1 h with rfl | h
    · exact List.mem_append_left _ hz
    · exact List.mem_append_right _ (Tp.allL_memt h hz)
theorem Tp.all_kst {x y : Tp} {z : Int} (h : y ∈ x.ks) (hz : z ∈ Tp.all 8 y) : z ∈ Tp.all 8 x := by
  obtain ⟨k, n, ks⟩ := x
  rw [Tp.all]
  exact List.mem_append_right _ (Tp.allL_memt h hz)
theorem Tp.cntL_memt : ∀ {l : List Tp} {y : Tp}, y ∈ l → y.cnt ≤ Tp.cntL l
  | [], y, h => by cases h
  | v :: r, y, h => by
    rw [Tp.cntL]
    rcases List.mem_cons.1 h with rfl | h
    · omega
    · have := Tp.cntL_memt h; omega
theorem Tp.cnt_kst (t : Tp) : t.cnt = Tp.cntL t.ks + 1 := by cases t; rw [Tp.cnt]; rfl
theorem Tp.made_ks (k : Int) (t : Tp) (h1 : t.k ≠ 1) (h2 : t.k ≠ 2) (h3 : t.k ≠ 3) (h6 : t.k ≠ 6) (h8 : t.k ≠ 8) : Tp.made k t = .mk (if t.k = 5 then 5 else 4) 0 [] (t.ks.map (Tp.made k)) := by
  obtain ⟨kd, n, ks⟩ := t
  simp only [Tp.k, Tp.ks] at *
  rw [Tp.made, if_neg h1, if_neg h2, if_neg h3, if_neg h6, if_neg h8, Tp.madeL_map]
  rfl
theorem tat_leaf {w : World} {K : Nat → Prop} (k n : Int) (h1 : Tgt.R64 k) (h2 : Tgt.R64 n) : Tgt.TAt w K 1 [.int .i64 k, .int .i64 n, .slice none 0 0, .slice none 0 0] (.mk k n [] []) :=
  ⟨_, _, rfl, h1, h2, .inr ⟨rfl, none, 0, rfl⟩, .inr ⟨rfl, none, 0, rfl⟩⟩
def TmAns (w : World) (y : Tgt.Tt) (e : Ending) (w' : World) : Prop := ∃ a c N, e = .returned (.agg #[.int .i64 y.k, .int .i64 y.n, .slice none 0 0, .slice a y.ks.length c]) ∧ Tgt.TAt w' (fun b => w.heap.size ≤ b) N [.int .i64 y.k, .int .i64 y.n, .slice none 0 0, .slice a y.ks.length c] y ∧ y.ls = [] ∧ Below w.heap.size w w'
def TmOf (n : Nat) : Prop := ∀ (w : World) (vs : List Value) (t : Tp) (k : Int), TAt w Any n vs t → t.cnt ≤ 1048576 → (∀ x ∈ Tp.all 8 t, R64 (k + x)) → Calls Try.prog 25 #[.agg vs.toArray, .int .i64 k] w (TmAns w (Tp.made k t))

set_option maxHeartbeats 4000000 in
set_option maxRecDepth 100000 in
theorem made_step (n : Nat) (ih : TmOf n) : TmOf (n + 1) := by
  intro w vs t k hT hcnt hg
  obtain ⟨v, rfl, hk64, hn64, hL⟩ := hT.open_
  obtain ⟨a1, c1, rfl, hm⟩ := hL.form
  unfold maxLen at hm
  have HL : Hid (TAtL w Any n (.slice a1 t.ks.length c1) t.ks) := hL
  have HN64 : Hid (R64 t.n) := hn64
  have HR8 : Hid (∀ x ∈ Tp.all 8 t, R64 (k + x)) := hg
  clear hT hL hk64 hn64 hg
  by_cases h1 : t.k = 1
  · have HE : Hid (Tp.made k t = .mk 1 (0) [] []) := by
      obtain ⟨kd, n0, ks⟩ := t
      simp only [Tp.k, Tp.n] at *
      show _ = _
      rw [Tp.made]
      simp [h1]
    have eh1 : (t.k == 1) = true := by rw [beq_iff_eq]; exact h1
    have HN : Hid (Tgt.R64 (0)) := ⟨by omega, by omega⟩
    clear HL ih HR8 hm
    go_enter Try.func25, Try.ntmps25
    go_wp2
    refine bodyPost_ret (v := .agg #[.int .i64 1, .int .i64 (0), .slice none 0 0, .slice none 0 0]) (by rw [results_cell1 (fn := Try.f25) (p := 4) (ty := 30) (by kernel_rfl)]; simp [go_sem]) rfl ?_
    show TmAns _ _ _ _
    rw [HE.out]
    exact ⟨none, 0, 1, rfl, tat_leaf 1 (0) (⟨by omega, by omega⟩ : Tgt.R64 1) HN.out, rfl, bl_alloc (bl_alloc (Below.refl _ _) _) _⟩
  · have nh1 : (t.k == 1) = false := by rw [beq_eq_false_iff_ne]; exact h1
    by_cases h2 : t.k = 2
    · have HE : Hid (Tp.made k t = .mk 2 (0) [] []) := by
        obtain ⟨kd, n0, ks⟩ := t
        simp only [Tp.k, Tp.n] at *
        show _ = _
        rw [Tp.made]
        simp [h2]
      have eh2 : (t.k == 2) = true := by rw [beq_iff_eq]; exact h2
      have HN : Hid (Tgt.R64 (0)) := ⟨by omega, by omega⟩
      clear HL ih HR8 hm
      go_enter Try.func25, Try.ntmps25
      go_wp2
      refine bodyPost_ret (v := .agg #[.int .i64 2, .int .i64 (0), .slice none 0 0, .slice none 0 0]) (by rw [results_cell1 (fn := Try.f25) (p := 4) (ty := 30) (by kernel_rfl)]; simp [go_sem]) rfl ?_
      show TmAns _ _ _ _
      rw [HE.out]
      exact ⟨none, 0, 1, rfl, tat_leaf 2 (0) (⟨by omega, by omega⟩ : Tgt.R64 2) HN.out, rfl, bl_alloc (bl_alloc (Below.refl _ _) _) _⟩
    · have nh2 : (t.k == 2) = false := by rw [beq_eq_false_iff_ne]; exact h2
      by_cases h3 : t.k = 3
      · have HE : Hid (Tp.made k t = .mk 3 (0) [] []) := by
          obtain ⟨kd, n0, ks⟩ := t
          simp only [Tp.k, Tp.n] at *
          show _ = _
          rw [Tp.made]
          simp [h3]
        have eh3 : (t.k == 3) = true := by rw [beq_iff_eq]; exact h3
        have HN : Hid (Tgt.R64 (0)) := ⟨by omega, by omega⟩
        clear HL ih HR8 hm
        go_enter Try.func25, Try.ntmps25
        go_wp2
        refine bodyPost_ret (v := .agg #[.int .i64 3, .int .i64 (0), .slice none 0 0, .slice none 0 0]) (by rw [results_cell1 (fn := Try.f25) (p := 4) (ty := 30) (by kernel_rfl)]; simp [go_sem]) rfl ?_
        show TmAns _ _ _ _
        rw [HE.out]
        exact ⟨none, 0, 1, rfl, tat_leaf 3 (0) (⟨by omega, by omega⟩ : Tgt.R64 3) HN.out, rfl, bl_alloc (bl_alloc (Below.refl _ _) _) _⟩
      · have nh3 : (t.k == 3) = false := by rw [beq_eq_false_iff_ne]; exact h3
        by_cases h6 : t.k = 6
        · have HE : Hid (Tp.made k t = .mk 6 (t.n) [] []) := by
            obtain ⟨kd, n0, ks⟩ := t
            simp only [Tp.k, Tp.n] at *
            show _ = _
            rw [Tp.made]
            simp [h6]
          have eh6 : (t.k == 6) = true := by rw [beq_iff_eq]; exact h6
          have HN : Hid (Tgt.R64 (t.n)) := HN64.out
          clear HL ih HR8 hm
          go_enter Try.func25, Try.ntmps25
          go_wp2
          refine bodyPost_ret (v := .agg #[.int .i64 6, .int .i64 (t.n), .slice none 0 0, .slice none 0 0]) (by rw [results_cell1 (fn := Try.f25) (p := 4) (ty := 30) (by kernel_rfl)]; simp [go_sem]) rfl ?_
          show TmAns _ _ _ _
          rw [HE.out]
          exact ⟨none, 0, 1, rfl, tat_leaf 6 (t.n) (⟨by omega, by omega⟩ : Tgt.R64 6) HN.out, rfl, bl_alloc (bl_alloc (Below.refl _ _) _) _⟩
        · have nh6 : (t.k == 6) = false := by rw [beq_eq_false_iff_ne]; exact h6
          by_cases h8 : t.k = 8
          · have HE : Hid (Tp.made k t = .mk 6 (k + t.n) [] []) := by
              obtain ⟨kd, n0, ks⟩ := t
              simp only [Tp.k, Tp.n] at *
              show _ = _
              rw [Tp.made]
              simp [h8]
            have eh8 : (t.k == 8) = true := by rw [beq_iff_eq]; exact h8
            have HN : Hid (Tgt.R64 (k + t.n)) := HR8.out t.n (Tp.all_8t h8)
            clear HL ih HR8 hm
            have hw8 : IntKind.i64.wrap (k + t.n) = k + t.n := by rw [IntKind.wrap_i64]; have hq := HN.out; unfold Tgt.R64 at hq; omega
            go_enter Try.func25, Try.ntmps25
            go_wp2
            refine bodyPost_ret (v := .agg #[.int .i64 6, .int .i64 (k + t.n), .slice none 0 0, .slice none 0 0]) (by rw [results_cell1 (fn := Try.f25) (p := 4) (ty := 30) (by kernel_rfl)]; simp [go_sem]) rfl ?_
            show TmAns _ _ _ _
            rw [HE.out]
            exact ⟨none, 0, 1, rfl, tat_leaf 6 (k + t.n) (⟨by omega, by omega⟩ : Tgt.R64 6) HN.out, rfl, bl_alloc (bl_alloc (Below.refl _ _) _) _⟩
          · have nh8 : (t.k == 8) = false := by rw [beq_eq_false_iff_ne]; exact h8
            have HM := hid (Tp.made_ks k t h1 h2 h3 h6 h8)
            have HC : Hid (∀ x ∈ t.ks, x.cnt ≤ 1048576) := fun x hx => by have := Tp.cntL_memt hx; have := Tp.cnt_kst t; omega
            have HKL : Hid (t.ks.length ≤ 1048576) := by have := Tp.cntL_len t.ks; have := Tp.cnt_kst t; show _ ≤ _; omega
            clear h1 h2 h3 h6 h8 hcnt
            by_cases h5 : t.k = 5
            · have g5 : (t.k == 5) = true := by rw [beq_iff_eq]; exact h5
              have HE : Hid (Tp.made k t = .mk 5 0 [] (t.ks.map (Tp.made k))) := by show _ = _; rw [HM.out, if_pos h5]
              clear h5 HM
              have X : Hid (Kd (w.heap.size + 2) (w.heap.size + 3) 5 0 [] 0 (.slice none 0 0) [] (((w.alloc (.cells #[.int .i64 t.k, .int .i64 t.n, .slice a1 t.ks.length c1] 24)).alloc (.cells #[.int .i64 0, .int .i64 0, .slice none 0 0, .slice none 0 0] 30)).alloc (.cells #[.int .i64 5, .int .i64 0, .slice none 0 0, .slice none 0 0] 30))) := by
                have := Kd.start (w := ((w.alloc (.cells #[.int .i64 t.k, .int .i64 t.n, .slice a1 t.ks.length c1] 24)).alloc (.cells #[.int .i64 0, .int .i64 0, .slice none 0 0, .slice none 0 0] 30))) 5 0 rfl
                rw [size_alloc, size_alloc] at this
                exact this
              have XT : Hid (Arr (((w.alloc (.cells #[.int .i64 t.k, .int .i64 t.n, .slice a1 t.ks.length c1] 24)).alloc (.cells #[.int .i64 0, .int .i64 0, .slice none 0 0, .slice none 0 0] 30)).alloc (.cells #[.int .i64 5, .int .i64 0, .slice none 0 0, .slice none 0 0] 30)) w.heap.size 24 [.int .i64 t.k, .int .i64 t.n, .slice a1 t.ks.length c1]) := Arr.stays (w := w.alloc (.cells #[.int .i64 t.k, .int .i64 t.n, .slice a1 t.ks.length c1] 24)) ⟨heap_alloc_at _ _⟩ (bl_alloc (bl_alloc (Below.refl _ _) _) _)
              have XR : Hid (Arr (((w.alloc (.cells #[.int .i64 t.k, .int .i64 t.n, .slice a1 t.ks.length c1] 24)).alloc (.cells #[.int .i64 0, .int .i64 0, .slice none 0 0, .slice none 0 0] 30)).alloc (.cells #[.int .i64 5, .int .i64 0, .slice none 0 0, .slice none 0 0] 30)) (w.heap.size + 1) 30 [.int .i64 0, .int .i64 0, .slice none 0 0, .slice none 0 0]) := by
                have := heap_alloc_at (w.alloc (.cells #[.int .i64 t.k, .int .i64 t.n, .slice a1 t.ks.length c1] 24)) (.cells #[.int .i64 0, .int .i64 0, .slice none 0 0, .slice none 0 0] 30)
                rw [size_alloc] at this
                exact Arr.stays (w := ((w.alloc (.cells #[.int .i64 t.k, .int .i64 t.n, .slice a1 t.ks.length c1] 24)).alloc (.cells #[.int .i64 0, .int .i64 0, .slice none 0 0, .slice none 0 0] 30))) ⟨this⟩ (bl_alloc (Below.refl _ _) _)
              have XB : Hid (Below w.heap.size w (((w.alloc (.cells #[.int .i64 t.k, .int .i64 t.n, .slice a1 t.ks.length c1] 24)).alloc (.cells #[.int .i64 0, .int .i64 0, .slice none 0 0, .slice none 0 0] 30)).alloc (.cells #[.int .i64 5, .int .i64 0, .slice none 0 0, .slice none 0 0] 30))) := bl_alloc (bl_alloc (bl_alloc (Below.refl _ _) _) _) _
              obtain ⟨i0, hi0, hz0, hz1, hz2⟩ := info_parts0 info_tt
              go_enter Try.func25, Try.ntmps25
              go_wp2
              generalize (((w.alloc (.cells #[.int .i64 t.k, .int .i64 t.n, .slice a1 t.ks.length c1] 24)).alloc (.cells #[.int .i64 0, .int .i64 0, .slice none 0 0, .slice none 0 0] 30)).alloc (.cells #[.int .i64 5, .int .i64 0, .slice none 0 0, .slice none 0 0] 30)) = W1 at X XT XR XB ⊢
              go_loopw [6] (fun v wr => ∃ (j N : Nat) (ov : Value) (xs : List Value), v = .int .i64 j ∧ j ≤ t.ks.length ∧ Hid (Kd (w.heap.size + 2) (w.heap.size + 3) 5 0 ((t.ks.take j).map (Tp.made k)) N ov xs wr) ∧ Hid (Arr wr w.heap.size 24 [.int .i64 t.k, .int .i64 t.n, .slice a1 t.ks.length c1] ∧ Arr wr (w.heap.size + 1) 30 [.int .i64 0, .int .i64 0, .slice none 0 0, .slice none 0 0] ∧ Below w.heap.size w wr)) (fun v _ => t.ks.length - (intOf v).toNat)
              case atStart => exact ⟨0, 0, _, _, rfl, Nat.zero_le _, by simpa using X, ⟨XT.out, XR.out, XB.out⟩⟩
              case round =>
                obtain ⟨j, N, ov, xs, rfl, hjl, hP, hA⟩ := hrel
                clear X XT XR XB W1
                have b0 := hA.out.1.cell
                by_cases hlt : j < t.ks.length
                · obtain ⟨x, hxj⟩ : ∃ x, t.ks[j]? = some x := ⟨_, List.getElem?_eq_getElem hlt⟩
                  obtain ⟨kb, ko, rfl⟩ : ∃ b o, a1 = some ⟨b, o, none⟩ := by
                    rcases HL.out with ⟨b, o, c, hv, -⟩ | ⟨h0, -⟩
                    · injection hv with e1 e2 e3; exact ⟨b, o, e1⟩
                    · rw [h0] at hlt; exact absurd hlt (Nat.not_lt_zero _)
                  obtain ⟨vx, tx, u0, u1, u2, -, hkb⟩ := HL.out.elem hxj
                  obtain ⟨ax, cx, ex⟩ := tx.form
                  simp only [List.cons.injEq, and_true, true_and] at ex
                  subst ex
                  have hmem := List.mem_of_getElem? hxj
                  have HQ : Hid (∀ wz, Below w.heap.size w wz → Calls Try.prog 25 #[.agg #[.int .i64 x.k, .int .i64 x.n, .slice ax x.ks.length cx], .int .i64 k] wz (TmAns wz (Tp.made k x))) := fun wz hz => ih wz _ x k (tx.below hz) (HC.out x hmem) (fun z hz => HR8.out z (Tp.all_kst hmem hz))
                  obtain ⟨y, hy⟩ : ∃ y, Tp.made k x = y := ⟨_, rfl⟩
                  rw [hy] at HQ
                  have HTK : Hid ((t.ks.take (j + 1)).map (Tp.made k) = (t.ks.take j).map (Tp.made k) ++ [y]) := by show _ = _; rw [List.take_add_one, hxj, List.map_append, ← hy]; rfl
                  have hlen : ((t.ks.take j).map (Tp.made k)).length = j := by rw [List.length_map, List.length_take]; omega
                  have hjb : j + 1 ≤ 1048577 := by have := HKL.out; omega
                  obtain ⟨oa, oc, rfl⟩ : ∃ oa oc, ov = .slice oa j oc := by have := own_form hP.out.own; rw [hlen] at this; exact this
                  generalize (t.ks.take j).map (Tp.made k) = ys at hP HTK hlen
                  subst hlen
                  have HPd := hid (hP.out.stays (Below.refl _ _).drew)
                  have HU : Hid (∀ wz, Below w.heap.size w wz → wz.cell? ⟨kb, ko + ys.length * 3, none⟩ = some (.int .i64 x.k) ∧ wz.cell? ⟨kb, ko + ys.length * 3 + 1, none⟩ = some (.int .i64 x.n) ∧ wz.cell? ⟨kb, ko + ys.length * 3 + 2, none⟩ = some (.slice ax x.ks.length cx)) := fun wz hz => ⟨(hz.cell (p := ⟨kb, ko + ys.length * 3, none⟩) hkb).trans u0, (hz.cell (p := ⟨kb, ko + ys.length * 3 + 1, none⟩) hkb).trans u1, (hz.cell (p := ⟨kb, ko + ys.length * 3 + 2, none⟩) hkb).trans u2⟩
                  have hs0 : Hid (Arr wr.drew w.heap.size 24 [.int .i64 t.k, .int .i64 t.n, .slice (some ⟨kb, ko, none⟩) t.ks.length c1] ∧ Below w.heap.size w wr.drew) := ⟨hA.out.1.stays (Below.refl _ _).drew, hA.out.2.2.drew⟩
                  have HRb := hid (hA.out.2.1.stays (Below.refl _ _).drew)
                  have o2 := HPd.out.ob.cell 3
                  simp only [List.getElem?_cons_succ, List.getElem?_cons_zero] at o2
                  clear hxj hy tx ih HL HC HR8 hmem u0 u1 u2
                  go_wp2
                  refine wp_region_held_drew (S := fun wz => Arr wz w.heap.size 24 [.int .i64 t.k, .int .i64 t.n, .slice (some ⟨kb, ko, none⟩) t.ks.length c1] ∧ Below w.heap.size w wz) (by kernel_rfl) (hs0.out) (fun hS => ?_)
                  generalize wr.drew = wd at hS HPd o2 HRb ⊢
                  refine wpAnyH_take (i := 0) (v := ?_) rfl (by kernel_rfl) (by kernel_rfl) (by kernel_rfl) (fun _ _ _ h => h) (Or.inl ⟨by rfl, ?_⟩) hS ?_
                  rotate_left
                  · intro wz hz; go_simp; try with_reducible rfl
                  try simp only [Act.put, List.setIfInBounds_toArray, List.set_cons_zero, List.set_cons_succ, List.getElem_toArray, List.getElem_cons_succ, List.getElem_cons_zero]
                  refine wpAnyH_take (i := 2) (v := ?_) rfl (by kernel_rfl) (by kernel_rfl) (by kernel_rfl) (fun _ _ _ h => h) (Or.inl ⟨by rfl, ?_⟩) hS ?_
                  rotate_left
                  · intro wz hz; go_simp; try with_reducible rfl
                  try simp only [Act.put, List.setIfInBounds_toArray, List.set_cons_zero, List.set_cons_succ, List.getElem_toArray, List.getElem_cons_succ, List.getElem_cons_zero]
                  refine wpAnyH_take (i := 3) (v := ?_) rfl (by kernel_rfl) (by kernel_rfl) (by kernel_rfl) (fun _ _ _ h => h) (Or.inl ⟨by rfl, ?_⟩) hS ?_
                  rotate_left
                  · intro wz hz; have yy0 := hz.1.cell; obtain ⟨yy2, yy3, yy4⟩ := HU.out wz hz.2; go_simp; try with_reducible rfl
                  try simp only [Act.put, List.setIfInBounds_toArray, List.set_cons_zero, List.set_cons_succ, List.getElem_toArray, List.getElem_cons_succ, List.getElem_cons_zero]
                  refine wpAnyH_take (i := 4) (v := ?_) rfl (by kernel_rfl) (by kernel_rfl) (by kernel_rfl) (fun _ _ _ h => h) (Or.inl ⟨by rfl, ?_⟩) hS ?_
                  rotate_left
                  · intro wz hz; go_simp; try with_reducible rfl
                  try simp only [Act.put, List.setIfInBounds_toArray, List.set_cons_zero, List.set_cons_succ, List.getElem_toArray, List.getElem_cons_succ, List.getElem_cons_zero]
                  refine wpAnyH_take (i := 5) (v := ?_) rfl (by kernel_rfl) (by kernel_rfl) (by kernel_rfl) (fun _ _ _ h => h) (Or.inl ⟨by rfl, ?_⟩) hS ?_
                  rotate_left
                  · intro wz hz; go_simp; try with_reducible rfl
                  try simp only [Act.put, List.setIfInBounds_toArray, List.set_cons_zero, List.set_cons_succ, List.getElem_toArray, List.getElem_cons_succ, List.getElem_cons_zero]
                  refine wpAnyH_take (i := 6) (v := ?_) rfl (by kernel_rfl) (by kernel_rfl) (by kernel_rfl) (fun _ _ _ h => h) (Or.inl ⟨by rfl, ?_⟩) hS ?_
                  rotate_left
                  · intro wz hz; have yy0 := hz.1.cell; obtain ⟨yy2, yy3, yy4⟩ := HU.out wz hz.2; go_simp; try with_reducible rfl
                  try simp only [Act.put, List.setIfInBounds_toArray, List.set_cons_zero, List.set_cons_succ, List.getElem_toArray, List.getElem_cons_succ, List.getElem_cons_zero]
                  refine wpAnyH_take (i := 7) (v := ?_) rfl (by kernel_rfl) (by kernel_rfl) (by kernel_rfl) (fun _ _ _ h => h) (Or.inl ⟨by rfl, ?_⟩) hS ?_
                  rotate_left
                  · intro wz hz; go_simp; try with_reducible rfl
                  try simp only [Act.put, List.setIfInBounds_toArray, List.set_cons_zero, List.set_cons_succ, List.getElem_toArray, List.getElem_cons_succ, List.getElem_cons_zero]
                  refine wpAnyH_ready (rs := [1, 8]) (by kernel_rfl) (by simp) (AllReadyH.cons rfl (fun K hK => ?a1_1) (AllReadyH.cons rfl (fun K hK => ?a1_8) AllReadyH.nil))
                  case' a1_1 =>
                    go_simp
                    refine hK.out _ _ (hS) (fun hSn => ?_)
                    clear hK K hS
                    have hS := hSn
                    clear hSn
                    try simp only [Act.put, List.setIfInBounds_toArray, List.set_cons_zero, List.set_cons_succ, List.getElem_toArray, List.getElem_cons_succ, List.getElem_cons_zero]
                    refine wpAnyH_ready (rs := [8]) (by kernel_rfl) (by simp) (AllReadyH.cons rfl (fun K hK => ?a2_8) AllReadyH.nil)
                    case' a2_8 =>
                      go_simp
                      refine (HQ.out _ hS.2).mono ?_
                      rintro e w3 ⟨a3, c3, N3, rfl, hT3, hls3, b3⟩
                      have HTy := hid (HPd.out.kp hT3)
                      have HLS := hid hls3
                      have HPd := hid (HPd.out.stays b3)
                      have HRb := hid (HRb.out.stays b3)
                      have o3 := HPd.out.ob.cell 3
                      simp only [List.getElem?_cons_succ, List.getElem?_cons_zero] at o3
                      clear hT3 hls3
                      refine hK.out _ _ (⟨hS.1.stays b3, bl_tr hS.2 b3⟩) (fun hSn => ?_)
                      clear hK K hS
                      have hS := hSn
                      clear hSn
                      try simp only [Act.put, List.setIfInBounds_toArray, List.set_cons_zero, List.set_cons_succ, List.getElem_toArray, List.getElem_cons_succ, List.getElem_cons_zero]
                      clear b3
                      refine wpAnyH_ready (rs := [9]) (by kernel_rfl) (by simp) (AllReadyH.cons rfl (fun K hK => ?a3_9) AllReadyH.nil)
                      case' a3_9 =>
                        go_simp
                        have b4 := bl_alloc (Below.refl w3.heap.size w3) (.cells #[.int .i64 y.k, .int .i64 y.n, .slice none 0 0, .slice a3 y.ks.length c3] 30)
                        have HPd := hid (HPd.out.stays b4)
                        have HRb := hid (HRb.out.stays b4)
                        have HTy := hid (HTy.out.below b4)
                        have o4 := HPd.out.ob.cell 3
                        simp only [List.getElem?_cons_succ, List.getElem?_cons_zero] at o4
                        have hY : Hid (∀ (i : Nat) u, [.int .i64 y.k, .int .i64 y.n, .slice none 0 0, .slice a3 y.ks.length c3][i]? = some u → (w3.alloc (.cells #[.int .i64 y.k, .int .i64 y.n, .slice none 0 0, .slice a3 y.ks.length c3] 30)).cell? ((⟨w3.heap.size, 0, none⟩ : Addr).add i) = some u) := fun i u hu => by rw [addr_add14, cell_at (heap_alloc_at _ _)]; simpa using hu
                        refine hK.out _ _ (⟨hS.1.stays b4, bl_tr hS.2 b4⟩) (fun hSn => ?_)
                        clear hK K hS
                        have hS := hSn
                        clear hSn
                        try simp only [Act.put, List.setIfInBounds_toArray, List.set_cons_zero, List.set_cons_succ, List.getElem_toArray, List.getElem_cons_succ, List.getElem_cons_zero]
                        clear b4
                        refine wpAnyH_ready (rs := [10]) (by kernel_rfl) (by simp) (AllReadyH.cons rfl (fun K hK => ?a4_10) AllReadyH.nil)
                        case' a4_10 =>
                          refine step_append2 rfl _ _ 28 rfl (w.heap.size + 3) 30 i0 (.agg #[.int .i64 0, .int .i64 0, .slice none 0 0, .slice none 0 0]) 4 64 Try.underlying28 hi0 hz0 hz1 hz2 rfl (by decide) _ ys.length xs rfl HPd.out.own ⟨w3.heap.size, 0, none⟩ 1 1 [.int .i64 y.k, .int .i64 y.n, .slice none 0 0, .slice a3 y.ks.length c3] rfl rfl hY.out (by simp [Value.oneCell']) (by unfold maxLen; omega) (by omega) HPd.out.le ?_
                          intro v' w9 hown' hgrow hfresh
                          obtain ⟨va, vc, rfl⟩ := own_form hown'
                          have hM := HPd.out.mid hgrow
                          have HZ := hid (HPd.out.app4 HLS.out HTy.out hown' hgrow hfresh)
                          have HG := hid hgrow
                          have HP9 := HPd
                          clear hown' hfresh
                          refine hK.out _ _ (⟨hM.2 hS.1 (by omega), HPd.out.bg hgrow (by omega) hS.2⟩) (fun hSn => ?_)
                          clear hK K hS
                          have hS := hSn
                          clear hSn
                          try simp only [Act.put, List.setIfInBounds_toArray, List.set_cons_zero, List.set_cons_succ, List.getElem_toArray, List.getElem_cons_succ, List.getElem_cons_zero]
                          have m0 := hM.1.cell 3
                          have m1 := hM.1.frozen 3
                          simp only [List.getElem?_cons_succ, List.getElem?_cons_zero] at m0
                          clear hgrow
                          refine wpAnyH_take (i := 11) (v := ?_) rfl (by kernel_rfl) (by kernel_rfl) (by kernel_rfl) (fun _ _ _ h => h) (Or.inl ⟨by rfl, ?_⟩) hS ?_
                          rotate_left
                          · intro wz hz; go_simp; try with_reducible rfl
                          try simp only [Act.put, List.setIfInBounds_toArray, List.set_cons_zero, List.set_cons_succ, List.getElem_toArray, List.getElem_cons_succ, List.getElem_cons_zero]
                          refine wpAnyH_ready (rs := [12]) (by kernel_rfl) (by simp) (AllReadyH.cons rfl (fun K hK => ?a5_12) AllReadyH.nil)
                          case' a5_12 =>
                            go_simp
                            refine hK.out _ _ (⟨hS.1.other (p := ⟨w.heap.size + 2, 3, none⟩) (by show w.heap.size ≠ w.heap.size + 2; omega) _, hS.2.setCell (p := ⟨w.heap.size + 2, 3, none⟩) (by show w.heap.size ≤ w.heap.size + 2; omega) _⟩) (fun hSn => ?_)
                            clear hK K hS
                            have hS := hSn
                            clear hSn
                            try simp only [Act.put, List.setIfInBounds_toArray, List.set_cons_zero, List.set_cons_succ, List.getElem_toArray, List.getElem_cons_succ, List.getElem_cons_zero]
                            refine wpAnyH_done (by kernel_rfl) ?_ _
                  case' a1_8 =>
                    go_simp
                    refine (HQ.out _ hS.2).mono ?_
                    rintro e w3 ⟨a3, c3, N3, rfl, hT3, hls3, b3⟩
                    have HTy := hid (HPd.out.kp hT3)
                    have HLS := hid hls3
                    have HPd := hid (HPd.out.stays b3)
                    have HRb := hid (HRb.out.stays b3)
                    have o3 := HPd.out.ob.cell 3
                    simp only [List.getElem?_cons_succ, List.getElem?_cons_zero] at o3
                    clear hT3 hls3
                    refine hK.out _ _ (⟨hS.1.stays b3, bl_tr hS.2 b3⟩) (fun hSn => ?_)
                    clear hK K hS
                    have hS := hSn
                    clear hSn
                    try simp only [Act.put, List.setIfInBounds_toArray, List.set_cons_zero, List.set_cons_succ, List.getElem_toArray, List.getElem_cons_succ, List.getElem_cons_zero]
                    clear b3
                    refine wpAnyH_ready (rs := [1, 9]) (by kernel_rfl) (by simp) (AllReadyH.cons rfl (fun K hK => ?a6_1) (AllReadyH.cons rfl (fun K hK => ?a6_9) AllReadyH.nil))
                    case' a6_1 =>
                      go_simp
                      refine hK.out _ _ (hS) (fun hSn => ?_)
                      clear hK K hS
                      have hS := hSn
                      clear hSn
                      try simp only [Act.put, List.setIfInBounds_toArray, List.set_cons_zero, List.set_cons_succ, List.getElem_toArray, List.getElem_cons_succ, List.getElem_cons_zero]
                      refine wpAnyH_ready (rs := [9]) (by kernel_rfl) (by simp) (AllReadyH.cons rfl (fun K hK => ?a7_9) AllReadyH.nil)
                      case' a7_9 =>
                        go_simp
                        have b4 := bl_alloc (Below.refl w3.heap.size w3) (.cells #[.int .i64 y.k, .int .i64 y.n, .slice none 0 0, .slice a3 y.ks.length c3] 30)
                        have HPd := hid (HPd.out.stays b4)
                        have HRb := hid (HRb.out.stays b4)
                        have HTy := hid (HTy.out.below b4)
                        have o4 := HPd.out.ob.cell 3
                        simp only [List.getElem?_cons_succ, List.getElem?_cons_zero] at o4
                        have hY : Hid (∀ (i : Nat) u, [.int .i64 y.k, .int .i64 y.n, .slice none 0 0, .slice a3 y.ks.length c3][i]? = some u → (w3.alloc (.cells #[.int .i64 y.k, .int .i64 y.n, .slice none 0 0, .slice a3 y.ks.length c3] 30)).cell? ((⟨w3.heap.size, 0, none⟩ : Addr).add i) = some u) := fun i u hu => by rw [addr_add14, cell_at (heap_alloc_at _ _)]; simpa using hu
                        refine hK.out _ _ (⟨hS.1.stays b4, bl_tr hS.2 b4⟩) (fun hSn => ?_)
                        clear hK K hS
                        have hS := hSn
                        clear hSn
                        try simp only [Act.put, List.setIfInBounds_toArray, List.set_cons_zero, List.set_cons_succ, List.getElem_toArray, List.getElem_cons_succ, List.getElem_cons_zero]
                        clear b4
                        refine wpAnyH_ready (rs := [10]) (by kernel_rfl) (by simp) (AllReadyH.cons rfl (fun K hK => ?a8_10) AllReadyH.nil)
                        case' a8_10 =>
                          refine step_append2 rfl _ _ 28 rfl (w.heap.size + 3) 30 i0 (.agg #[.int .i64 0, .int .i64 0, .slice none 0 0, .slice none 0 0]) 4 64 Try.underlying28 hi0 hz0 hz1 hz2 rfl (by decide) _ ys.length xs rfl HPd.out.own ⟨w3.heap.size, 0, none⟩ 1 1 [.int .i64 y.k, .int .i64 y.n, .slice none 0 0, .slice a3 y.ks.length c3] rfl rfl hY.out (by simp [Value.oneCell']) (by unfold maxLen; omega) (by omega) HPd.out.le ?_
                          intro v' w9 hown' hgrow hfresh
                          obtain ⟨va, vc, rfl⟩ := own_form hown'
                          have hM := HPd.out.mid hgrow
                          have HZ := hid (HPd.out.app4 HLS.out HTy.out hown' hgrow hfresh)
                          have HG := hid hgrow
                          have HP9 := HPd
                          clear hown' hfresh
                          refine hK.out _ _ (⟨hM.2 hS.1 (by omega), HPd.out.bg hgrow (by omega) hS.2⟩) (fun hSn => ?_)
                          clear hK K hS
                          have hS := hSn
                          clear hSn
                          try simp only [Act.put, List.setIfInBounds_toArray, List.set_cons_zero, List.set_cons_succ, List.getElem_toArray, List.getElem_cons_succ, List.getElem_cons_zero]
                          have m0 := hM.1.cell 3
                          have m1 := hM.1.frozen 3
                          simp only [List.getElem?_cons_succ, List.getElem?_cons_zero] at m0
                          clear hgrow
                          refine wpAnyH_take (i := 11) (v := ?_) rfl (by kernel_rfl) (by kernel_rfl) (by kernel_rfl) (fun _ _ _ h => h) (Or.inl ⟨by rfl, ?_⟩) hS ?_
                          rotate_left
                          · intro wz hz; go_simp; try with_reducible rfl
                          try simp only [Act.put, List.setIfInBounds_toArray, List.set_cons_zero, List.set_cons_succ, List.getElem_toArray, List.getElem_cons_succ, List.getElem_cons_zero]
                          refine wpAnyH_ready (rs := [12]) (by kernel_rfl) (by simp) (AllReadyH.cons rfl (fun K hK => ?a9_12) AllReadyH.nil)
                          case' a9_12 =>
                            go_simp
                            refine hK.out _ _ (⟨hS.1.other (p := ⟨w.heap.size + 2, 3, none⟩) (by show w.heap.size ≠ w.heap.size + 2; omega) _, hS.2.setCell (p := ⟨w.heap.size + 2, 3, none⟩) (by show w.heap.size ≤ w.heap.size + 2; omega) _⟩) (fun hSn => ?_)
                            clear hK K hS
                            have hS := hSn
                            clear hSn
                            try simp only [Act.put, List.setIfInBounds_toArray, List.set_cons_zero, List.set_cons_succ, List.getElem_toArray, List.getElem_cons_succ, List.getElem_cons_zero]
                            refine wpAnyH_done (by kernel_rfl) ?_ _
                    case' a6_9 =>
                      go_simp
                      have b4 := bl_alloc (Below.refl w3.heap.size w3) (.cells #[.int .i64 y.k, .int .i64 y.n, .slice none 0 0, .slice a3 y.ks.length c3] 30)
                      have HPd := hid (HPd.out.stays b4)
                      have HRb := hid (HRb.out.stays b4)
                      have HTy := hid (HTy.out.below b4)
                      have o4 := HPd.out.ob.cell 3
                      simp only [List.getElem?_cons_succ, List.getElem?_cons_zero] at o4
                      have hY : Hid (∀ (i : Nat) u, [.int .i64 y.k, .int .i64 y.n, .slice none 0 0, .slice a3 y.ks.length c3][i]? = some u → (w3.alloc (.cells #[.int .i64 y.k, .int .i64 y.n, .slice none 0 0, .slice a3 y.ks.length c3] 30)).cell? ((⟨w3.heap.size, 0, none⟩ : Addr).add i) = some u) := fun i u hu => by rw [addr_add14, cell_at (heap_alloc_at _ _)]; simpa using hu
                      refine hK.out _ _ (⟨hS.1.stays b4, bl_tr hS.2 b4⟩) (fun hSn => ?_)
                      clear hK K hS
                      have hS := hSn
                      clear hSn
                      try simp only [Act.put, List.setIfInBounds_toArray, List.set_cons_zero, List.set_cons_succ, List.getElem_toArray, List.getElem_cons_succ, List.getElem_cons_zero]
                      clear b4
                      refine wpAnyH_ready (rs := [1]) (by kernel_rfl) (by simp) (AllReadyH.cons rfl (fun K hK => ?a10_1) AllReadyH.nil)
                      case' a10_1 =>
                        go_simp
                        refine hK.out _ _ (hS) (fun hSn => ?_)
                        clear hK K hS
                        have hS := hSn
                        clear hSn
                        try simp only [Act.put, List.setIfInBounds_toArray, List.set_cons_zero, List.set_cons_succ, List.getElem_toArray, List.getElem_cons_succ, List.getElem_cons_zero]
                        refine wpAnyH_ready (rs := [10]) (by kernel_rfl) (by simp) (AllReadyH.cons rfl (fun K hK => ?a11_10) AllReadyH.nil)
                        case' a11_10 =>
                          refine step_append2 rfl _ _ 28 rfl (w.heap.size + 3) 30 i0 (.agg #[.int .i64 0, .int .i64 0, .slice none 0 0, .slice none 0 0]) 4 64 Try.underlying28 hi0 hz0 hz1 hz2 rfl (by decide) _ ys.length xs rfl HPd.out.own ⟨w3.heap.size, 0, none⟩ 1 1 [.int .i64 y.k, .int .i64 y.n, .slice none 0 0, .slice a3 y.ks.length c3] rfl rfl hY.out (by simp [Value.oneCell']) (by unfold maxLen; omega) (by omega) HPd.out.le ?_
                          intro v' w9 hown' hgrow hfresh
                          obtain ⟨va, vc, rfl⟩ := own_form hown'
                          have hM := HPd.out.mid hgrow
                          have HZ := hid (HPd.out.app4 HLS.out HTy.out hown' hgrow hfresh)
                          have HG := hid hgrow
                          have HP9 := HPd
                          clear hown' hfresh
                          refine hK.out _ _ (⟨hM.2 hS.1 (by omega), HPd.out.bg hgrow (by omega) hS.2⟩) (fun hSn => ?_)
                          clear hK K hS
                          have hS := hSn
                          clear hSn
                          try simp only [Act.put, List.setIfInBounds_toArray, List.set_cons_zero, List.set_cons_succ, List.getElem_toArray, List.getElem_cons_succ, List.getElem_cons_zero]
                          have m0 := hM.1.cell 3
                          have m1 := hM.1.frozen 3
                          simp only [List.getElem?_cons_succ, List.getElem?_cons_zero] at m0
                          clear hgrow
                          refine wpAnyH_take (i := 11) (v := ?_) rfl (by kernel_rfl) (by kernel_rfl) (by kernel_rfl) (fun _ _ _ h => h) (Or.inl ⟨by rfl, ?_⟩) hS ?_
                          rotate_left
                          · intro wz hz; go_simp; try with_reducible rfl
                          try simp only [Act.put, List.setIfInBounds_toArray, List.set_cons_zero, List.set_cons_succ, List.getElem_toArray, List.getElem_cons_succ, List.getElem_cons_zero]
                          refine wpAnyH_ready (rs := [12]) (by kernel_rfl) (by simp) (AllReadyH.cons rfl (fun K hK => ?a12_12) AllReadyH.nil)
                          case' a12_12 =>
                            go_simp
                            refine hK.out _ _ (⟨hS.1.other (p := ⟨w.heap.size + 2, 3, none⟩) (by show w.heap.size ≠ w.heap.size + 2; omega) _, hS.2.setCell (p := ⟨w.heap.size + 2, 3, none⟩) (by show w.heap.size ≤ w.heap.size + 2; omega) _⟩) (fun hSn => ?_)
                            clear hK K hS
                            have hS := hSn
                            clear hSn
                            try simp only [Act.put, List.setIfInBounds_toArray, List.set_cons_zero, List.set_cons_succ, List.getElem_toArray, List.getElem_cons_succ, List.getElem_cons_zero]
                            refine wpAnyH_done (by kernel_rfl) ?_ _
                  all_goals (
                    clear m0 m1 hM
                    try clear o2
                    try clear o3
                    try clear o4
                    have HR9 := hid (HP9.out.other (v' := .slice va (ys.length + 1) vc) HG.out HRb.out (by omega) (by omega))
                    have HS9 := hid hS
                    clear hS
                    go_wp2
                    go_roundw
                    case rel => exact ⟨ys.length + 1, _, _, _, by go_num, by omega, by rw [HTK.out]; exact HZ, ⟨HS9.out.1, HR9.out, HS9.out.2⟩⟩
                    case measure => simp [intOf]; omega)
                · obtain rfl : j = t.ks.length := by omega
                  rw [List.take_length] at hP
                  obtain ⟨m, hmm⟩ : ∃ m, (t.ks.map (Tp.made k)).length = m := ⟨_, rfl⟩
                  obtain ⟨oa, oc, rfl⟩ : ∃ oa oc, ov = .slice oa m oc := by have := own_form hP.out.own; rw [hmm] at this; exact this
                  have o3 := hP.out.ob.cell
                  have r3 := hA.out.2.1.cell
                  have f3 := hA.out.2.1.frozen
                  have hne : ¬ w.heap.size + 2 = w.heap.size + 1 := by omega
                  clear ih HL HC HR8
                  go_wp2
                  refine bodyPost_ret (v := .agg #[.int .i64 5, .int .i64 0, .slice none 0 0, .slice oa m oc]) (by rw [results_cell1 (fn := Try.f25) (p := 4) (ty := 30) (by kernel_rfl)]; simp [go_sem, r3, f3]) rfl ?_
                  show TmAns _ _ _ _
                  rw [HE.out]
                  have hK : ∀ (W : World) i u, Tgt.Keeps (fun b => w.heap.size + 3 ≤ b) W (W.setCell ⟨w.heap.size + 1, i, none⟩ u) := fun W i u b o v hb hv => by have hb : w.heap.size + 3 ≤ b := hb; rw [World.cell?_of_block (w := W) (Below.heap_setCell _ _ _ _ (by show b ≠ w.heap.size + 1; omega))]; exact hv
                  have hs : ∀ (W : World) i u, Below w.heap.size w W → Below w.heap.size w (W.setCell ⟨w.heap.size + 1, i, none⟩ u) := fun W i u h => bl_set _ _ h (by show _ ≤ w.heap.size + 1; omega)
                  refine ⟨oa, oc, N + 1, ?_, ?_, rfl, hs _ _ _ (hs _ _ _ (hs _ _ _ (hs _ _ _ hA.out.2.2)))⟩
                  · show _ = Ending.returned (.agg #[.int .i64 5, .int .i64 0, .slice none 0 0, .slice oa (t.ks.map (Tp.made k)).length oc])
                    rw [hmm]
                  · show Tgt.TAt _ _ _ [.int .i64 5, .int .i64 0, .slice none 0 0, .slice oa (t.ks.map (Tp.made k)).length oc] _
                    rw [hmm]
                    exact (hP.out.fin (((hK _ _ _).trans (hK _ _ _)).trans ((hK _ _ _).trans (hK _ _ _))) (⟨by omega, by omega⟩ : Tgt.R64 5) (⟨by omega, by omega⟩ : Tgt.R64 0) (by rw [hmm, ← hmm, List.length_map]; have := HKL.out; omega)).move (Tgt.Keeps.refl _ _) (fun b hb => by have hb : w.heap.size + 3 ≤ b := hb; show w.heap.size ≤ b; omega)
            · have g5 : (t.k == 5) = false := by rw [beq_eq_false_iff_ne]; exact h5
              have HE : Hid (Tp.made k t = .mk 4 0 [] (t.ks.map (Tp.made k))) := by show _ = _; rw [HM.out, if_neg h5]
              clear h5 HM
              have X : Hid (Kd (w.heap.size + 2) (w.heap.size + 3) 4 0 [] 0 (.slice none 0 0) [] (((w.alloc (.cells #[.int .i64 t.k, .int .i64 t.n, .slice a1 t.ks.length c1] 24)).alloc (.cells #[.int .i64 0, .int .i64 0, .slice none 0 0, .slice none 0 0] 30)).alloc (.cells #[.int .i64 4, .int .i64 0, .slice none 0 0, .slice none 0 0] 30))) := by
                have := Kd.start (w := ((w.alloc (.cells #[.int .i64 t.k, .int .i64 t.n, .slice a1 t.ks.length c1] 24)).alloc (.cells #[.int .i64 0, .int .i64 0, .slice none 0 0, .slice none 0 0] 30))) 4 0 rfl
                rw [size_alloc, size_alloc] at this
                exact this
              have XT : Hid (Arr (((w.alloc (.cells #[.int .i64 t.k, .int .i64 t.n, .slice a1 t.ks.length c1] 24)).alloc (.cells #[.int .i64 0, .int .i64 0, .slice none 0 0, .slice none 0 0] 30)).alloc (.cells #[.int .i64 4, .int .i64 0, .slice none 0 0, .slice none 0 0] 30)) w.heap.size 24 [.int .i64 t.k, .int .i64 t.n, .slice a1 t.ks.length c1]) := Arr.stays (w := w.alloc (.cells #[.int .i64 t.k, .int .i64 t.n, .slice a1 t.ks.length c1] 24)) ⟨heap_alloc_at _ _⟩ (bl_alloc (bl_alloc (Below.refl _ _) _) _)
              have XR : Hid (Arr (((w.alloc (.cells #[.int .i64 t.k, .int .i64 t.n, .slice a1 t.ks.length c1] 24)).alloc (.cells #[.int .i64 0, .int .i64 0, .slice none 0 0, .slice none 0 0] 30)).alloc (.cells #[.int .i64 4, .int .i64 0, .slice none 0 0, .slice none 0 0] 30)) (w.heap.size + 1) 30 [.int .i64 0, .int .i64 0, .slice none 0 0, .slice none 0 0]) := by
                have := heap_alloc_at (w.alloc (.cells #[.int .i64 t.k, .int .i64 t.n, .slice a1 t.ks.length c1] 24)) (.cells #[.int .i64 0, .int .i64 0, .slice none 0 0, .slice none 0 0] 30)
                rw [size_alloc] at this
                exact Arr.stays (w := ((w.alloc (.cells #[.int .i64 t.k, .int .i64 t.n, .slice a1 t.ks.length c1] 24)).alloc (.cells #[.int .i64 0, .int .i64 0, .slice none 0 0, .slice none 0 0] 30))) ⟨this⟩ (bl_alloc (Below.refl _ _) _)
              have XB : Hid (Below w.heap.size w (((w.alloc (.cells #[.int .i64 t.k, .int .i64 t.n, .slice a1 t.ks.length c1] 24)).alloc (.cells #[.int .i64 0, .int .i64 0, .slice none 0 0, .slice none 0 0] 30)).alloc (.cells #[.int .i64 4, .int .i64 0, .slice none 0 0, .slice none 0 0] 30))) := bl_alloc (bl_alloc (bl_alloc (Below.refl _ _) _) _) _
              obtain ⟨i0, hi0, hz0, hz1, hz2⟩ := info_parts0 info_tt
              go_enter Try.func25, Try.ntmps25
              go_wp2
              generalize (((w.alloc (.cells #[.int .i64 t.k, .int .i64 t.n, .slice a1 t.ks.length c1] 24)).alloc (.cells #[.int .i64 0, .int .i64 0, .slice none 0 0, .slice none 0 0] 30)).alloc (.cells #[.int .i64 4, .int .i64 0, .slice none 0 0, .slice none 0 0] 30)) = W1 at X XT XR XB ⊢
              go_loopw [6] (fun v wr => ∃ (j N : Nat) (ov : Value) (xs : List Value), v = .int .i64 j ∧ j ≤ t.ks.length ∧ Hid (Kd (w.heap.size + 2) (w.heap.size + 3) 4 0 ((t.ks.take j).map (Tp.made k)) N ov xs wr) ∧ Hid (Arr wr w.heap.size 24 [.int .i64 t.k, .int .i64 t.n, .slice a1 t.ks.length c1] ∧ Arr wr (w.heap.size + 1) 30 [.int .i64 0, .int .i64 0, .slice none 0 0, .slice none 0 0] ∧ Below w.heap.size w wr)) (fun v _ => t.ks.length - (intOf v).toNat)
              case atStart => exact ⟨0, 0, _, _, rfl, Nat.zero_le _, by simpa using X, ⟨XT.out, XR.out, XB.out⟩⟩
              case round =>
                obtain ⟨j, N, ov, xs, rfl, hjl, hP, hA⟩ := hrel
                clear X XT XR XB W1
                have b0 := hA.out.1.cell
                by_cases hlt : j < t.ks.length
                · obtain ⟨x, hxj⟩ : ∃ x, t.ks[j]? = some x := ⟨_, List.getElem?_eq_getElem hlt⟩
                  obtain ⟨kb, ko, rfl⟩ : ∃ b o, a1 = some ⟨b, o, none⟩ := by
                    rcases HL.out with ⟨b, o, c, hv, -⟩ | ⟨h0, -⟩
                    · injection hv with e1 e2 e3; exact ⟨b, o, e1⟩
                    · rw [h0] at hlt; exact absurd hlt (Nat.not_lt_zero _)
                  obtain ⟨vx, tx, u0, u1, u2, -, hkb⟩ := HL.out.elem hxj
                  obtain ⟨ax, cx, ex⟩ := tx.form
                  simp only [List.cons.injEq, and_true, true_and] at ex
                  subst ex
                  have hmem := List.mem_of_getElem? hxj
                  have HQ : Hid (∀ wz, Below w.heap.size w wz → Calls Try.prog 25 #[.agg #[.int .i64 x.k, .int .i64 x.n, .slice ax x.ks.length cx], .int .i64 k] wz (TmAns wz (Tp.made k x))) := fun wz hz => ih wz _ x k (tx.below hz) (HC.out x hmem) (fun z hz => HR8.out z (Tp.all_kst hmem hz))
                  obtain ⟨y, hy⟩ : ∃ y, Tp.made k x = y := ⟨_, rfl⟩
                  rw [hy] at HQ
                  have HTK : Hid ((t.ks.take (j + 1)).map (Tp.made k) = (t.ks.take j).map (Tp.made k) ++ [y]) := by show _ = _; rw [List.take_add_one, hxj, List.map_append, ← hy]; rfl
                  have hlen : ((t.ks.take j).map (Tp.made k)).length = j := by rw [List.length_map, List.length_take]; omega
                  have hjb : j + 1 ≤ 1048577 := by have := HKL.out; omega
                  obtain ⟨oa, oc, rfl⟩ : ∃ oa oc, ov = .slice oa j oc := by have := own_form hP.out.own; rw [hlen] at this; exact this
                  generalize (t.ks.take j).map (Tp.made k) = ys at hP HTK hlen
                  subst hlen
                  have HPd := hid (hP.out.stays (Below.refl _ _).drew)
                  have HU : Hid (∀ wz, Below w.heap.size w wz → wz.cell? ⟨kb, ko + ys.length * 3, none⟩ = some (.int .i64 x.k) ∧ wz.cell? ⟨kb, ko + ys.length * 3 + 1, none⟩ = some (.int .i64 x.n) ∧ wz.cell? ⟨kb, ko + ys.length * 3 + 2, none⟩ = some (.slice ax x.ks.length cx)) := fun wz hz => ⟨(hz.cell (p := ⟨kb, ko + ys.length * 3, none⟩) hkb).trans u0, (hz.cell (p := ⟨kb, ko + ys.length * 3 + 1, none⟩) hkb).trans u1, (hz.cell (p := ⟨kb, ko + ys.length * 3 + 2, none⟩) hkb).trans u2⟩
                  have hs0 : Hid (Arr wr.drew w.heap.size 24 [.int .i64 t.k, .int .i64 t.n, .slice (some ⟨kb, ko, none⟩) t.ks.length c1] ∧ Below w.heap.size w wr.drew) := ⟨hA.out.1.stays (Below.refl _ _).drew, hA.out.2.2.drew⟩
                  have HRb := hid (hA.out.2.1.stays (Below.refl _ _).drew)
                  have o2 := HPd.out.ob.cell 3
                  simp only [List.getElem?_cons_succ, List.getElem?_cons_zero] at o2
                  clear hxj hy tx ih HL HC HR8 hmem u0 u1 u2
                  go_wp2
                  refine wp_region_held_drew (S := fun wz => Arr wz w.heap.size 24 [.int .i64 t.k, .int .i64 t.n, .slice (some ⟨kb, ko, none⟩) t.ks.length c1] ∧ Below w.heap.size w wz) (by kernel_rfl) (hs0.out) (fun hS => ?_)
                  generalize wr.drew = wd at hS HPd o2 HRb ⊢
                  refine wpAnyH_take (i := 0) (v := ?_) rfl (by kernel_rfl) (by kernel_rfl) (by kernel_rfl) (fun _ _ _ h => h) (Or.inl ⟨by rfl, ?_⟩) hS ?_
                  rotate_left
                  · intro wz hz; go_simp; try with_reducible rfl
                  try simp only [Act.put, List.setIfInBounds_toArray, List.set_cons_zero, List.set_cons_succ, List.getElem_toArray, List.getElem_cons_succ, List.getElem_cons_zero]
                  refine wpAnyH_take (i := 2) (v := ?_) rfl (by kernel_rfl) (by kernel_rfl) (by kernel_rfl) (fun _ _ _ h => h) (Or.inl ⟨by rfl, ?_⟩) hS ?_
                  rotate_left
                  · intro wz hz; go_simp; try with_reducible rfl
                  try simp only [Act.put, List.setIfInBounds_toArray, List.set_cons_zero, List.set_cons_succ, List.getElem_toArray, List.getElem_cons_succ, List.getElem_cons_zero]
                  refine wpAnyH_take (i := 3) (v := ?_) rfl (by kernel_rfl) (by kernel_rfl) (by kernel_rfl) (fun _ _ _ h => h) (Or.inl ⟨by rfl, ?_⟩) hS ?_
                  rotate_left
                  · intro wz hz; have yy0 := hz.1.cell; obtain ⟨yy2, yy3, yy4⟩ := HU.out wz hz.2; go_simp; try with_reducible rfl
                  try simp only [Act.put, List.setIfInBounds_toArray, List.set_cons_zero, List.set_cons_succ, List.getElem_toArray, List.getElem_cons_succ, List.getElem_cons_zero]
                  refine wpAnyH_take (i := 4) (v := ?_) rfl (by kernel_rfl) (by kernel_rfl) (by kernel_rfl) (fun _ _ _ h => h) (Or.inl ⟨by rfl, ?_⟩) hS ?_
                  rotate_left
                  · intro wz hz; go_simp; try with_reducible rfl
                  try simp only [Act.put, List.setIfInBounds_toArray, List.set_cons_zero, List.set_cons_succ, List.getElem_toArray, List.getElem_cons_succ, List.getElem_cons_zero]
                  refine wpAnyH_take (i := 5) (v := ?_) rfl (by kernel_rfl) (by kernel_rfl) (by kernel_rfl) (fun _ _ _ h => h) (Or.inl ⟨by rfl, ?_⟩) hS ?_
                  rotate_left
                  · intro wz hz; go_simp; try with_reducible rfl
                  try simp only [Act.put, List.setIfInBounds_toArray, List.set_cons_zero, List.set_cons_succ, List.getElem_toArray, List.getElem_cons_succ, List.getElem_cons_zero]
                  refine wpAnyH_take (i := 6) (v := ?_) rfl (by kernel_rfl) (by kernel_rfl) (by kernel_rfl) (fun _ _ _ h => h) (Or.inl ⟨by rfl, ?_⟩) hS ?_
                  rotate_left
                  · intro wz hz; have yy0 := hz.1.cell; obtain ⟨yy2, yy3, yy4⟩ := HU.out wz hz.2; go_simp; try with_reducible rfl
                  try simp only [Act.put, List.setIfInBounds_toArray, List.set_cons_zero, List.set_cons_succ, List.getElem_toArray, List.getElem_cons_succ, List.getElem_cons_zero]
                  refine wpAnyH_take (i := 7) (v := ?_) rfl (by kernel_rfl) (by kernel_rfl) (by kernel_rfl) (fun _ _ _ h => h) (Or.inl ⟨by rfl, ?_⟩) hS ?_
                  rotate_left
                  · intro wz hz; go_simp; try with_reducible rfl
                  try simp only [Act.put, List.setIfInBounds_toArray, List.set_cons_zero, List.set_cons_succ, List.getElem_toArray, List.getElem_cons_succ, List.getElem_cons_zero]
                  refine wpAnyH_ready (rs := [1, 8]) (by kernel_rfl) (by simp) (AllReadyH.cons rfl (fun K hK => ?a13_1) (AllReadyH.cons rfl (fun K hK => ?a13_8) AllReadyH.nil))
                  case' a13_1 =>
                    go_simp
                    refine hK.out _ _ (hS) (fun hSn => ?_)
                    clear hK K hS
                    have hS := hSn
                    clear hSn
                    try simp only [Act.put, List.setIfInBounds_toArray, List.set_cons_zero, List.set_cons_succ, List.getElem_toArray, List.getElem_cons_succ, List.getElem_cons_zero]
                    refine wpAnyH_ready (rs := [8]) (by kernel_rfl) (by simp) (AllReadyH.cons rfl (fun K hK => ?a14_8) AllReadyH.nil)
                    case' a14_8 =>
                      go_simp
                      refine (HQ.out _ hS.2).mono ?_
                      rintro e w3 ⟨a3, c3, N3, rfl, hT3, hls3, b3⟩
                      have HTy := hid (HPd.out.kp hT3)
                      have HLS := hid hls3
                      have HPd := hid (HPd.out.stays b3)
                      have HRb := hid (HRb.out.stays b3)
                      have o3 := HPd.out.ob.cell 3
                      simp only [List.getElem?_cons_succ, List.getElem?_cons_zero] at o3
                      clear hT3 hls3
                      refine hK.out _ _ (⟨hS.1.stays b3, bl_tr hS.2 b3⟩) (fun hSn => ?_)
                      clear hK K hS
                      have hS := hSn
                      clear hSn
                      try simp only [Act.put, List.setIfInBounds_toArray, List.set_cons_zero, List.set_cons_succ, List.getElem_toArray, List.getElem_cons_succ, List.getElem_cons_zero]
                      clear b3
                      refine wpAnyH_ready (rs := [9]) (by kernel_rfl) (by simp) (AllReadyH.cons rfl (fun K hK => ?a15_9) AllReadyH.nil)
                      case' a15_9 =>
                        go_simp
                        have b4 := bl_alloc (Below.refl w3.heap.size w3) (.cells #[.int .i64 y.k, .int .i64 y.n, .slice none 0 0, .slice a3 y.ks.length c3] 30)
                        have HPd := hid (HPd.out.stays b4)
                        have HRb := hid (HRb.out.stays b4)
                        have HTy := hid (HTy.out.below b4)
                        have o4 := HPd.out.ob.cell 3
                        simp only [List.getElem?_cons_succ, List.getElem?_cons_zero] at o4
                        have hY : Hid (∀ (i : Nat) u, [.int .i64 y.k, .int .i64 y.n, .slice none 0 0, .slice a3 y.ks.length c3][i]? = some u → (w3.alloc (.cells #[.int .i64 y.k, .int .i64 y.n, .slice none 0 0, .slice a3 y.ks.length c3] 30)).cell? ((⟨w3.heap.size, 0, none⟩ : Addr).add i) = some u) := fun i u hu => by rw [addr_add14, cell_at (heap_alloc_at _ _)]; simpa using hu
                        refine hK.out _ _ (⟨hS.1.stays b4, bl_tr hS.2 b4⟩) (fun hSn => ?_)
                        clear hK K hS
                        have hS := hSn
                        clear hSn
                        try simp only [Act.put, List.setIfInBounds_toArray, List.set_cons_zero, List.set_cons_succ, List.getElem_toArray, List.getElem_cons_succ, List.getElem_cons_zero]
                        clear b4
                        refine wpAnyH_ready (rs := [10]) (by kernel_rfl) (by simp) (AllReadyH.cons rfl (fun K hK => ?a16_10) AllReadyH.nil)
                        case' a16_10 =>
                          refine step_append2 rfl _ _ 28 rfl (w.heap.size + 3) 30 i0 (.agg #[.int .i64 0, .int .i64 0, .slice none 0 0, .slice none 0 0]) 4 64 Try.underlying28 hi0 hz0 hz1 hz2 rfl (by decide) _ ys.length xs rfl HPd.out.own ⟨w3.heap.size, 0, none⟩ 1 1 [.int .i64 y.k, .int .i64 y.n, .slice none 0 0, .slice a3 y.ks.length c3] rfl rfl hY.out (by simp [Value.oneCell']) (by unfold maxLen; omega) (by omega) HPd.out.le ?_
                          intro v' w9 hown' hgrow hfresh
                          obtain ⟨va, vc, rfl⟩ := own_form hown'
                          have hM := HPd.out.mid hgrow
                          have HZ := hid (HPd.out.app4 HLS.out HTy.out hown' hgrow hfresh)
                          have HG := hid hgrow
                          have HP9 := HPd
                          clear hown' hfresh
                          refine hK.out _ _ (⟨hM.2 hS.1 (by omega), HPd.out.bg hgrow (by omega) hS.2⟩) (fun hSn => ?_)
                          clear hK K hS
                          have hS := hSn
                          clear hSn
                          try simp only [Act.put, List.setIfInBounds_toArray, List.set_cons_zero, List.set_cons_succ, List.getElem_toArray, List.getElem_cons_succ, List.getElem_cons_zero]
                          have m0 := hM.1.cell 3
                          have m1 := hM.1.frozen 3
                          simp only [List.getElem?_cons_succ, List.getElem?_cons_zero] at m0
                          clear hgrow
                          refine wpAnyH_take (i := 11) (v := ?_) rfl (by kernel_rfl) (by kernel_rfl) (by kernel_rfl) (fun _ _ _ h => h) (Or.inl ⟨by rfl, ?_⟩) hS ?_
                          rotate_left
                          · intro wz hz; go_simp; try with_reducible rfl
                          try simp only [Act.put, List.setIfInBounds_toArray, List.set_cons_zero, List.set_cons_succ, List.getElem_toArray, List.getElem_cons_succ, List.getElem_cons_zero]
                          refine wpAnyH_ready (rs := [12]) (by kernel_rfl) (by simp) (AllReadyH.cons rfl (fun K hK => ?a17_12) AllReadyH.nil)
                          case' a17_12 =>
                            go_simp
                            refine hK.out _ _ (⟨hS.1.other (p := ⟨w.heap.size + 2, 3, none⟩) (by show w.heap.size ≠ w.heap.size + 2; omega) _, hS.2.setCell (p := ⟨w.heap.size + 2, 3, none⟩) (by show w.heap.size ≤ w.heap.size + 2; omega) _⟩) (fun hSn => ?_)
                            clear hK K hS
                            have hS := hSn
                            clear hSn
                            try simp only [Act.put, List.setIfInBounds_toArray, List.set_cons_zero, List.set_cons_succ, List.getElem_toArray, List.getElem_cons_succ, List.getElem_cons_zero]
                            refine wpAnyH_done (by kernel_rfl) ?_ _
                  case' a13_8 =>
                    go_simp
                    refine (HQ.out _ hS.2).mono ?_
                    rintro e w3 ⟨a3, c3, N3, rfl, hT3, hls3, b3⟩
                    have HTy := hid (HPd.out.kp hT3)
                    have HLS := hid hls3
                    have HPd := hid (HPd.out.stays b3)
                    have HRb := hid (HRb.out.stays b3)
                    have o3 := HPd.out.ob.cell 3
                    simp only [List.getElem?_cons_succ, List.getElem?_cons_zero] at o3
                    clear hT3 hls3
                    refine hK.out _ _ (⟨hS.1.stays b3, bl_tr hS.2 b3⟩) (fun hSn => ?_)
                    clear hK K hS
                    have hS := hSn
                    clear hSn
                    try simp only [Act.put, List.setIfInBounds_toArray, List.set_cons_zero, List.set_cons_succ, List.getElem_toArray, List.getElem_cons_succ, List.getElem_cons_zero]
                    clear b3
                    refine wpAnyH_ready (rs := [1, 9]) (by kernel_rfl) (by simp) (AllReadyH.cons rfl (fun K hK => ?a18_1) (AllReadyH.cons rfl (fun K hK => ?a18_9) AllReadyH.nil))
                    case' a18_1 =>
                      go_simp
                      refine hK.out _ _ (hS) (fun hSn => ?_)
                      clear hK K hS
                      have hS := hSn
                      clear hSn
                      try simp only [Act.put, List.setIfInBounds_toArray, List.set_cons_zero, List.set_cons_succ, List.getElem_toArray, List.getElem_cons_succ, List.getElem_cons_zero]
                      refine wpAnyH_ready (rs := [9]) (by kernel_rfl) (by simp) (AllReadyH.cons rfl (fun K hK => ?a19_9) AllReadyH.nil)
                      case' a19_9 =>
                        go_simp
                        have b4 := bl_alloc (Below.refl w3.heap.size w3) (.cells #[.int .i64 y.k, .int .i64 y.n, .slice none 0 0, .slice a3 y.ks.length c3] 30)
                        have HPd := hid (HPd.out.stays b4)
                        have HRb := hid (HRb.out.stays b4)
                        have HTy := hid (HTy.out.below b4)
                        have o4 := HPd.out.ob.cell 3
                        simp only [List.getElem?_cons_succ, List.getElem?_cons_zero] at o4
                        have hY : Hid (∀ (i : Nat) u, [.int .i64 y.k, .int .i64 y.n, .slice none 0 0, .slice a3 y.ks.length c3][i]? = some u → (w3.alloc (.cells #[.int .i64 y.k, .int .i64 y.n, .slice none 0 0, .slice a3 y.ks.length c3] 30)).cell? ((⟨w3.heap.size, 0, none⟩ : Addr).add i) = some u) := fun i u hu => by rw [addr_add14, cell_at (heap_alloc_at _ _)]; simpa using hu
                        refine hK.out _ _ (⟨hS.1.stays b4, bl_tr hS.2 b4⟩) (fun hSn => ?_)
                        clear hK K hS
                        have hS := hSn
                        clear hSn
                        try simp only [Act.put, List.setIfInBounds_toArray, List.set_cons_zero, List.set_cons_succ, List.getElem_toArray, List.getElem_cons_succ, List.getElem_cons_zero]
                        clear b4
                        refine wpAnyH_ready (rs := [10]) (by kernel_rfl) (by simp) (AllReadyH.cons rfl (fun K hK => ?a20_10) AllReadyH.nil)
                        case' a20_10 =>
                          refine step_append2 rfl _ _ 28 rfl (w.heap.size + 3) 30 i0 (.agg #[.int .i64 0, .int .i64 0, .slice none 0 0, .slice none 0 0]) 4 64 Try.underlying28 hi0 hz0 hz1 hz2 rfl (by decide) _ ys.length xs rfl HPd.out.own ⟨w3.heap.size, 0, none⟩ 1 1 [.int .i64 y.k, .int .i64 y.n, .slice none 0 0, .slice a3 y.ks.length c3] rfl rfl hY.out (by simp [Value.oneCell']) (by unfold maxLen; omega) (by omega) HPd.out.le ?_
                          intro v' w9 hown' hgrow hfresh
                          obtain ⟨va, vc, rfl⟩ := own_form hown'
                          have hM := HPd.out.mid hgrow
                          have HZ := hid (HPd.out.app4 HLS.out HTy.out hown' hgrow hfresh)
                          have HG := hid hgrow
                          have HP9 := HPd
                          clear hown' hfresh
                          refine hK.out _ _ (⟨hM.2 hS.1 (by omega), HPd.out.bg hgrow (by omega) hS.2⟩) (fun hSn => ?_)
                          clear hK K hS
                          have hS := hSn
                          clear hSn
                          try simp only [Act.put, List.setIfInBounds_toArray, List.set_cons_zero, List.set_cons_succ, List.getElem_toArray, List.getElem_cons_succ, List.getElem_cons_zero]
                          have m0 := hM.1.cell 3
                          have m1 := hM.1.frozen 3
                          simp only [List.getElem?_cons_succ, List.getElem?_cons_zero] at m0
                          clear hgrow
                          refine wpAnyH_take (i := 11) (v := ?_) rfl (by kernel_rfl) (by kernel_rfl) (by kernel_rfl) (fun _ _ _ h => h) (Or.inl ⟨by rfl, ?_⟩) hS ?_
                          rotate_left
                          · intro wz hz; go_simp; try with_reducible rfl
                          try simp only [Act.put, List.setIfInBounds_toArray, List.set_cons_zero, List.set_cons_succ, List.getElem_toArray, List.getElem_cons_succ, List.getElem_cons_zero]
                          refine wpAnyH_ready (rs := [12]) (by kernel_rfl) (by simp) (AllReadyH.cons rfl (fun K hK => ?a21_12) AllReadyH.nil)
                          case' a21_12 =>
                            go_simp
                            refine hK.out _ _ (⟨hS.1.other (p := ⟨w.heap.size + 2, 3, none⟩) (by show w.heap.size ≠ w.heap.size + 2; omega) _, hS.2.setCell (p := ⟨w.heap.size + 2, 3, none⟩) (by show w.heap.size ≤ w.heap.size + 2; omega) _⟩) (fun hSn => ?_)
                            clear hK K hS
                            have hS := hSn
                            clear hSn
                            try simp only [Act.put, List.setIfInBounds_toArray, List.set_cons_zero, List.set_cons_succ, List.getElem_toArray, List.getElem_cons_succ, List.getElem_cons_zero]
                            refine wpAnyH_done (by kernel_rfl) ?_ _
                    case' a18_9 =>
                      go_simp
                      have b4 := bl_alloc (Below.refl w3.heap.size w3) (.cells #[.int .i64 y.k, .int .i64 y.n, .slice none 0 0, .slice a3 y.ks.length c3] 30)
                      have HPd := hid (HPd.out.stays b4)
                      have HRb := hid (HRb.out.stays b4)
                      have HTy := hid (HTy.out.below b4)
                      have o4 := HPd.out.ob.cell 3
                      simp only [List.getElem?_cons_succ, List.getElem?_cons_zero] at o4
                      have hY : Hid (∀ (i : Nat) u, [.int .i64 y.k, .int .i64 y.n, .slice none 0 0, .slice a3 y.ks.length c3][i]? = some u → (w3.alloc (.cells #[.int .i64 y.k, .int .i64 y.n, .slice none 0 0, .slice a3 y.ks.length c3] 30)).cell? ((⟨w3.heap.size, 0, none⟩ : Addr).add i) = some u) := fun i u hu => by rw [addr_add14, cell_at (heap_alloc_at _ _)]; simpa using hu
                      refine hK.out _ _ (⟨hS.1.stays b4, bl_tr hS.2 b4⟩) (fun hSn => ?_)
                      clear hK K hS
                      have hS := hSn
                      clear hSn
                      try simp only [Act.put, List.setIfInBounds_toArray, List.set_cons_zero, List.set_cons_succ, List.getElem_toArray, List.getElem_cons_succ, List.getElem_cons_zero]
                      clear b4
                      refine wpAnyH_ready (rs := [1]) (by kernel_rfl) (by simp) (AllReadyH.cons rfl (fun K hK => ?a22_1) AllReadyH.nil)
                      case' a22_1 =>
                        go_simp
                        refine hK.out _ _ (hS) (fun hSn => ?_)
                        clear hK K hS
                        have hS := hSn
                        clear hSn
                        try simp only [Act.put, List.setIfInBounds_toArray, List.set_cons_zero, List.set_cons_succ, List.getElem_toArray, List.getElem_cons_succ, List.getElem_cons_zero]
                        refine wpAnyH_ready (rs := [10]) (by kernel_rfl) (by simp) (AllReadyH.cons rfl (fun K hK => ?a23_10) AllReadyH.nil)
                        case' a23_10 =>
                          refine step_append2 rfl _ _ 28 rfl (w.heap.size + 3) 30 i0 (.agg #[.int .i64 0, .int .i64 0, .slice none 0 0, .slice none 0 0]) 4 64 Try.underlying28 hi0 hz0 hz1 hz2 rfl (by decide) _ ys.length xs rfl HPd.out.own ⟨w3.heap.size, 0, none⟩ 1 1 [.int .i64 y.k, .int .i64 y.n, .slice none 0 0, .slice a3 y.ks.length c3] rfl rfl hY.out (by simp [Value.oneCell']) (by unfold maxLen; omega) (by omega) HPd.out.le ?_
                          intro v' w9 hown' hgrow hfresh
                          obtain ⟨va, vc, rfl⟩ := own_form hown'
                          have hM := HPd.out.mid hgrow
                          have HZ := hid (HPd.out.app4 HLS.out HTy.out hown' hgrow hfresh)
                          have HG := hid hgrow
                          have HP9 := HPd
                          clear hown' hfresh
                          refine hK.out _ _ (⟨hM.2 hS.1 (by omega), HPd.out.bg hgrow (by omega) hS.2⟩) (fun hSn => ?_)
                          clear hK K hS
                          have hS := hSn
                          clear hSn
                          try simp only [Act.put, List.setIfInBounds_toArray, List.set_cons_zero, List.set_cons_succ, List.getElem_toArray, List.getElem_cons_succ, List.getElem_cons_zero]
                          have m0 := hM.1.cell 3
                          have m1 := hM.1.frozen 3
                          simp only [List.getElem?_cons_succ, List.getElem?_cons_zero] at m0
                          clear hgrow
                          refine wpAnyH_take (i := 11) (v := ?_) rfl (by kernel_rfl) (by kernel_rfl) (by kernel_rfl) (fun _ _ _ h => h) (Or.inl ⟨by rfl, ?_⟩) hS ?_
                          rotate_left
                          · intro wz hz; go_simp; try with_reducible rfl
                          try simp only [Act.put, List.setIfInBounds_toArray, List.set_cons_zero, List.set_cons_succ, List.getElem_toArray, List.getElem_cons_succ, List.getElem_cons_zero]
                          refine wpAnyH_ready (rs := [12]) (by kernel_rfl) (by simp) (AllReadyH.cons rfl (fun K hK => ?a24_12) AllReadyH.nil)
                          case' a24_12 =>
                            go_simp
                            refine hK.out _ _ (⟨hS.1.other (p := ⟨w.heap.size + 2, 3, none⟩) (by show w.heap.size ≠ w.heap.size + 2; omega) _, hS.2.setCell (p := ⟨w.heap.size + 2, 3, none⟩) (by show w.heap.size ≤ w.heap.size + 2; omega) _⟩) (fun hSn => ?_)
                            clear hK K hS
                            have hS := hSn
                            clear hSn
                            try simp only [Act.put, List.setIfInBounds_toArray, List.set_cons_zero, List.set_cons_succ, List.getElem_toArray, List.getElem_cons_succ, List.getElem_cons_zero]
                            refine wpAnyH_done (by kernel_rfl) ?_ _
                  all_goals (
                    clear m0 m1 hM
                    try clear o2
                    try clear o3
                    try clear o4
                    have HR9 := hid (HP9.out.other (v' := .slice va (ys.length + 1) vc) HG.out HRb.out (by omega) (by omega))
                    have HS9 := hid hS
                    clear hS
                    go_wp2
                    go_roundw
                    case rel => exact ⟨ys.length + 1, _, _, _, by go_num, by omega, by rw [HTK.out]; exact HZ, ⟨HS9.out.1, HR9.out, HS9.out.2⟩⟩
                    case measure => simp [intOf]; omega)
                · obtain rfl : j = t.ks.length := by omega
                  rw [List.take_length] at hP
                  obtain ⟨m, hmm⟩ : ∃ m, (t.ks.map (Tp.made k)).length = m := ⟨_, rfl⟩
                  obtain ⟨oa, oc, rfl⟩ : ∃ oa oc, ov = .slice oa m oc := by have := own_form hP.out.own; rw [hmm] at this; exact this
                  have o3 := hP.out.ob.cell
                  have r3 := hA.out.2.1.cell
                  have f3 := hA.out.2.1.frozen
                  have hne : ¬ w.heap.size + 2 = w.heap.size + 1 := by omega
                  clear ih HL HC HR8
                  go_wp2
                  refine bodyPost_ret (v := .agg #[.int .i64 4, .int .i64 0, .slice none 0 0, .slice oa m oc]) (by rw [results_cell1 (fn := Try.f25) (p := 4) (ty := 30) (by kernel_rfl)]; simp [go_sem, r3, f3]) rfl ?_
                  show TmAns _ _ _ _
                  rw [HE.out]
                  have hK : ∀ (W : World) i u, Tgt.Keeps (fun b => w.heap.size + 3 ≤ b) W (W.setCell ⟨w.heap.size + 1, i, none⟩ u) := fun W i u b o v hb hv => by have hb : w.heap.size + 3 ≤ b := hb; rw [World.cell?_of_block (w := W) (Below.heap_setCell _ _ _ _ (by show b ≠ w.heap.size + 1; omega))]; exact hv
                  have hs : ∀ (W : World) i u, Below w.heap.size w W → Below w.heap.size w (W.setCell ⟨w.heap.size + 1, i, none⟩ u) := fun W i u h => bl_set _ _ h (by show _ ≤ w.heap.size + 1; omega)
                  refine ⟨oa, oc, N + 1, ?_, ?_, rfl, hs _ _ _ (hs _ _ _ (hs _ _ _ (hs _ _ _ hA.out.2.2)))⟩
                  · show _ = Ending.returned (.agg #[.int .i64 4, .int .i64 0, .slice none 0 0, .slice oa (t.ks.map (Tp.made k)).length oc])
                    rw [hmm]
                  · show Tgt.TAt _ _ _ [.int .i64 4, .int .i64 0, .slice none 0 0, .slice oa (t.ks.map (Tp.made k)).length oc] _
                    rw [hmm]
                    exact (hP.out.fin (((hK _ _ _).trans (hK _ _ _)).trans ((hK _ _ _).trans (hK _ _ _))) (⟨by omega, by omega⟩ : Tgt.R64 4) (⟨by omega, by omega⟩ : Tgt.R64 0) (by rw [hmm, ← hmm, List.length_map]; have := HKL.out; omega)).move (Tgt.Keeps.refl _ _) (fun b hb => by have hb : w.heap.size + 3 ≤ b := hb; show w.heap.size ≤ b; omega)
theorem made_any : ∀ n, TmOf n
  | 0 => fun w vs t k h => h.elim
  | n + 1 => made_step n (made_any n)
end Go.Proofs.Ytigliglmejkakaa
