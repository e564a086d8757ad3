/- The program's turned. -/
import Derived.Test.YtigliglmejkakaaGreatRaj
namespace Go.Proofs.YtigliglmejkakaaGreat
open Go.RowKit
set_option linter.unusedVariables false
set_option linter.unusedSimpArgs false

theorem Tp.all_7t {x : Tp} (h : x.k = 7) : x.n ∈ Tp.all 7 x := by
  obtain ⟨k, n, ks⟩ := x
  have h : k = 7 := h
  rw [Tp.all, if_pos h]
  exact List.mem_append_left _ (List.mem_singleton.2 rfl)
theorem Tp.allL_mem2 {kd : Int} {z : Int} : ∀ {l : List Tp} {y : Tp}, y ∈ l → z ∈ Tp.all kd y → z ∈ Tp.allL kd l
  | [], y, h, _ => by cases h
  | v :: r, y, h, hz => by
    rw [Tp.allL]
    rcases List.mem_cons.1 h with rfl | h
    · exact List.mem_append_left _ hz
    · exact List.mem_append_right _ (Tp.allL_mem2 h hz)
theorem Tp.all_ks2 {kd : Int} {x y : Tp} {z : Int} (h : y ∈ x.ks) (hz : z ∈ Tp.all kd y) : z ∈ Tp.all kd x := by
  obtain ⟨k, n, ks⟩ := x
  rw [Tp.all]
  exact List.mem_append_right _ (Tp.allL_mem2 h hz)
/-- A right type that is no leaf and no TMeta has two Kids. -/
theorem Tp.right_two {t : Tp} (hr : t.right = true) (h1 : t.k ≠ 1) (h2 : t.k ≠ 2) (h3 : t.k ≠ 3) (h6 : t.k ≠ 6) (h8 : t.k ≠ 8) (h7 : t.k ≠ 7) : ∃ x y, t.ks = [x, y] ∧ x.right = true ∧ y.right = true ∧ (t.k = 4 ∨ t.k = 5) := by
  obtain ⟨k, n, ks⟩ := t
  simp only [Tp.k] at *
  rw [Tp.right, Bool.and_eq_true] at hr
  obtain ⟨ho, hl⟩ := hr
  unfold Tp.own at ho
  rw [if_neg (by rintro (h | h | h) <;> contradiction)] at ho
  split at ho
  · rename_i hk
    simp only [Bool.and_eq_true, decide_eq_true_eq] at ho
    match ks, ho.2, hl with
    | [x, y], _, hl =>
      simp only [Tp.rightL, Bool.and_eq_true] at hl
      exact ⟨x, y, rfl, hl.1, hl.2.1, hk⟩
  · rw [if_neg (by rintro (h | h | h) <;> contradiction)] at ho
    cases ho
def TvOf (n : Nat) : Prop := ∀ (w : World) (vs : List Value) (t : Tp) (k : Int), TAt w Any n vs t → t.right = true → (∀ x, x ∉ Tp.all 7 t) → (∀ x ∈ Tp.all 8 t, R64 (k + x)) → Calls Tryz.prog 22 #[.agg vs.toArray, .int .i64 k] w (TmAns w (Tp.made k t))

set_option maxHeartbeats 4000000 in
set_option maxRecDepth 100000 in
theorem turned_step (n : Nat) (ih : TvOf n) : TvOf (n + 1) := by
  intro w vs t k hT hr h7a hg
  obtain ⟨v, rfl, hk64, hn64, hL⟩ := hT.open_
  obtain ⟨a1, c1, rfl, hm⟩ := hL.form
  unfold maxLen at hm
  have HL : Hid (TAtL w Any n (.slice a1 t.ks.length c1) t.ks) := hL
  have HN64 : Hid (R64 t.n) := hn64
  have HR8 : Hid (∀ x ∈ Tp.all 8 t, R64 (k + x)) := hg
  have HB2 : Hid (Below w.heap.size w ((w.alloc (.cells #[.int .i64 t.k, .int .i64 t.n, .slice a1 t.ks.length c1] 24)).alloc (.cells #[.int .i64 0, .int .i64 0, .slice none 0 0, .slice none 0 0] 28))) := bl_alloc (bl_alloc (Below.refl _ _) _) _
  have Y2 : Hid (Arr ((w.alloc (.cells #[.int .i64 t.k, .int .i64 t.n, .slice a1 t.ks.length c1] 24)).alloc (.cells #[.int .i64 0, .int .i64 0, .slice none 0 0, .slice none 0 0] 28)) (w.heap.size + 1) 28 [.int .i64 0, .int .i64 0, .slice none 0 0, .slice none 0 0]) := ⟨by have := heap_alloc_at (w.alloc (.cells #[.int .i64 t.k, .int .i64 t.n, .slice a1 t.ks.length c1] 24)) (.cells #[.int .i64 0, .int .i64 0, .slice none 0 0, .slice none 0 0] 28); rw [size_alloc] at this; exact this⟩
  have X2 : Hid (Arr ((w.alloc (.cells #[.int .i64 t.k, .int .i64 t.n, .slice a1 t.ks.length c1] 24)).alloc (.cells #[.int .i64 0, .int .i64 0, .slice none 0 0, .slice none 0 0] 28)) w.heap.size 24 [.int .i64 t.k, .int .i64 t.n, .slice a1 t.ks.length c1]) := Arr.stays ⟨heap_alloc_at _ _⟩ (bl_alloc (Below.refl _ _) _)
  have HSS : Hid (∀ (W : World) i u, Below w.heap.size w W → Below w.heap.size w (W.setCell ⟨w.heap.size + 1, i, none⟩ u)) := fun W i u h => bl_set _ _ h (by show _ ≤ w.heap.size + 1; omega)
  have HZ2 : Hid (((w.alloc (.cells #[.int .i64 t.k, .int .i64 t.n, .slice a1 t.ks.length c1] 24)).alloc (.cells #[.int .i64 0, .int .i64 0, .slice none 0 0, .slice none 0 0] 28)).heap.size = w.heap.size + 2) := by show _ = _; rw [size_alloc, size_alloc]
  clear hT hL hk64 hn64 hg
  by_cases h1 : t.k = 1
  · have HE : Hid (Tp.made k t = .mk 1 (0) [] []) := by
      obtain ⟨kd, n0, ks⟩ := t
      simp only [Tp.k, Tp.n] at *
      show _ = _
      rw [Tp.made]
      simp [h1]
    have HN : Hid (Tgt.R64 (0)) := ⟨by omega, by omega⟩
    have eh1 : (t.k == 1) = true := by rw [beq_iff_eq]; exact h1
    clear HL ih HR8 hm hr h7a h1
    go_enter Tryz.func22, Tryz.ntmps22
    go_wp2_with (go_at_call 47; refine (leaf_any _ 1).mono ?_; rintro e w3 ⟨rfl, b3⟩; have HB3 := hid (bl_tr HB2.out b3); have y3 := (Y2.out.stays b3).cell; have z3 := (Y2.out.stays b3).frozen; clear b3)
    refine bodyPost_ret (v := .agg #[.int .i64 1, .int .i64 (0), .slice none 0 0, .slice none 0 0]) (by rw [results_cell1 (fn := Tryz.f22) (p := 4) (ty := 28) (by kernel_rfl)]; simp [go_sem, y3, z3]) rfl ?_
    show TmAns _ _ _ _
    rw [HE.out]
    exact ⟨none, 0, 1, rfl, tat_leaf 1 (0) (⟨by omega, by omega⟩ : Tgt.R64 1) HN.out, rfl, HSS.out _ _ _ (HSS.out _ _ _ (HSS.out _ _ _ (HSS.out _ _ _ HB3.out)))⟩
  have nh1 : (t.k == 1) = false := by rw [beq_eq_false_iff_ne]; exact h1
  by_cases h2 : t.k = 2
  · have HE : Hid (Tp.made k t = .mk 2 (0) [] []) := by
      obtain ⟨kd, n0, ks⟩ := t
      simp only [Tp.k, Tp.n] at *
      show _ = _
      rw [Tp.made]
      simp [h2]
    have HN : Hid (Tgt.R64 (0)) := ⟨by omega, by omega⟩
    have eh2 : (t.k == 2) = true := by rw [beq_iff_eq]; exact h2
    clear HL ih HR8 hm hr h7a h2
    go_enter Tryz.func22, Tryz.ntmps22
    go_wp2_with (go_at_call 47; refine (leaf_any _ 2).mono ?_; rintro e w3 ⟨rfl, b3⟩; have HB3 := hid (bl_tr HB2.out b3); have y3 := (Y2.out.stays b3).cell; have z3 := (Y2.out.stays b3).frozen; clear b3)
    refine bodyPost_ret (v := .agg #[.int .i64 2, .int .i64 (0), .slice none 0 0, .slice none 0 0]) (by rw [results_cell1 (fn := Tryz.f22) (p := 4) (ty := 28) (by kernel_rfl)]; simp [go_sem, y3, z3]) rfl ?_
    show TmAns _ _ _ _
    rw [HE.out]
    exact ⟨none, 0, 1, rfl, tat_leaf 2 (0) (⟨by omega, by omega⟩ : Tgt.R64 2) HN.out, rfl, HSS.out _ _ _ (HSS.out _ _ _ (HSS.out _ _ _ (HSS.out _ _ _ HB3.out)))⟩
  have nh2 : (t.k == 2) = false := by rw [beq_eq_false_iff_ne]; exact h2
  by_cases h3 : t.k = 3
  · have HE : Hid (Tp.made k t = .mk 3 (0) [] []) := by
      obtain ⟨kd, n0, ks⟩ := t
      simp only [Tp.k, Tp.n] at *
      show _ = _
      rw [Tp.made]
      simp [h3]
    have HN : Hid (Tgt.R64 (0)) := ⟨by omega, by omega⟩
    have eh3 : (t.k == 3) = true := by rw [beq_iff_eq]; exact h3
    clear HL ih HR8 hm hr h7a h3
    go_enter Tryz.func22, Tryz.ntmps22
    go_wp2_with (go_at_call 47; refine (leaf_any _ 3).mono ?_; rintro e w3 ⟨rfl, b3⟩; have HB3 := hid (bl_tr HB2.out b3); have y3 := (Y2.out.stays b3).cell; have z3 := (Y2.out.stays b3).frozen; clear b3)
    refine bodyPost_ret (v := .agg #[.int .i64 3, .int .i64 (0), .slice none 0 0, .slice none 0 0]) (by rw [results_cell1 (fn := Tryz.f22) (p := 4) (ty := 28) (by kernel_rfl)]; simp [go_sem, y3, z3]) rfl ?_
    show TmAns _ _ _ _
    rw [HE.out]
    exact ⟨none, 0, 1, rfl, tat_leaf 3 (0) (⟨by omega, by omega⟩ : Tgt.R64 3) HN.out, rfl, HSS.out _ _ _ (HSS.out _ _ _ (HSS.out _ _ _ (HSS.out _ _ _ HB3.out)))⟩
  have nh3 : (t.k == 3) = false := by rw [beq_eq_false_iff_ne]; exact h3
  by_cases h6 : t.k = 6
  · have HE : Hid (Tp.made k t = .mk 6 (t.n) [] []) := by
      obtain ⟨kd, n0, ks⟩ := t
      simp only [Tp.k, Tp.n] at *
      show _ = _
      rw [Tp.made]
      simp [h6]
    have HN : Hid (Tgt.R64 (t.n)) := HN64.out
    have eh6 : (t.k == 6) = true := by rw [beq_iff_eq]; exact h6
    clear HL ih HR8 hm hr h7a h6
    go_enter Tryz.func22, Tryz.ntmps22
    go_wp2_with (go_at_call 48; refine (variable_any _ (t.n)).mono ?_; rintro e w3 ⟨rfl, b3⟩; have HB3 := hid (bl_tr HB2.out b3); have y3 := (Y2.out.stays b3).cell; have z3 := (Y2.out.stays b3).frozen; clear b3)
    refine bodyPost_ret (v := .agg #[.int .i64 6, .int .i64 (t.n), .slice none 0 0, .slice none 0 0]) (by rw [results_cell1 (fn := Tryz.f22) (p := 4) (ty := 28) (by kernel_rfl)]; simp [go_sem, y3, z3]) rfl ?_
    show TmAns _ _ _ _
    rw [HE.out]
    exact ⟨none, 0, 1, rfl, tat_leaf 6 (t.n) (⟨by omega, by omega⟩ : Tgt.R64 6) HN.out, rfl, HSS.out _ _ _ (HSS.out _ _ _ (HSS.out _ _ _ (HSS.out _ _ _ HB3.out)))⟩
  have nh6 : (t.k == 6) = false := by rw [beq_eq_false_iff_ne]; exact h6
  by_cases h8 : t.k = 8
  · have HE : Hid (Tp.made k t = .mk 6 (k + t.n) [] []) := by
      obtain ⟨kd, n0, ks⟩ := t
      simp only [Tp.k, Tp.n] at *
      show _ = _
      rw [Tp.made]
      simp [h8]
    have HN : Hid (Tgt.R64 (k + t.n)) := HR8.out t.n (Tp.all_8t h8)
    have eh8 : (t.k == 8) = true := by rw [beq_iff_eq]; exact h8
    clear HL ih HR8 hm hr h7a h8
    have hw8 : IntKind.i64.wrap (k + t.n) = k + t.n := by rw [IntKind.wrap_i64]; have hq := HN.out; unfold Tgt.R64 at hq; omega
    go_enter Tryz.func22, Tryz.ntmps22
    go_wp2_with (go_at_call 48; refine (variable_any _ (k + t.n)).mono ?_; rintro e w3 ⟨rfl, b3⟩; have HB3 := hid (bl_tr HB2.out b3); have y3 := (Y2.out.stays b3).cell; have z3 := (Y2.out.stays b3).frozen; clear b3)
    refine bodyPost_ret (v := .agg #[.int .i64 6, .int .i64 (k + t.n), .slice none 0 0, .slice none 0 0]) (by rw [results_cell1 (fn := Tryz.f22) (p := 4) (ty := 28) (by kernel_rfl)]; simp [go_sem, y3, z3]) rfl ?_
    show TmAns _ _ _ _
    rw [HE.out]
    exact ⟨none, 0, 1, rfl, tat_leaf 6 (k + t.n) (⟨by omega, by omega⟩ : Tgt.R64 6) HN.out, rfl, HSS.out _ _ _ (HSS.out _ _ _ (HSS.out _ _ _ (HSS.out _ _ _ HB3.out)))⟩
  have nh8 : (t.k == 8) = false := by rw [beq_eq_false_iff_ne]; exact h8
  have h7 : t.k ≠ 7 := fun h => h7a _ (Tp.all_7t h)
  obtain ⟨x, y, hks, hrx, hry, hkk⟩ := Tp.right_two hr h1 h2 h3 h6 h8 h7
  have hM := Tp.made_ks k t h1 h2 h3 h6 h8
  rw [hks] at hM
  have hxm : x ∈ t.ks := by rw [hks]; exact List.mem_cons_self
  have hym : y ∈ t.ks := by rw [hks]; exact List.mem_cons_of_mem _ List.mem_cons_self
  have hx0 : t.ks[0]? = some x := by rw [hks]; rfl
  have hy0 : t.ks[1]? = some y := by rw [hks]; rfl
  have hlen : t.ks.length = 2 := by rw [hks]; rfl
  obtain ⟨kb, ko, rfl⟩ : ∃ b o, a1 = some ⟨b, o, none⟩ := by
    rcases HL.out with ⟨b, o, c, hv, -⟩ | ⟨h0, -⟩
    · injection hv with e1 e2 e3; exact ⟨b, o, e1⟩
    · rw [h0] at hlen; cases hlen
  obtain ⟨vx, tx, u0, u1, u2, -, hkb⟩ := HL.out.elem hx0
  obtain ⟨ax, cx, ex⟩ := tx.form
  simp only [List.cons.injEq, and_true, true_and] at ex
  subst ex
  obtain ⟨vy, ty, v0, v1, v2, -, -⟩ := HL.out.elem hy0
  obtain ⟨ay, cy, ey⟩ := ty.form
  simp only [List.cons.injEq, and_true, true_and] at ey
  subst ey
  have HQX : Hid (∀ wz, Below w.heap.size w wz → Calls Tryz.prog 22 #[.agg #[.int .i64 x.k, .int .i64 x.n, .slice ax x.ks.length cx], .int .i64 k] wz (TmAns wz (Tp.made k x))) := fun wz hz => ih wz _ x k (tx.below hz) hrx (fun z hz => h7a z (Tp.all_ks2 hxm hz)) (fun z hz => HR8.out z (Tp.all_ks2 hxm hz))
  have HQY : Hid (∀ wz, Below w.heap.size w wz → Calls Tryz.prog 22 #[.agg #[.int .i64 y.k, .int .i64 y.n, .slice ay y.ks.length cy], .int .i64 k] wz (TmAns wz (Tp.made k y))) := fun wz hz => ih wz _ y k (ty.below hz) hry (fun z hz => h7a z (Tp.all_ks2 hym hz)) (fun z hz => HR8.out z (Tp.all_ks2 hym hz))
  have HU : Hid (∀ wz, Below w.heap.size w wz → wz.cell? ⟨kb, ko + 3, none⟩ = some (.int .i64 y.k) ∧ wz.cell? ⟨kb, ko + 3 + 1, none⟩ = some (.int .i64 y.n) ∧ wz.cell? ⟨kb, ko + 3 + 2, none⟩ = some (.slice ay y.ks.length cy)) := fun wz hz => ⟨(hz.cell (p := ⟨kb, ko + 3, none⟩) hkb).trans (by simpa using v0), (hz.cell (p := ⟨kb, ko + 3 + 1, none⟩) hkb).trans (by simpa using v1), (hz.cell (p := ⟨kb, ko + 3 + 2, none⟩) hkb).trans (by simpa using v2)⟩
  simp only [Nat.zero_mul, Nat.add_zero] at u0 u1 u2
  simp only [List.map_cons, List.map_nil] at hM
  generalize Tp.made k x = p at HQX hM
  generalize Tp.made k y = q at HQY hM
  rw [hlen] at X2 HB2 Y2 HZ2
  rw [hlen]
  clear ih HL HR8 hm hr h7a hks hrx hry hxm hym hx0 hy0 hlen tx ty v0 v1 v2 h7 HN64
  by_cases h5 : t.k = 5
  · have g5 : (t.k == 5) = true := by rw [beq_iff_eq]; exact h5
    have HE : Hid (Tp.made k t = .mk 5 0 [] [p, q]) := by show _ = _; rw [hM, if_pos h5]
    clear hM hkk h5 h1 h2 h3 h6 h8
    go_enter Tryz.func22, Tryz.ntmps22
    go_wp2_with (go_at_call 22; refine (HQX.out _ HB2.out).mono ?_; rintro e w3 ⟨a3, c3, N3, rfl, hT3, hls3, b3⟩; have HT3 := hid (hT3.below (bl_alloc (Below.refl _ _) (.cells #[.int .i64 p.k, .int .i64 p.n, .slice none 0 0, .slice a3 p.ks.length c3] 28))); have HLP := hid hls3; have HB3 := hid (bl_alloc (bl_tr HB2.out b3) (.cells #[.int .i64 p.k, .int .i64 p.n, .slice none 0 0, .slice a3 p.ks.length c3] 28)); have X3 := hid ((X2.out.stays b3).stays (bl_alloc (Below.refl _ _) (.cells #[.int .i64 p.k, .int .i64 p.n, .slice none 0 0, .slice a3 p.ks.length c3] 28))); have Y3 := hid ((Y2.out.stays b3).stays (bl_alloc (Below.refl _ _) (.cells #[.int .i64 p.k, .int .i64 p.n, .slice none 0 0, .slice a3 p.ks.length c3] 28))); have A3 : Hid (Arr (w3.alloc (.cells #[.int .i64 p.k, .int .i64 p.n, .slice none 0 0, .slice a3 p.ks.length c3] 28)) w3.heap.size 28 [.int .i64 p.k, .int .i64 p.n, .slice none 0 0, .slice a3 p.ks.length c3]) := ⟨heap_alloc_at _ _⟩; have HS3 := hid b3.size; clear hT3 hls3 b3 HQX)
    have HDB : Hid (Below (w3.alloc (.cells #[.int .i64 p.k, .int .i64 p.n, .slice none 0 0, .slice a3 p.ks.length c3] 28)).heap.size (w3.alloc (.cells #[.int .i64 p.k, .int .i64 p.n, .slice none 0 0, .slice a3 p.ks.length c3] 28)) (w3.alloc (.cells #[.int .i64 p.k, .int .i64 p.n, .slice none 0 0, .slice a3 p.ks.length c3] 28)).drew) := (Below.refl _ _).drew
    have hs0 : Hid (Arr (w3.alloc (.cells #[.int .i64 p.k, .int .i64 p.n, .slice none 0 0, .slice a3 p.ks.length c3] 28)).drew w.heap.size 24 [.int .i64 t.k, .int .i64 t.n, .slice (some ⟨kb, ko, none⟩) 2 c1] ∧ Arr (w3.alloc (.cells #[.int .i64 p.k, .int .i64 p.n, .slice none 0 0, .slice a3 p.ks.length c3] 28)).drew w3.heap.size 28 [.int .i64 p.k, .int .i64 p.n, .slice none 0 0, .slice a3 p.ks.length c3] ∧ Below w.heap.size w (w3.alloc (.cells #[.int .i64 p.k, .int .i64 p.n, .slice none 0 0, .slice a3 p.ks.length c3] 28)).drew) := ⟨X3.out.stays HDB.out, A3.out.stays HDB.out, bl_tr HB3.out HDB.out⟩
    have Y3 := hid (Y3.out.stays HDB.out)
    have HT3 := hid (HT3.out.below HDB.out)
    have hZ : ((w.alloc (.cells #[.int .i64 t.k, .int .i64 t.n, .slice (some ⟨kb, ko, none⟩) 2 c1] 24)).alloc (.cells #[.int .i64 0, .int .i64 0, .slice none 0 0, .slice none 0 0] 28)).heap.size = w.heap.size + 2 := HZ2.out
    have HS3' : Hid (w.heap.size + 2 ≤ w3.heap.size) := by have := HS3.out; rw [hZ] at this; exact this
    have HTP : Hid (Tgt.TAt (w3.alloc (.cells #[.int .i64 p.k, .int .i64 p.n, .slice none 0 0, .slice a3 p.ks.length c3] 28)).drew (fun b => w.heap.size + 2 ≤ b) N3 [.int .i64 p.k, .int .i64 p.n, .slice none 0 0, .slice a3 p.ks.length c3] p) := HT3.out.move (Tgt.Keeps.refl _ _) (fun b hb => by have hb := hb; rw [hZ] at hb; exact hb)
    clear X3 A3 HB3 HT3 HDB HS3 HZ2 hZ X2 Y2 HB2
    have HZd : Hid (w.heap.size + 2 ≤ (w3.alloc (.cells #[.int .i64 p.k, .int .i64 p.n, .slice none 0 0, .slice a3 p.ks.length c3] 28)).drew.heap.size) := by have := HS3'.out; show _ ≤ (w3.alloc (.cells #[.int .i64 p.k, .int .i64 p.n, .slice none 0 0, .slice a3 p.ks.length c3] 28)).heap.size; rw [size_alloc]; omega
    refine wp_region_held_drew (S := fun wz => Arr wz w.heap.size 24 [.int .i64 t.k, .int .i64 t.n, .slice (some ⟨kb, ko, none⟩) 2 c1] ∧ Arr wz w3.heap.size 28 [.int .i64 p.k, .int .i64 p.n, .slice none 0 0, .slice a3 p.ks.length c3] ∧ Below w.heap.size w wz) (by kernel_rfl) (hs0.out) (fun hS => ?_)
    generalize (w3.alloc (.cells #[.int .i64 p.k, .int .i64 p.n, .slice none 0 0, .slice a3 p.ks.length c3] 28)).drew = wd at hS HTP Y3 HZd ⊢
    refine wpAnyH_take (i := 0) (v := ?_) rfl (by kernel_rfl) (by kernel_rfl) (by kernel_rfl) (fun _ _ _ h => h) (Or.inl ⟨by rfl, ?_⟩) hS ?_
    rotate_left
    · intro wz hz; go_simp; try with_reducible rfl
    try simp only [Act.put, List.setIfInBounds_toArray, List.set_cons_zero, List.set_cons_succ, List.getElem_toArray, List.getElem_cons_succ, List.getElem_cons_zero]
    refine wpAnyH_take (i := 1) (v := ?_) rfl (by kernel_rfl) (by kernel_rfl) (by kernel_rfl) (fun _ _ _ h => h) (Or.inl ⟨by rfl, ?_⟩) hS ?_
    rotate_left
    · intro wz hz; have yy0 := hz.1.cell; have yy1 := hz.2.1.cell; obtain ⟨yy2, yy3, yy4⟩ := HU.out wz hz.2.2; go_simp; try with_reducible rfl
    try simp only [Act.put, List.setIfInBounds_toArray, List.set_cons_zero, List.set_cons_succ, List.getElem_toArray, List.getElem_cons_succ, List.getElem_cons_zero]
    refine wpAnyH_take (i := 2) (v := ?_) rfl (by kernel_rfl) (by kernel_rfl) (by kernel_rfl) (fun _ _ _ h => h) (Or.inl ⟨by rfl, ?_⟩) hS ?_
    rotate_left
    · intro wz hz; go_simp; try with_reducible rfl
    try simp only [Act.put, List.setIfInBounds_toArray, List.set_cons_zero, List.set_cons_succ, List.getElem_toArray, List.getElem_cons_succ, List.getElem_cons_zero]
    refine wpAnyH_take (i := 3) (v := ?_) rfl (by kernel_rfl) (by kernel_rfl) (by kernel_rfl) (fun _ _ _ h => h) (Or.inl ⟨by rfl, ?_⟩) hS ?_
    rotate_left
    · intro wz hz; have yy0 := hz.1.cell; have yy1 := hz.2.1.cell; obtain ⟨yy2, yy3, yy4⟩ := HU.out wz hz.2.2; go_simp; try with_reducible rfl
    try simp only [Act.put, List.setIfInBounds_toArray, List.set_cons_zero, List.set_cons_succ, List.getElem_toArray, List.getElem_cons_succ, List.getElem_cons_zero]
    refine wpAnyH_take (i := 4) (v := ?_) rfl (by kernel_rfl) (by kernel_rfl) (by kernel_rfl) (fun _ _ _ h => h) (Or.inl ⟨by rfl, ?_⟩) hS ?_
    rotate_left
    · intro wz hz; go_simp; try with_reducible rfl
    try simp only [Act.put, List.setIfInBounds_toArray, List.set_cons_zero, List.set_cons_succ, List.getElem_toArray, List.getElem_cons_succ, List.getElem_cons_zero]
    refine wpAnyH_take (i := 5) (v := ?_) rfl (by kernel_rfl) (by kernel_rfl) (by kernel_rfl) (fun _ _ _ h => h) (Or.inl ⟨by rfl, ?_⟩) hS ?_
    rotate_left
    · intro wz hz; have yy0 := hz.1.cell; have yy1 := hz.2.1.cell; obtain ⟨yy2, yy3, yy4⟩ := HU.out wz hz.2.2; go_simp; try with_reducible rfl
    try simp only [Act.put, List.setIfInBounds_toArray, List.set_cons_zero, List.set_cons_succ, List.getElem_toArray, List.getElem_cons_succ, List.getElem_cons_zero]
    refine wpAnyH_take (i := 6) (v := ?_) rfl (by kernel_rfl) (by kernel_rfl) (by kernel_rfl) (fun _ _ _ h => h) (Or.inl ⟨by rfl, ?_⟩) hS ?_
    rotate_left
    · intro wz hz; go_simp; try with_reducible rfl
    try simp only [Act.put, List.setIfInBounds_toArray, List.set_cons_zero, List.set_cons_succ, List.getElem_toArray, List.getElem_cons_succ, List.getElem_cons_zero]
    refine wpAnyH_ready (rs := [7]) (by kernel_rfl) (by simp) (AllReadyH.cons rfl (fun K hK => ?a1_7) AllReadyH.nil)
    case' a1_7 =>
      go_simp
      refine (HQY.out _ hS.2.2).mono ?_
      rintro e w4 ⟨a4, c4, N4, rfl, hT4, hls4, b4⟩
      have HTQ := hid hT4
      have HLQ := hid hls4
      have HTP := hid (HTP.out.below b4)
      have Y3 := hid (Y3.out.stays b4)
      have HZ4 := hid (Nat.le_trans HZd.out b4.size)
      refine hK.out _ _ (⟨hS.1.stays b4, hS.2.1.stays b4, bl_tr hS.2.2 b4⟩) (fun hSn => ?_)
      clear hK K hS
      have hS := hSn
      clear hSn
      try simp only [Act.put, List.setIfInBounds_toArray, List.set_cons_zero, List.set_cons_succ, List.getElem_toArray, List.getElem_cons_succ, List.getElem_cons_zero]
      clear b4 hT4 hls4
      refine wpAnyH_ready (rs := [8]) (by kernel_rfl) (by simp) (AllReadyH.cons rfl (fun K hK => ?a2_8) AllReadyH.nil)
      case' a2_8 =>
        go_simp
        have hbo := both_any w4 (fun b => w.heap.size + 2 ≤ b) (max N3 N4) 5 p q none a3 none a4 0 c3 0 c4 ⟨by omega, by omega⟩ (by rw [HLP.out]; exact HTP.out.le (Nat.le_max_left _ _)) (by rw [HLQ.out]; exact (HTQ.out.move (Tgt.Keeps.refl _ _) (fun b hb => by have hb : wd.heap.size ≤ b := hb; have := HZd.out; show _ ≤ b; omega)).le (Nat.le_max_right _ _)) (fun b hb => by have := HZ4.out; show _ ≤ b; omega)
        simp only [HLP.out, HLQ.out, List.length_nil] at hbo
        refine hbo.mono ?_
        clear hbo
        rintro e w5 ⟨a5, c5, rfl, hT5, b5⟩
        have HT5 := hid hT5
        have Y5 := hid (Y3.out.stays b5)
        have y5 := Y5.out.cell
        have z5 := Y5.out.frozen
        refine hK.out _ _ (⟨hS.1.stays b5, hS.2.1.stays b5, bl_tr hS.2.2 b5⟩) (fun hSn => ?_)
        clear hK K hS
        have hS := hSn
        clear hSn
        try simp only [Act.put, List.setIfInBounds_toArray, List.set_cons_zero, List.set_cons_succ, List.getElem_toArray, List.getElem_cons_succ, List.getElem_cons_zero]
        clear b5 hT5 HTP HTQ Y3
        refine wpAnyH_ready (rs := [9]) (by kernel_rfl) (by simp) (AllReadyH.cons rfl (fun K hK => ?a3_9) AllReadyH.nil)
        case' a3_9 =>
          go_simp
          refine hK.out _ _ (⟨(((hS.1.other (p := ⟨w.heap.size + 1, 0, none⟩) (by show w.heap.size ≠ w.heap.size + 1; omega) _).other (p := ⟨w.heap.size + 1, 1, none⟩) (by show w.heap.size ≠ w.heap.size + 1; omega) _).other (p := ⟨w.heap.size + 1, 2, none⟩) (by show w.heap.size ≠ w.heap.size + 1; omega) _).other (p := ⟨w.heap.size + 1, 3, none⟩) (by show w.heap.size ≠ w.heap.size + 1; omega) _, (((hS.2.1.other (p := ⟨w.heap.size + 1, 0, none⟩) (by show w3.heap.size ≠ w.heap.size + 1; have := HS3'.out; omega) _).other (p := ⟨w.heap.size + 1, 1, none⟩) (by show w3.heap.size ≠ w.heap.size + 1; have := HS3'.out; omega) _).other (p := ⟨w.heap.size + 1, 2, none⟩) (by show w3.heap.size ≠ w.heap.size + 1; have := HS3'.out; omega) _).other (p := ⟨w.heap.size + 1, 3, none⟩) (by show w3.heap.size ≠ w.heap.size + 1; have := HS3'.out; omega) _, HSS.out _ _ _ (HSS.out _ _ _ (HSS.out _ _ _ (HSS.out _ _ _ hS.2.2)))⟩) (fun hSn => ?_)
          clear hK K hS
          have hS := hSn
          clear hSn
          try simp only [Act.put, List.setIfInBounds_toArray, List.set_cons_zero, List.set_cons_succ, List.getElem_toArray, List.getElem_cons_succ, List.getElem_cons_zero]
          refine wpAnyH_done (by kernel_rfl) ?_ _
    go_wp2
    refine bodyPost_ret (v := .agg #[.int .i64 5, .int .i64 0, .slice none 0 0, .slice a5 2 c5]) (by rw [results_cell1 (fn := Tryz.f22) (p := 4) (ty := 28) (by kernel_rfl)]; simp [go_sem, y5, z5]) rfl ?_
    show TmAns _ _ _ _
    rw [HE.out]
    have hK : ∀ (W : World) i u, Tgt.Keeps (fun b => w.heap.size + 2 ≤ b) W (W.setCell ⟨w.heap.size + 1, i, none⟩ u) := fun W i u b o v hb hv => by have hb : w.heap.size + 2 ≤ b := hb; rw [World.cell?_of_block (w := W) (Below.heap_setCell _ _ _ _ (by show b ≠ w.heap.size + 1; omega))]; exact hv
    exact ⟨a5, c5, _, rfl, HT5.out.move (((hK _ _ _).trans (hK _ _ _)).trans ((hK _ _ _).trans (hK _ _ _))) (fun b hb => by have hb : w.heap.size + 2 ≤ b := hb; show w.heap.size ≤ b; omega), rfl, hS.2.2⟩
  · have g5 : (t.k == 5) = false := by rw [beq_eq_false_iff_ne]; exact h5
    have HE : Hid (Tp.made k t = .mk 4 0 [] [p, q]) := by show _ = _; rw [hM, if_neg h5]
    clear hM hkk h5 h1 h2 h3 h6 h8
    go_enter Tryz.func22, Tryz.ntmps22
    go_wp2_with (go_at_call 22; refine (HQX.out _ HB2.out).mono ?_; rintro e w3 ⟨a3, c3, N3, rfl, hT3, hls3, b3⟩; have HT3 := hid (hT3.below (bl_alloc (Below.refl _ _) (.cells #[.int .i64 p.k, .int .i64 p.n, .slice none 0 0, .slice a3 p.ks.length c3] 28))); have HLP := hid hls3; have HB3 := hid (bl_alloc (bl_tr HB2.out b3) (.cells #[.int .i64 p.k, .int .i64 p.n, .slice none 0 0, .slice a3 p.ks.length c3] 28)); have X3 := hid ((X2.out.stays b3).stays (bl_alloc (Below.refl _ _) (.cells #[.int .i64 p.k, .int .i64 p.n, .slice none 0 0, .slice a3 p.ks.length c3] 28))); have Y3 := hid ((Y2.out.stays b3).stays (bl_alloc (Below.refl _ _) (.cells #[.int .i64 p.k, .int .i64 p.n, .slice none 0 0, .slice a3 p.ks.length c3] 28))); have A3 : Hid (Arr (w3.alloc (.cells #[.int .i64 p.k, .int .i64 p.n, .slice none 0 0, .slice a3 p.ks.length c3] 28)) w3.heap.size 28 [.int .i64 p.k, .int .i64 p.n, .slice none 0 0, .slice a3 p.ks.length c3]) := ⟨heap_alloc_at _ _⟩; have HS3 := hid b3.size; clear hT3 hls3 b3 HQX)
    have HDB : Hid (Below (w3.alloc (.cells #[.int .i64 p.k, .int .i64 p.n, .slice none 0 0, .slice a3 p.ks.length c3] 28)).heap.size (w3.alloc (.cells #[.int .i64 p.k, .int .i64 p.n, .slice none 0 0, .slice a3 p.ks.length c3] 28)) (w3.alloc (.cells #[.int .i64 p.k, .int .i64 p.n, .slice none 0 0, .slice a3 p.ks.length c3] 28)).drew) := (Below.refl _ _).drew
    have hs0 : Hid (Arr (w3.alloc (.cells #[.int .i64 p.k, .int .i64 p.n, .slice none 0 0, .slice a3 p.ks.length c3] 28)).drew w.heap.size 24 [.int .i64 t.k, .int .i64 t.n, .slice (some ⟨kb, ko, none⟩) 2 c1] ∧ Arr (w3.alloc (.cells #[.int .i64 p.k, .int .i64 p.n, .slice none 0 0, .slice a3 p.ks.length c3] 28)).drew w3.heap.size 28 [.int .i64 p.k, .int .i64 p.n, .slice none 0 0, .slice a3 p.ks.length c3] ∧ Below w.heap.size w (w3.alloc (.cells #[.int .i64 p.k, .int .i64 p.n, .slice none 0 0, .slice a3 p.ks.length c3] 28)).drew) := ⟨X3.out.stays HDB.out, A3.out.stays HDB.out, bl_tr HB3.out HDB.out⟩
    have Y3 := hid (Y3.out.stays HDB.out)
    have HT3 := hid (HT3.out.below HDB.out)
    have hZ : ((w.alloc (.cells #[.int .i64 t.k, .int .i64 t.n, .slice (some ⟨kb, ko, none⟩) 2 c1] 24)).alloc (.cells #[.int .i64 0, .int .i64 0, .slice none 0 0, .slice none 0 0] 28)).heap.size = w.heap.size + 2 := HZ2.out
    have HS3' : Hid (w.heap.size + 2 ≤ w3.heap.size) := by have := HS3.out; rw [hZ] at this; exact this
    have HTP : Hid (Tgt.TAt (w3.alloc (.cells #[.int .i64 p.k, .int .i64 p.n, .slice none 0 0, .slice a3 p.ks.length c3] 28)).drew (fun b => w.heap.size + 2 ≤ b) N3 [.int .i64 p.k, .int .i64 p.n, .slice none 0 0, .slice a3 p.ks.length c3] p) := HT3.out.move (Tgt.Keeps.refl _ _) (fun b hb => by have hb := hb; rw [hZ] at hb; exact hb)
    clear X3 A3 HB3 HT3 HDB HS3 HZ2 hZ X2 Y2 HB2
    have HZd : Hid (w.heap.size + 2 ≤ (w3.alloc (.cells #[.int .i64 p.k, .int .i64 p.n, .slice none 0 0, .slice a3 p.ks.length c3] 28)).drew.heap.size) := by have := HS3'.out; show _ ≤ (w3.alloc (.cells #[.int .i64 p.k, .int .i64 p.n, .slice none 0 0, .slice a3 p.ks.length c3] 28)).heap.size; rw [size_alloc]; omega
    refine wp_region_held_drew (S := fun wz => Arr wz w.heap.size 24 [.int .i64 t.k, .int .i64 t.n, .slice (some ⟨kb, ko, none⟩) 2 c1] ∧ Arr wz w3.heap.size 28 [.int .i64 p.k, .int .i64 p.n, .slice none 0 0, .slice a3 p.ks.length c3] ∧ Below w.heap.size w wz) (by kernel_rfl) (hs0.out) (fun hS => ?_)
    generalize (w3.alloc (.cells #[.int .i64 p.k, .int .i64 p.n, .slice none 0 0, .slice a3 p.ks.length c3] 28)).drew = wd at hS HTP Y3 HZd ⊢
    refine wpAnyH_take (i := 0) (v := ?_) rfl (by kernel_rfl) (by kernel_rfl) (by kernel_rfl) (fun _ _ _ h => h) (Or.inl ⟨by rfl, ?_⟩) hS ?_
    rotate_left
    · intro wz hz; go_simp; try with_reducible rfl
    try simp only [Act.put, List.setIfInBounds_toArray, List.set_cons_zero, List.set_cons_succ, List.getElem_toArray, List.getElem_cons_succ, List.getElem_cons_zero]
    refine wpAnyH_take (i := 1) (v := ?_) rfl (by kernel_rfl) (by kernel_rfl) (by kernel_rfl) (fun _ _ _ h => h) (Or.inl ⟨by rfl, ?_⟩) hS ?_
    rotate_left
    · intro wz hz; have yy0 := hz.1.cell; have yy1 := hz.2.1.cell; obtain ⟨yy2, yy3, yy4⟩ := HU.out wz hz.2.2; go_simp; try with_reducible rfl
    try simp only [Act.put, List.setIfInBounds_toArray, List.set_cons_zero, List.set_cons_succ, List.getElem_toArray, List.getElem_cons_succ, List.getElem_cons_zero]
    refine wpAnyH_take (i := 2) (v := ?_) rfl (by kernel_rfl) (by kernel_rfl) (by kernel_rfl) (fun _ _ _ h => h) (Or.inl ⟨by rfl, ?_⟩) hS ?_
    rotate_left
    · intro wz hz; go_simp; try with_reducible rfl
    try simp only [Act.put, List.setIfInBounds_toArray, List.set_cons_zero, List.set_cons_succ, List.getElem_toArray, List.getElem_cons_succ, List.getElem_cons_zero]
    refine wpAnyH_take (i := 3) (v := ?_) rfl (by kernel_rfl) (by kernel_rfl) (by kernel_rfl) (fun _ _ _ h => h) (Or.inl ⟨by rfl, ?_⟩) hS ?_
    rotate_left
    · intro wz hz; have yy0 := hz.1.cell; have yy1 := hz.2.1.cell; obtain ⟨yy2, yy3, yy4⟩ := HU.out wz hz.2.2; go_simp; try with_reducible rfl
    try simp only [Act.put, List.setIfInBounds_toArray, List.set_cons_zero, List.set_cons_succ, List.getElem_toArray, List.getElem_cons_succ, List.getElem_cons_zero]
    refine wpAnyH_take (i := 4) (v := ?_) rfl (by kernel_rfl) (by kernel_rfl) (by kernel_rfl) (fun _ _ _ h => h) (Or.inl ⟨by rfl, ?_⟩) hS ?_
    rotate_left
    · intro wz hz; go_simp; try with_reducible rfl
    try simp only [Act.put, List.setIfInBounds_toArray, List.set_cons_zero, List.set_cons_succ, List.getElem_toArray, List.getElem_cons_succ, List.getElem_cons_zero]
    refine wpAnyH_take (i := 5) (v := ?_) rfl (by kernel_rfl) (by kernel_rfl) (by kernel_rfl) (fun _ _ _ h => h) (Or.inl ⟨by rfl, ?_⟩) hS ?_
    rotate_left
    · intro wz hz; have yy0 := hz.1.cell; have yy1 := hz.2.1.cell; obtain ⟨yy2, yy3, yy4⟩ := HU.out wz hz.2.2; go_simp; try with_reducible rfl
    try simp only [Act.put, List.setIfInBounds_toArray, List.set_cons_zero, List.set_cons_succ, List.getElem_toArray, List.getElem_cons_succ, List.getElem_cons_zero]
    refine wpAnyH_take (i := 6) (v := ?_) rfl (by kernel_rfl) (by kernel_rfl) (by kernel_rfl) (fun _ _ _ h => h) (Or.inl ⟨by rfl, ?_⟩) hS ?_
    rotate_left
    · intro wz hz; go_simp; try with_reducible rfl
    try simp only [Act.put, List.setIfInBounds_toArray, List.set_cons_zero, List.set_cons_succ, List.getElem_toArray, List.getElem_cons_succ, List.getElem_cons_zero]
    refine wpAnyH_ready (rs := [7]) (by kernel_rfl) (by simp) (AllReadyH.cons rfl (fun K hK => ?a4_7) AllReadyH.nil)
    case' a4_7 =>
      go_simp
      refine (HQY.out _ hS.2.2).mono ?_
      rintro e w4 ⟨a4, c4, N4, rfl, hT4, hls4, b4⟩
      have HTQ := hid hT4
      have HLQ := hid hls4
      have HTP := hid (HTP.out.below b4)
      have Y3 := hid (Y3.out.stays b4)
      have HZ4 := hid (Nat.le_trans HZd.out b4.size)
      refine hK.out _ _ (⟨hS.1.stays b4, hS.2.1.stays b4, bl_tr hS.2.2 b4⟩) (fun hSn => ?_)
      clear hK K hS
      have hS := hSn
      clear hSn
      try simp only [Act.put, List.setIfInBounds_toArray, List.set_cons_zero, List.set_cons_succ, List.getElem_toArray, List.getElem_cons_succ, List.getElem_cons_zero]
      clear b4 hT4 hls4
      refine wpAnyH_ready (rs := [8]) (by kernel_rfl) (by simp) (AllReadyH.cons rfl (fun K hK => ?a5_8) AllReadyH.nil)
      case' a5_8 =>
        go_simp
        have hbo := both_any w4 (fun b => w.heap.size + 2 ≤ b) (max N3 N4) 4 p q none a3 none a4 0 c3 0 c4 ⟨by omega, by omega⟩ (by rw [HLP.out]; exact HTP.out.le (Nat.le_max_left _ _)) (by rw [HLQ.out]; exact (HTQ.out.move (Tgt.Keeps.refl _ _) (fun b hb => by have hb : wd.heap.size ≤ b := hb; have := HZd.out; show _ ≤ b; omega)).le (Nat.le_max_right _ _)) (fun b hb => by have := HZ4.out; show _ ≤ b; omega)
        simp only [HLP.out, HLQ.out, List.length_nil] at hbo
        refine hbo.mono ?_
        clear hbo
        rintro e w5 ⟨a5, c5, rfl, hT5, b5⟩
        have HT5 := hid hT5
        have Y5 := hid (Y3.out.stays b5)
        have y5 := Y5.out.cell
        have z5 := Y5.out.frozen
        refine hK.out _ _ (⟨hS.1.stays b5, hS.2.1.stays b5, bl_tr hS.2.2 b5⟩) (fun hSn => ?_)
        clear hK K hS
        have hS := hSn
        clear hSn
        try simp only [Act.put, List.setIfInBounds_toArray, List.set_cons_zero, List.set_cons_succ, List.getElem_toArray, List.getElem_cons_succ, List.getElem_cons_zero]
        clear b5 hT5 HTP HTQ Y3
        refine wpAnyH_ready (rs := [9]) (by kernel_rfl) (by simp) (AllReadyH.cons rfl (fun K hK => ?a6_9) AllReadyH.nil)
        case' a6_9 =>
          go_simp
          refine hK.out _ _ (⟨(((hS.1.other (p := ⟨w.heap.size + 1, 0, none⟩) (by show w.heap.size ≠ w.heap.size + 1; omega) _).other (p := ⟨w.heap.size + 1, 1, none⟩) (by show w.heap.size ≠ w.heap.size + 1; omega) _).other (p := ⟨w.heap.size + 1, 2, none⟩) (by show w.heap.size ≠ w.heap.size + 1; omega) _).other (p := ⟨w.heap.size + 1, 3, none⟩) (by show w.heap.size ≠ w.heap.size + 1; omega) _, (((hS.2.1.other (p := ⟨w.heap.size + 1, 0, none⟩) (by show w3.heap.size ≠ w.heap.size + 1; have := HS3'.out; omega) _).other (p := ⟨w.heap.size + 1, 1, none⟩) (by show w3.heap.size ≠ w.heap.size + 1; have := HS3'.out; omega) _).other (p := ⟨w.heap.size + 1, 2, none⟩) (by show w3.heap.size ≠ w.heap.size + 1; have := HS3'.out; omega) _).other (p := ⟨w.heap.size + 1, 3, none⟩) (by show w3.heap.size ≠ w.heap.size + 1; have := HS3'.out; omega) _, HSS.out _ _ _ (HSS.out _ _ _ (HSS.out _ _ _ (HSS.out _ _ _ hS.2.2)))⟩) (fun hSn => ?_)
          clear hK K hS
          have hS := hSn
          clear hSn
          try simp only [Act.put, List.setIfInBounds_toArray, List.set_cons_zero, List.set_cons_succ, List.getElem_toArray, List.getElem_cons_succ, List.getElem_cons_zero]
          refine wpAnyH_done (by kernel_rfl) ?_ _
    go_wp2
    refine bodyPost_ret (v := .agg #[.int .i64 4, .int .i64 0, .slice none 0 0, .slice a5 2 c5]) (by rw [results_cell1 (fn := Tryz.f22) (p := 4) (ty := 28) (by kernel_rfl)]; simp [go_sem, y5, z5]) rfl ?_
    show TmAns _ _ _ _
    rw [HE.out]
    have hK : ∀ (W : World) i u, Tgt.Keeps (fun b => w.heap.size + 2 ≤ b) W (W.setCell ⟨w.heap.size + 1, i, none⟩ u) := fun W i u b o v hb hv => by have hb : w.heap.size + 2 ≤ b := hb; rw [World.cell?_of_block (w := W) (Below.heap_setCell _ _ _ _ (by show b ≠ w.heap.size + 1; omega))]; exact hv
    exact ⟨a5, c5, _, rfl, HT5.out.move (((hK _ _ _).trans (hK _ _ _)).trans ((hK _ _ _).trans (hK _ _ _))) (fun b hb => by have hb : w.heap.size + 2 ≤ b := hb; show w.heap.size ≤ b; omega), rfl, hS.2.2⟩
theorem turned_any : ∀ n, TvOf n
  | 0 => fun w vs t k h => h.elim
  | n + 1 => turned_step n (turned_any n)
end Go.Proofs.YtigliglmejkakaaGreat
