/- by: what is put in for a node. -/
import Derived.Laws.ResultCell
import Derived.Test.YtknlpeloaapaiaaTpN
import Derived.Test.YtknlpeloaapaiaaTpC
namespace Go.Proofs.Ytknlpeloaapaiaa
open Go.RowKit
set_option linter.unusedVariables false
set_option linter.unusedSimpArgs false

/-- A replacer in block M. -/
structure Rep (M : Nat) (kind : Int) (fv tv : Value) (fr : List Int) (to : List Tp) (K : Nat → Prop) (n : Nat) (s : Int) (w : World) : Prop where
  m : Mtr M [.int .i64 kind, fv, tv] 120 s w
  f : Ls w K fv fr
  t : TAtL w K n tv to
  len : fr.length = to.length
theorem Tp.idx_lt (n : Int) : ∀ (l : List Int) (i : Nat), Tp.idx n l i < (i : Int) + l.length ∨ Tp.idx n l i = -1
  | [], i => .inr rfl
  | x :: r, i => by
    rw [Tp.idx]
    by_cases h : x = n
    · rw [if_pos h]; left; simp; omega
    · rw [if_neg h]
      rcases Tp.idx_lt n r (i + 1) with h2 | h2
      · left; simp at h2 ⊢; omega
      · exact .inr h2
theorem Tp.idx_nonneg (n : Int) : ∀ (l : List Int) (i : Nat), 0 ≤ Tp.idx n l i ∨ Tp.idx n l i = -1
  | [], i => .inr rfl
  | x :: r, i => by
    rw [Tp.idx]
    by_cases h : x = n
    · rw [if_pos h]; left; omega
    · rw [if_neg h]; exact Tp.idx_nonneg n r (i + 1)
/-- by, where the node is of another kind, or its number is none of from. -/
theorem Tp.by_none {kind : Int} {fr : List Int} {to : List Tp} {k n : Int} (hlen : fr.length = to.length) (h : Tp.by kind fr to k n = none) : k ≠ kind ∨ (k = kind ∧ Tp.idx n fr 0 = -1) := by
  unfold Tp.by at h
  by_cases hk : k = kind
  · rw [if_pos hk] at h
    refine .inr ⟨hk, ?_⟩
    rcases Tp.idx_nonneg n fr 0 with h2 | h2
    · rw [if_pos h2] at h
      rcases Tp.idx_lt n fr 0 with h3 | h3
      · rw [List.getElem?_eq_none_iff] at h; omega
      · omega
    · exact h2
  · exact .inl hk
theorem Tp.by_some {kind : Int} {fr : List Int} {to : List Tp} {k n : Int} {u : Tp} (h : Tp.by kind fr to k n = some u) : k = kind ∧ ∃ i : Nat, Tp.idx n fr 0 = (i : Int) ∧ to[i]? = some u := by
  unfold Tp.by at h
  by_cases hk : k = kind
  · rw [if_pos hk] at h
    by_cases h2 : 0 ≤ Tp.idx n fr 0
    · rw [if_pos h2] at h
      exact ⟨hk, (Tp.idx n fr 0).toNat, by omega, h⟩
    · rw [if_neg h2] at h; cases h
  · rw [if_neg hk] at h; cases h

set_option maxHeartbeats 2000000 in
set_option maxRecDepth 100000 in
theorem by_no (M : Nat) (kind : Int) (fv tv : Value) (fr : List Int) (to : List Tp) (K : Nat → Prop) (m : Nat) (s : Int) (w : World) (hr : Rep M kind fv tv fr to K m s w) (k n : Int) (v : Value) (hb : Tp.by kind fr to k n = none) :
    Calls Try.prog 99 #[.pointer (some ⟨M, 0, none⟩), .agg #[.int .i64 k, .int .i64 n, v]] w fun e w' => e = .returned (.tuple #[.agg #[.int .i64 0, .int .i64 0, .slice none 0 0], .bool false]) ∧ Below w.heap.size w w' := by
  have HB := Tp.by_none hr.len hb
  have hMl := hr.m.lt
  have c1 : ∀ wz, Below w.heap.size w wz → wz.cell? ⟨M, 1, none⟩ = some (.int .i64 kind) := fun wz hz => (hr.m.stays hz).rest 0 _ rfl
  have c2 : ∀ wz, Below w.heap.size w wz → wz.cell? ⟨M, 2, none⟩ = some fv := fun wz hz => (hr.m.stays hz).rest 1 _ rfl
  have d1 : ∀ o o', ((w.alloc o).alloc o').cell? ⟨M, 1, none⟩ = some (.int .i64 kind) := fun o o' => c1 _ (bl_alloc (bl_alloc (Below.refl _ _) _) _)
  have d2 : ∀ o o', ((w.alloc o).alloc o').cell? ⟨M, 2, none⟩ = some fv := fun o o' => c2 _ (bl_alloc (bl_alloc (Below.refl _ _) _) _)
  have hq : Hid (∀ wz, Below w.heap.size w wz → Calls Try.prog 111 #[fv, .int .i64 n] wz fun e w' => e = .returned (.int .i64 (Tp.idx n fr 0)) ∧ w' = wz) := fun wz hz => idxI_any wz fv fr n (hr.f.below hz).any
  obtain ⟨fa, fc, rfl, -⟩ := hr.f.form
  clear hb hr c1 c2
  rcases HB with h | ⟨h, h2⟩
  · have h1 : (k != kind) = true := by simpa using h
    clear h
    go_enter Try.func99, Try.ntmps99
    go_wp2
    go_quiet (fail)
    go_wp2
    refine bodyPost_ret (v := .tuple #[.agg #[.int .i64 0, .int .i64 0, .slice none 0 0], .bool false]) (by rw [results_cell_tmp (fn := Try.f99) (p := 4) (u := 5) (ty := 24) (by kernel_rfl)]; simp [go_sem]) rfl ?_
    exact ⟨rfl, by
      repeat' (first | exact Below.refl _ _ | with_reducible refine bl_alloc ?_ _ | with_reducible refine bl_dN ?_ _ | with_reducible refine bl_set _ _ ?_ ?_ | (simp; done))⟩
  · subst h
    rw [h2] at hq
    clear h2
    go_enter Try.func99, Try.ntmps99
    go_wp2
    go_quiet (fail)
    go_wp2
    have e1 : (((w.alloc (.cells #[.int .i64 k, .int .i64 n, v] 24)).alloc (.cells #[.int .i64 0, .int .i64 0, .slice none 0 0] 24)).drewN nq).cell? ⟨M, 2, none⟩ = some (.slice fa fr.length fc) := d2 _ _
    have e2 : (((w.alloc (.cells #[.int .i64 k, .int .i64 n, v] 24)).alloc (.cells #[.int .i64 0, .int .i64 0, .slice none 0 0] 24)).drewN nq).cell? ⟨w.heap.size, 1, none⟩ = some (.int .i64 n) := by simp [go_sem]
    have e3 : Arr (((w.alloc (.cells #[.int .i64 k, .int .i64 n, v] 24)).alloc (.cells #[.int .i64 0, .int .i64 0, .slice none 0 0] 24)).drewN nq) (w.heap.size + 1) 24 [.int .i64 0, .int .i64 0, .slice none 0 0] := ⟨by have := heap_alloc_at (w.alloc (.cells #[.int .i64 k, .int .i64 n, v] 24)) (.cells #[.int .i64 0, .int .i64 0, .slice none 0 0] 24); rw [size_alloc] at this; exact this⟩
    have e4 : Below w.heap.size w (((w.alloc (.cells #[.int .i64 k, .int .i64 n, v] 24)).alloc (.cells #[.int .i64 0, .int .i64 0, .slice none 0 0] 24)).drewN nq) := bl_dN (bl_alloc (bl_alloc (Below.refl _ _) _) _) _
    generalize (((w.alloc (.cells #[.int .i64 k, .int .i64 n, v] 24)).alloc (.cells #[.int .i64 0, .int .i64 0, .slice none 0 0] 24)).drewN nq) = W1 at e1 e2 e3 e4 ⊢
    have e5 := e3.cell
    have e6 := e3.frozen
    clear d1 d2 e3
    go_quiet (first | (go_at_call 111; refine Calls.quiet_of_same (hq.out _ (bl_dN e4 _))))
    go_wp2
    refine bodyPost_ret (v := .tuple #[.agg #[.int .i64 0, .int .i64 0, .slice none 0 0], .bool false]) (by rw [results_cell_tmp (fn := Try.f99) (p := 4) (u := 5) (ty := 24) (by kernel_rfl)]; simp [go_sem, e5]) rfl ?_
    exact ⟨rfl, by
      repeat' (first | exact e4 | with_reducible refine bl_alloc ?_ _ | with_reducible refine bl_dN ?_ _ | with_reducible refine bl_set _ _ ?_ ?_ | (simp; done))⟩

set_option maxHeartbeats 2000000 in
set_option maxRecDepth 100000 in
theorem by_yes0 (M : Nat) (k : Int) (fv : Value) (fr : List Int) (to : List Tp) (K : Nat → Prop) (m : Nat) (s : Int) (w : World) (tb to' tc : Nat) (hr : Rep M k fv (.slice (some ⟨tb, to', none⟩) to.length tc) fr to K m s w) (n : Int) (v : Value) (u : Tp) (i : Nat) (hi : Tp.idx n fr 0 = (i : Int)) (hil : i < to.length) (htm : to.length ≤ maxLen) (ua : Option Addr) (uc : Nat) (hbl : tb < w.heap.size)
    (x0 : w.cell? ⟨tb, to' + i * 3, none⟩ = some (.int .i64 u.k)) (x1 : w.cell? ⟨tb, to' + i * 3 + 1, none⟩ = some (.int .i64 u.n)) (x2 : w.cell? ⟨tb, to' + i * 3 + 2, none⟩ = some (.slice ua u.ks.length uc)) :
    Calls Try.prog 99 #[.pointer (some ⟨M, 0, none⟩), .agg #[.int .i64 k, .int .i64 n, v]] w fun e w' => e = .returned (.tuple #[.agg #[.int .i64 u.k, .int .i64 u.n, .slice ua u.ks.length uc], .bool true]) ∧ Below w.heap.size w w' := by
  have hMl := hr.m.lt
  have c1 : ∀ wz, Below w.heap.size w wz → wz.cell? ⟨M, 1, none⟩ = some (.int .i64 k) := fun wz hz => (hr.m.stays hz).rest 0 _ rfl
  have c2 : ∀ wz, Below w.heap.size w wz → wz.cell? ⟨M, 2, none⟩ = some fv := fun wz hz => (hr.m.stays hz).rest 1 _ rfl
  have c3 : ∀ wz, Below w.heap.size w wz → wz.cell? ⟨M, 3, none⟩ = some (.slice (some ⟨tb, to', none⟩) to.length tc) := fun wz hz => (hr.m.stays hz).rest 2 _ rfl
  have hq : Hid (∀ wz, Below w.heap.size w wz → Calls Try.prog 111 #[fv, .int .i64 n] wz fun e w' => e = .returned (.int .i64 (i : Int)) ∧ w' = wz) := fun wz hz => by rw [← hi]; exact idxI_any wz fv fr n (hr.f.below hz).any
  obtain ⟨fa, fc, rfl, -⟩ := hr.f.form
  have hil2 : (i : Int) < (to.length : Int) := by omega
  unfold maxLen at htm
  clear hr hi
  have d1 : ∀ o o', ((w.alloc o).alloc o').cell? ⟨M, 1, none⟩ = some (.int .i64 k) := fun o o' => c1 _ (bl_alloc (bl_alloc (Below.refl _ _) _) _)
  go_enter Try.func99, Try.ntmps99
  go_wp2
  go_quiet (fail)
  go_wp2
  have e2 : (((w.alloc (.cells #[.int .i64 k, .int .i64 n, v] 24)).alloc (.cells #[.int .i64 0, .int .i64 0, .slice none 0 0] 24)).drewN nq).cell? ⟨w.heap.size, 1, none⟩ = some (.int .i64 n) := by simp [go_sem]
  have e3 : Arr (((w.alloc (.cells #[.int .i64 k, .int .i64 n, v] 24)).alloc (.cells #[.int .i64 0, .int .i64 0, .slice none 0 0] 24)).drewN nq) (w.heap.size + 1) 24 [.int .i64 0, .int .i64 0, .slice none 0 0] := ⟨by have := heap_alloc_at (w.alloc (.cells #[.int .i64 k, .int .i64 n, v] 24)) (.cells #[.int .i64 0, .int .i64 0, .slice none 0 0] 24); rw [size_alloc] at this; exact this⟩
  have e4 : Below w.heap.size w (((w.alloc (.cells #[.int .i64 k, .int .i64 n, v] 24)).alloc (.cells #[.int .i64 0, .int .i64 0, .slice none 0 0] 24)).drewN nq) := bl_dN (bl_alloc (bl_alloc (Below.refl _ _) _) _) _
  generalize (((w.alloc (.cells #[.int .i64 k, .int .i64 n, v] 24)).alloc (.cells #[.int .i64 0, .int .i64 0, .slice none 0 0] 24)).drewN nq) = W1 at e2 e3 e4 ⊢
  have e5 := e3.cell
  have e6 := e3.frozen
  have e7 := c2 W1 e4
  have e8 := c3 W1 e4
  have y0 := (e4.cell (p := ⟨tb, to' + i * 3, none⟩) hbl).trans x0
  have y1 := (e4.cell (p := ⟨tb, to' + i * 3 + 1, none⟩) hbl).trans x1
  have y2 := (e4.cell (p := ⟨tb, to' + i * 3 + 2, none⟩) hbl).trans x2
  have hne : ¬ tb = w.heap.size + 1 := by omega
  clear d1 e3 c1 c2 c3 x0 x1 x2
  go_quiet (first | (go_at_call 111; refine Calls.quiet_of_same (hq.out _ (bl_dN e4 _))))
  go_wp2
  refine bodyPost_ret (v := .tuple #[.agg #[.int .i64 u.k, .int .i64 u.n, .slice ua u.ks.length uc], .bool true]) (by rw [results_cell_tmp (fn := Try.f99) (p := 4) (u := 5) (ty := 24) (by kernel_rfl)]; simp [go_sem, e5]) rfl ?_
  exact ⟨rfl, by
    repeat' (first | exact e4 | with_reducible refine bl_alloc ?_ _ | with_reducible refine bl_dN ?_ _ | with_reducible refine bl_set _ _ ?_ ?_ | (simp; done))⟩
theorem by_yes (M : Nat) (kind : Int) (fv tv : Value) (fr : List Int) (to : List Tp) (K : Nat → Prop) (m : Nat) (s : Int) (w : World) (hr : Rep M kind fv tv fr to K m s w) (k n : Int) (v : Value) (u : Tp) (hb : Tp.by kind fr to k n = some u) :
    ∃ a c, TAt w K m [.int .i64 u.k, .int .i64 u.n, .slice a u.ks.length c] u ∧ ∀ wz, Below w.heap.size w wz → Calls Try.prog 99 #[.pointer (some ⟨M, 0, none⟩), .agg #[.int .i64 k, .int .i64 n, v]] wz fun e w' => e = .returned (.tuple #[.agg #[.int .i64 u.k, .int .i64 u.n, .slice a u.ks.length c], .bool true]) ∧ Below wz.heap.size wz w' := by
  obtain ⟨rfl, i, hi, hu⟩ := Tp.by_some hb
  have hil : i < to.length := (List.getElem?_eq_some_iff.1 hu).1
  obtain ⟨ta, tc, htv, htm⟩ := hr.t.form
  subst htv
  obtain ⟨tb, to', rfl⟩ : ∃ b o, ta = some ⟨b, o, none⟩ := by
    rcases hr.t with ⟨b, o, c, hv, -⟩ | ⟨h0, -⟩
    · injection hv with e1 e2 e3; exact ⟨b, o, e1⟩
    · rw [h0] at hil; exact absurd hil (Nat.not_lt_zero _)
  obtain ⟨vu, hT, x0, x1, x2, -, hbl⟩ := hr.t.elem hu
  obtain ⟨ua, uc, ex⟩ := hT.form
  simp only [List.cons.injEq, and_true, true_and] at ex
  subst ex
  refine ⟨ua, uc, hT, fun wz hz => ?_⟩
  have hr2 : Rep M k fv (.slice (some ⟨tb, to', none⟩) to.length tc) fr to K m s wz := ⟨hr.m.stays hz, hr.f.below hz, hr.t.below hz, hr.len⟩
  exact by_yes0 M k fv fr to K m s wz tb to' tc hr2 n v u i hi hil htm ua uc (Nat.lt_of_lt_of_le hbl hz.size) ((hz.cell (p := ⟨tb, to' + i * 3, none⟩) hbl).trans x0) ((hz.cell (p := ⟨tb, to' + i * 3 + 1, none⟩) hbl).trans x1) ((hz.cell (p := ⟨tb, to' + i * 3 + 2, none⟩) hbl).trans x2)
end Go.Proofs.Ytknlpeloaapaiaa
