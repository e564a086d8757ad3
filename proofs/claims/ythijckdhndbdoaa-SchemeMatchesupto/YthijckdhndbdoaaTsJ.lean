/- What the statements make by themselves: gen, meta, int0, fn. -/
import Derived.Test.YthijckdhndbdoaaTpZ
import Derived.Test.YthijckdhndbdoaaTsP
namespace Go.Proofs.Ythijckdhndbdoaa
open Go.RowKit
set_option linter.unusedVariables false
set_option linter.unusedSimpArgs false

theorem TAt.leaf12 (w : World) (K : Nat → Prop) (k n : Int) (hk : R64 k) (hn : R64 n) : TAt w K 1 [.int .i64 k, .int .i64 n, .slice none 0 0] (.mk k n []) := ⟨_, rfl, hk, hn, .inr ⟨rfl, _, _, rfl⟩⟩
theorem gen12 (w : World) (n : Int) : Calls Try.prog 43 #[.int .i64 n] w fun e w' => e = .returned (.agg #[.int .i64 8, .int .i64 n, .slice none 0 0]) ∧ Below w.heap.size w w' := by
  go_enter Try.func43, Try.ntmps43
  go_wp2
  refine bodyPost_ret (v := .agg #[.int .i64 8, .int .i64 n, .slice none 0 0]) (by rw [results_cell1 (fn := Try.f43) (p := 2) (ty := 24) (by kernel_rfl)]; simp [go_sem]) rfl ?_
  exact ⟨rfl, by repeat' (first | exact Below.refl _ _ | with_reducible refine bl_alloc ?_ _ | with_reducible refine bl_set _ _ ?_ ?_ | (simp; done))⟩
theorem meta12 (w : World) (n : Int) : Calls Try.prog 42 #[.int .i64 n] w fun e w' => e = .returned (.agg #[.int .i64 7, .int .i64 n, .slice none 0 0]) ∧ Below w.heap.size w w' := by
  go_enter Try.func42, Try.ntmps42
  go_wp2
  refine bodyPost_ret (v := .agg #[.int .i64 7, .int .i64 n, .slice none 0 0]) (by rw [results_cell1 (fn := Try.f42) (p := 2) (ty := 24) (by kernel_rfl)]; simp [go_sem]) rfl ?_
  exact ⟨rfl, by repeat' (first | exact Below.refl _ _ | with_reducible refine bl_alloc ?_ _ | with_reducible refine bl_set _ _ ?_ ?_ | (simp; done))⟩
theorem int012 (w : World) : Calls Try.prog 44 #[] w fun e w' => e = .returned (.agg #[.int .i64 1, .int .i64 0, .slice none 0 0]) ∧ Below w.heap.size w w' := by
  go_enter Try.func44, Try.ntmps44
  go_wp2
  refine bodyPost_ret (v := .agg #[.int .i64 1, .int .i64 0, .slice none 0 0]) (by rw [results_cell1 (fn := Try.f44) (p := 0) (ty := 24) (by kernel_rfl)]; simp [go_sem]) rfl ?_
  exact ⟨rfl, by repeat' (first | exact Below.refl _ _ | with_reducible refine bl_alloc ?_ _ | with_reducible refine bl_set _ _ ?_ ?_ | (simp; done))⟩
/-- A list of two types, laid in a new block. -/
theorem TAtL.pair12 {w : World} {K : Nat → Prop} {n m : Nat} {a b : Tp} {a1 : Option Addr} {c1 : Nat} {a2 : Option Addr} {c2 : Nat} (ha : TAt w K n [.int .i64 a.k, .int .i64 a.n, .slice a1 a.ks.length c1] a) (hb : TAt w K m [.int .i64 b.k, .int .i64 b.n, .slice a2 b.ks.length c2] b) (T : TypeId) (hK : K w.heap.size) :
    TAtL (w.alloc (.cells #[.int .i64 a.k, .int .i64 a.n, .slice a1 a.ks.length c1, .int .i64 b.k, .int .i64 b.n, .slice a2 b.ks.length c2] T)) K (max n m) (.slice (some ⟨w.heap.size, 0, none⟩) 2 2) [a, b] := by
  have hh := heap_alloc_at w (.cells #[.int .i64 a.k, .int .i64 a.n, .slice a1 a.ks.length c1, .int .i64 b.k, .int .i64 b.n, .slice a2 b.ks.length c2] T)
  have hbl : Below w.heap.size w (w.alloc (.cells #[.int .i64 a.k, .int .i64 a.n, .slice a1 a.ks.length c1, .int .i64 b.k, .int .i64 b.n, .slice a2 b.ks.length c2] T)) := bl_alloc (Below.refl _ _) _
  refine .inl ⟨w.heap.size, 0, 2, rfl, hK, (show 2 ≤ 2 by decide), (show 2 ≤ maxLen by decide), fun i x hx => ?_⟩
  match i, hx with
  | 0, hx =>
    simp at hx; subst hx
    refine ⟨_, fun j v hv => ?_, (ha.below hbl).le (Nat.le_max_left _ _)⟩
    match j, hv with
    | 0, hv => simp at hv; subst hv; rw [cell_at hh]; rfl
    | 1, hv => simp at hv; subst hv; rw [cell_at hh]; rfl
    | 2, hv => simp at hv; subst hv; rw [cell_at hh]; rfl
    | j + 3, hv => simp at hv
  | 1, hx =>
    simp at hx; subst hx
    refine ⟨_, fun j v hv => ?_, (hb.below hbl).le (Nat.le_max_right _ _)⟩
    match j, hv with
    | 0, hv => simp at hv; subst hv; rw [cell_at hh]; rfl
    | 1, hv => simp at hv; subst hv; rw [cell_at hh]; rfl
    | 2, hv => simp at hv; subst hv; rw [cell_at hh]; rfl
    | j + 3, hv => simp at hv
  | i + 2, hx => simp at hx

set_option maxHeartbeats 1000000 in
set_option maxRecDepth 100000 in
theorem fn12 (w : World) (n m : Nat) (va vb : List Value) (a b : Tp) (ha : TAt w Any n va a) (hb : TAt w Any m vb b) :
    Calls Try.prog 41 #[.agg va.toArray, .agg vb.toArray] w fun e w' => ∃ g : Nat, e = .returned (.agg #[.int .i64 4, .int .i64 0, .slice (some ⟨g, 0, none⟩) 2 2]) ∧ TAt w' Any (max n m + 1) [.int .i64 4, .int .i64 0, .slice (some ⟨g, 0, none⟩) 2 2] (.mk 4 0 [a, b]) ∧ Below w.heap.size w w' := by
  obtain ⟨a1, c1, rfl⟩ := ha.form
  obtain ⟨a2, c2, rfl⟩ := hb.form
  have HA : Hid _ := ha
  have HB : Hid _ := hb
  clear ha hb
  go_enter Try.func41, Try.ntmps41
  go_wp2
  refine bodyPost_ret (v := .agg #[.int .i64 4, .int .i64 0, .slice (some ⟨w.heap.size + 1 + 1 + 1, 0, none⟩) 2 2]) (by rw [results_cell1 (fn := Try.f41) (p := 4) (ty := 24) (by kernel_rfl)]; simp [go_sem]) rfl ?_
  generalize hW : (((w.alloc (.cells #[.int .i64 a.k, .int .i64 a.n, .slice a1 a.ks.length c1] 24)).alloc (.cells #[.int .i64 b.k, .int .i64 b.n, .slice a2 b.ks.length c2] 24)).alloc (.cells #[.int .i64 4, .int .i64 0, .slice (some ⟨w.heap.size + 1 + 1 + 1, 0, none⟩) 2 2] 24)) = W3
  have hb3 : Below w.heap.size w W3 := by rw [← hW]; exact bl_alloc (bl_alloc (bl_alloc (Below.refl _ _) _) _) _
  have hs : W3.heap.size = w.heap.size + 1 + 1 + 1 := by rw [← hW, size_alloc, size_alloc, size_alloc]
  have := TAtL.pair12 (w := W3) (HA.out.below hb3) (HB.out.below hb3) 24 trivial
  rw [hs] at this
  exact ⟨_, rfl, ⟨_, rfl, (show R64 4 from ⟨by decide, by decide⟩), (show R64 0 from ⟨by decide, by decide⟩), this⟩, bl_alloc hb3 _⟩
end Go.Proofs.Ythijckdhndbdoaa
