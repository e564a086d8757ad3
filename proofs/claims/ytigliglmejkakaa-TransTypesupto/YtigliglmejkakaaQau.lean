/- The program's makers of target types: leaf, variable, both, binder. -/
import Derived.Test.YtigliglmejkakaaQat
namespace Go.Proofs.Ytigliglmejkakaa
open Go.RowKit
set_option linter.unusedVariables false
set_option linter.unusedSimpArgs false

/-- What a call that makes one target type answers. -/
def TxAns (w : World) (y : Tgt.Tt) (e : Ending) (w' : World) : Prop := ∃ a' c' a c N, e = .returned (.agg #[.int .i64 y.k, .int .i64 y.n, .slice a' y.ls.length c', .slice a y.ks.length c]) ∧ Tgt.TAt w' (fun b => w.heap.size ≤ b) N [.int .i64 y.k, .int .i64 y.n, .slice a' y.ls.length c', .slice a y.ks.length c] y ∧ Below w.heap.size w w'

set_option maxRecDepth 100000 in
theorem leaf_any (w : World) (k : Int) : Calls Try.prog 45 #[.int .i64 k] w fun e w' => e = .returned (.agg #[.int .i64 k, .int .i64 0, .slice none 0 0, .slice none 0 0]) ∧ Below w.heap.size w w' := by
  go_enter Try.func45, Try.ntmps45
  go_wp2
  refine bodyPost_ret (v := .agg #[.int .i64 k, .int .i64 0, .slice none 0 0, .slice none 0 0]) (by rw [results_cell1 (fn := Try.f45) (p := 2) (ty := 30) (by kernel_rfl)]; simp [go_sem]) rfl ?_
  exact ⟨rfl, bl_alloc (Below.refl _ _) _⟩

set_option maxRecDepth 100000 in
theorem variable_any (w : World) (n : Int) : Calls Try.prog 38 #[.int .i64 n] w fun e w' => e = .returned (.agg #[.int .i64 6, .int .i64 n, .slice none 0 0, .slice none 0 0]) ∧ Below w.heap.size w w' := by
  go_enter Try.func38, Try.ntmps38
  go_wp2
  refine bodyPost_ret (v := .agg #[.int .i64 6, .int .i64 n, .slice none 0 0, .slice none 0 0]) (by rw [results_cell1 (fn := Try.f38) (p := 2) (ty := 30) (by kernel_rfl)]; simp [go_sem]) rfl ?_
  exact ⟨rfl, bl_alloc (Below.refl _ _) _⟩

set_option maxHeartbeats 1000000 in
set_option maxRecDepth 100000 in
theorem both_any (w : World) (K : Nat → Prop) (N : Nat) (k : Int) (x y : Tgt.Tt) (a1 a2 b1 b2 : Option Addr) (c1 c2 d1 d2 : Nat) (hk : Tgt.R64 k) (hx : Tgt.TAt w K N [.int .i64 x.k, .int .i64 x.n, .slice a1 x.ls.length c1, .slice a2 x.ks.length c2] x) (hy : Tgt.TAt w K N [.int .i64 y.k, .int .i64 y.n, .slice b1 y.ls.length d1, .slice b2 y.ks.length d2] y) (hK : ∀ b, w.heap.size ≤ b → K b) : Calls Try.prog 39 #[.int .i64 k, .agg #[.int .i64 x.k, .int .i64 x.n, .slice a1 x.ls.length c1, .slice a2 x.ks.length c2], .agg #[.int .i64 y.k, .int .i64 y.n, .slice b1 y.ls.length d1, .slice b2 y.ks.length d2]] w fun e w' => ∃ a c, e = .returned (.agg #[.int .i64 k, .int .i64 0, .slice none 0 0, .slice a 2 c]) ∧ Tgt.TAt w' K (N + 1) [.int .i64 k, .int .i64 0, .slice none 0 0, .slice a 2 c] (.mk k 0 [] [x, y]) ∧ Below w.heap.size w w' := by
  have HX := hid hx
  have HY := hid hy
  have HK := hid hK
  have HK64 := hid hk
  clear hx hy hK hk
  go_enter Try.func39, Try.ntmps39
  go_wp2
  refine bodyPost_ret (v := .agg #[.int .i64 k, .int .i64 0, .slice none 0 0, .slice (some ⟨w.heap.size + 3, 0, none⟩) 2 2]) (by rw [results_cell1 (fn := Try.f39) (p := 6) (ty := 30) (by kernel_rfl)]; simp [go_sem]) rfl ?_
  refine ⟨_, _, rfl, ?_, ?_⟩
  · have hb : Below w.heap.size w _ := bl_alloc (bl_alloc (bl_alloc (bl_alloc (Below.refl w.heap.size w) (.cells #[.int .i64 x.k, .int .i64 x.n, .slice a1 x.ls.length c1, .slice a2 x.ks.length c2] 30)) (.cells #[.int .i64 y.k, .int .i64 y.n, .slice b1 y.ls.length d1, .slice b2 y.ks.length d2] 30)) (.cells #[.int .i64 k, .int .i64 0, .slice none 0 0, .slice (some ⟨w.heap.size + 1 + 1 + 1, 0, none⟩) 2 2] 30)) (.cells #[.int .i64 x.k, .int .i64 x.n, .slice a1 x.ls.length c1, .slice a2 x.ks.length c2, .int .i64 y.k, .int .i64 y.n, .slice b1 y.ls.length d1, .slice b2 y.ks.length d2] 30)
    have hh := heap_alloc_at (((w.alloc (.cells #[.int .i64 x.k, .int .i64 x.n, .slice a1 x.ls.length c1, .slice a2 x.ks.length c2] 30)).alloc (.cells #[.int .i64 y.k, .int .i64 y.n, .slice b1 y.ls.length d1, .slice b2 y.ks.length d2] 30)).alloc (.cells #[.int .i64 k, .int .i64 0, .slice none 0 0, .slice (some ⟨w.heap.size + 1 + 1 + 1, 0, none⟩) 2 2] 30)) (.cells #[.int .i64 x.k, .int .i64 x.n, .slice a1 x.ls.length c1, .slice a2 x.ks.length c2, .int .i64 y.k, .int .i64 y.n, .slice b1 y.ls.length d1, .slice b2 y.ks.length d2] 30)
    rw [size_alloc, size_alloc, size_alloc] at hh
    exact tat_two HK64.out (⟨by omega, by omega⟩ : Tgt.R64 0) (HX.out.below hb) (HY.out.below hb) rfl (HK.out _ (by omega)) (fun j u hu => by rw [Nat.zero_add, cell_at hh]; simpa using hu)
  · exact bl_alloc (bl_alloc (bl_alloc (bl_alloc (Below.refl _ _) _) _) _) _

set_option maxHeartbeats 1000000 in
set_option maxRecDepth 100000 in
theorem binder_any (w : World) (K : Nat → Prop) (N : Nat) (k n : Int) (x : Tgt.Tt) (a1 a2 : Option Addr) (c1 c2 : Nat) (hk : Tgt.R64 k) (hn : Tgt.R64 n) (hx : Tgt.TAt w K N [.int .i64 x.k, .int .i64 x.n, .slice a1 x.ls.length c1, .slice a2 x.ks.length c2] x) (hK : ∀ b, w.heap.size ≤ b → K b) : Calls Try.prog 28 #[.int .i64 k, .int .i64 n, .agg #[.int .i64 x.k, .int .i64 x.n, .slice a1 x.ls.length c1, .slice a2 x.ks.length c2]] w fun e w' => ∃ a c, e = .returned (.agg #[.int .i64 k, .int .i64 n, .slice none 0 0, .slice a 1 c]) ∧ Tgt.TAt w' K (N + 1) [.int .i64 k, .int .i64 n, .slice none 0 0, .slice a 1 c] (.mk k n [] [x]) ∧ Below w.heap.size w w' := by
  have HX := hid hx
  have HK := hid hK
  have HK64 := hid hk
  have HN64 := hid hn
  clear hx hK hk hn
  go_enter Try.func28, Try.ntmps28
  go_wp2
  refine bodyPost_ret (v := .agg #[.int .i64 k, .int .i64 n, .slice none 0 0, .slice (some ⟨w.heap.size + 2, 0, none⟩) 1 1]) (by rw [results_cell1 (fn := Try.f28) (p := 6) (ty := 30) (by kernel_rfl)]; simp [go_sem]) rfl ?_
  refine ⟨_, _, rfl, ?_, ?_⟩
  · have hb : Below w.heap.size w _ := bl_alloc (bl_alloc (bl_alloc (Below.refl w.heap.size w) (.cells #[.int .i64 x.k, .int .i64 x.n, .slice a1 x.ls.length c1, .slice a2 x.ks.length c2] 30)) (.cells #[.int .i64 k, .int .i64 n, .slice none 0 0, .slice (some ⟨w.heap.size + 1 + 1, 0, none⟩) 1 1] 30)) (.cells #[.int .i64 x.k, .int .i64 x.n, .slice a1 x.ls.length c1, .slice a2 x.ks.length c2] 30)
    have hh := heap_alloc_at ((w.alloc (.cells #[.int .i64 x.k, .int .i64 x.n, .slice a1 x.ls.length c1, .slice a2 x.ks.length c2] 30)).alloc (.cells #[.int .i64 k, .int .i64 n, .slice none 0 0, .slice (some ⟨w.heap.size + 1 + 1, 0, none⟩) 1 1] 30)) (.cells #[.int .i64 x.k, .int .i64 x.n, .slice a1 x.ls.length c1, .slice a2 x.ks.length c2] 30)
    rw [size_alloc, size_alloc] at hh
    exact tat_wrap HK64.out HN64.out (HX.out.below hb) (HK.out _ (by omega)) (fun j u hu => by rw [Nat.zero_add, cell_at hh]; simpa using hu)
  · exact bl_alloc (bl_alloc (bl_alloc (Below.refl _ _) _) _) _
end Go.Proofs.Ytigliglmejkakaa
