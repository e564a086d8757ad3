/- New memory: Clone, renewed. -/
import Derived.Laws.AppendOwn
import Derived.Laws.AppendOwnNone
import Derived.Lib.SliceRun
import Derived.Deep.RegionHeld
import Derived.Test.YtknlpeloaapaiaaTpI
namespace Go.Proofs.Ytknlpeloaapaiaa
open Go.RowKit
set_option linter.unusedVariables false
set_option linter.unusedSimpArgs false

theorem info_parts0 {P : Program} {t : TypeId} {z : Value} {s b : Nat} (h : (P.info? t).map (fun i => (i.zero, i.size, i.bytes)) = some (some z, s, b)) : ∃ i, P.info? t = some i ∧ i.zero = some z ∧ i.size = s ∧ i.bytes = b := by
  cases hi : P.info? t with
  | none => rw [hi] at h; cases h
  | some i =>
    rw [hi] at h
    simp only [Option.map_some, Option.some.injEq, Prod.mk.injEq] at h
    exact ⟨i, rfl, h.1, h.2.1, h.2.2⟩
theorem row_new (w : World) (t : TypeId) (k : Nat) : (w.alloc (.cells #[] t)).ownsRow w.heap.size t k (.slice (some ⟨w.heap.size, 0, none⟩) 0 0) 0 [] := by
  refine ⟨(Nat.zero_mul k).symm, .inr ⟨w.heap.size, 0, #[], rfl, Nat.le_refl _, ?_, Nat.le_refl _, Nat.zero_le _, (Nat.zero_mul k).symm, by simp⟩⟩
  show (w.heap.push _)[w.heap.size]? = _
  simp
/-- What Clone gives of n things of k cells each, whose cells hold these values. -/
def Cloned (w : World) (e : TypeId) (k n : Nat) (vals : List Value) (x : Ending) (w' : World) : Prop := ∃ v', x = .returned v' ∧ w'.ownsRow w.heap.size e k v' n vals ∧ Below w.heap.size w w'

theorem info_clT : (Try.prog.info? 24).map (fun i => (i.zero, i.size, i.bytes)) = some (some (.agg #[.int .i64 0, .int .i64 0, .slice none 0 0]), 3, 40) := by kernel_rfl
set_option maxHeartbeats 2000000 in
set_option maxRecDepth 100000 in
theorem clone_rawT (w : World) (a : Addr) (n c : Nat) (vals : List Value) (hl : vals.length = n * 3) (hc : ∀ (j : Nat) u, vals[j]? = some u → w.cell? (a.add j) = some u) (h1 : ∀ u ∈ vals, u.oneCell' = true) (hn : n ≤ 1048576) :
    Calls Try.prog 112 #[.slice (some a) n c] w (Cloned w 24 3 n vals) := by
  obtain ⟨i0, hi, hz0, hz1, hz2⟩ := info_parts0 info_clT
  have row0 := row_new w 24 3
  have q22 : ∀ (w : World) (a : Option Addr) (n c n' c' : Nat), (binOp .eql 22 (.slice a n c) (.slice none n' c')).run Try.prog w = .ok (.bool a.isNone) w := fun w a n c n' c' => Lib.run_eql_slice_nil w _ _ a n c n' c' Try.underlying22
  have A : Hid (∀ (j : Nat) u, vals[j]? = some u → w.cell? (a.add j) = some u) := hc
  clear hc
  go_enter Try.func112, Try.ntmps112
  go_wp2_with (at_builtin; refine wpList_append_own _ rfl _ _ 22 rfl w.heap.size 24 i0 (.agg #[.int .i64 0, .int .i64 0, .slice none 0 0]) 3 40 Try.underlying22 hi hz0 hz1 hz2 rfl (by decide) _ _ _ rfl row0 a n c vals rfl hl ?qc2 h1 ?qc4 ?qc5 ?qc6 ?_)
  case qc2 =>
    intro j u hj
    exact Lib.cell?_alloc_some _ (A.out j u hj)
  case qc4 => unfold maxLen; omega
  case qc5 => omega
  case qc6 => simp
  intro v' w1 hown hgrow hnil
  go_wp2
  go_ret
  exact ⟨v', rfl, by simpa using hown, ((Below.refl _ w).alloc (Nat.le_refl _) _).grown hgrow (by simp) (by intro k hk; simp [Value.ownBlock] at hk; omega)⟩
set_option maxHeartbeats 1000000 in
theorem clone_nilT (w : World) (n c : Nat) : Calls Try.prog 112 #[.slice none n c] w fun e w' => e = .returned (.slice none 0 0) ∧ w' = w := by
  have q22 : ∀ (w : World) (a : Option Addr) (n c n' c' : Nat), (binOp .eql 22 (.slice a n c) (.slice none n' c')).run Try.prog w = .ok (.bool a.isNone) w := fun w a n c n' c' => Lib.run_eql_slice_nil w _ _ a n c n' c' Try.underlying22
  go_enter Try.func112, Try.ntmps112
  go_wp2
  go_ret
  exact ⟨rfl, rfl⟩

theorem TAtL.old {w : World} {K : Nat → Prop} {n : Nat} {v : Value} {l : List Tp} (h : TAtL w K n v l) : TAtL w (fun b => b < w.heap.size) n v l := by
  rcases h with ⟨b, o, c, hv, hb, hl, hm, hc⟩ | h
  · cases l with
    | nil => exact .inr ⟨rfl, _, _, hv⟩
    | cons x r =>
      refine .inl ⟨b, o, c, hv, ?_, hl, hm, fun i y hy => ?_⟩
      · obtain ⟨vs', g1, g2⟩ := hc 0 x rfl
        obtain ⟨a, c2, rfl⟩ := g2.form
        exact World.block_lt_of_cell? w _ (g1 0 _ rfl)
      · obtain ⟨vs', g1, g2⟩ := hc i y hy
        exact ⟨vs', g1, TAt.old g2⟩
  · exact .inr h
theorem bl_dN {w w1 : World} (h : Below w.heap.size w w1) (n : Nat) : Below w.heap.size w (w1.drewN n) := bl_tr h (bl_drewN _ _)
theorem bl_dr {w w1 : World} (h : Below w.heap.size w w1) : Below w.heap.size w w1.drew := h.drew
theorem bl_set {w w1 : World} (p : Addr) (u : Value) (h : Below w.heap.size w w1) (hp : w.heap.size ≤ p.block) : Below w.heap.size w (w1.setCell p u) := h.setCell hp u

/-- A block that holds these values, and may be written. -/
structure Arr (w : World) (g : Nat) (T : TypeId) (cur : List Value) : Prop where
  b : w.heap[g]? = some (.cells cur.toArray T (0, 0))
theorem Arr.lt {w : World} {g : Nat} {T : TypeId} {cur : List Value} (h : Arr w g T cur) : g < w.heap.size := by
  rcases Nat.lt_or_ge g w.heap.size with h' | h'
  · exact h'
  · have := h.b; simp [Array.getElem?_eq_none h'] at this
theorem Arr.cell {w : World} {g : Nat} {T : TypeId} {cur : List Value} (h : Arr w g T cur) (j : Nat) : w.cell? ⟨g, j, none⟩ = cur[j]? := by rw [cell_at h.b]; simp
theorem Arr.frozen {w : World} {g : Nat} {T : TypeId} {cur : List Value} (h : Arr w g T cur) (j : Nat) : w.frozen? ⟨g, j, none⟩ = false := by simp [World.frozen?, h.b]
theorem Arr.set {w : World} {g : Nat} {T : TypeId} {cur : List Value} (h : Arr w g T cur) (j : Nat) (u : Value) : Arr (w.setCell ⟨g, j, none⟩ u) g T (cur.set j u) := by
  constructor
  simp [World.setCell, Array.getElem?_modify, h.b]
theorem Arr.stays {w w' : World} {g : Nat} {T : TypeId} {cur : List Value} (h : Arr w g T cur) (hb : Below w.heap.size w w') : Arr w' g T cur := ⟨by rw [hb.block g h.lt]; exact h.b⟩
theorem Arr.other {w : World} {g : Nat} {T : TypeId} {cur : List Value} (h : Arr w g T cur) {p : Addr} (hp : g ≠ p.block) (u : Value) : Arr (w.setCell p u) g T cur := ⟨by rw [Below.heap_setCell _ _ _ _ hp]; exact h.b⟩
/-- vs stands in cur from o on. -/
def Seg (cur : List Value) (o : Nat) (vs : List Value) : Prop := ∀ (j : Nat) v, vs[j]? = some v → cur[o + j]? = some v
theorem Seg.cells {w : World} {g : Nat} {T : TypeId} {cur : List Value} (h : Arr w g T cur) {o : Nat} {vs : List Value} (hs : Seg cur o vs) : Cells w g o vs := fun j v hv => (h.cell _).trans (hs j v hv)
theorem Keeps.set {K : Nat → Prop} {w : World} {p : Addr} (hp : ¬ K p.block) (u : Value) : Keeps K w (w.setCell p u) := fun b o v hb hv => by
  rw [World.cell?_of_block (w := w) (Below.heap_setCell _ _ _ _ (fun e => hp (show K p.block from e ▸ hb)))]
  exact hv
end Go.Proofs.Ytknlpeloaapaiaa
