/- TypesTwice: the walk. -/
import Derived.Test.YtbdohoebpaiecaaDoorTpS3
import Derived.Test.YtbdohoebpaiecaaDoorTpTw
import Derived.Test.YtbdohoebpaiecaaDoorTpZ
import Derived.Test.YtbdohoebpaiecaaDoorTpL
import Derived.Test.YtbdohoebpaiecaaDoorTpY
import Derived.Test.YtbdohoebpaiecaaDoorTpO
import Derived.Test.YtbdohoebpaiecaaDoorTpG
namespace Go.Proofs.YtbdohoebpaiecaaDoor
open Go.RowKit
set_option linter.unusedVariables false
set_option linter.unusedSimpArgs false

theorem Ls.row (w : World) (l : List Int) (hl : l.length ≤ maxLen) (E : TypeId) : Ls (w.alloc (.cells (l.map (.int .i64)).toArray E)) Any (.slice (some ⟨w.heap.size, 0, none⟩) l.length l.length) l := by
  refine .inl ⟨w.heap.size, 0, l.length, rfl, trivial, Nat.le_refl _, hl, fun j x hx => ?_⟩
  rw [cell_at (heap_alloc_at _ _), Nat.zero_add]
  simp [hx]
theorem TAtL.row (w : World) (n : Nat) (l : List Tp) (cs : List Value) (E : TypeId) (hl : l.length ≤ maxLen) (h : ∀ (i : Nat) x, l[i]? = some x → ∃ vs, TAt w Any n vs x ∧ Seg cs (i * 3) vs) : TAtL (w.alloc (.cells cs.toArray E)) Any n (.slice (some ⟨w.heap.size, 0, none⟩) l.length l.length) l := by
  refine .inl ⟨w.heap.size, 0, l.length, rfl, trivial, Nat.le_refl _, hl, fun i x hx => ?_⟩
  obtain ⟨vs, h1, h2⟩ := h i x hx
  refine ⟨vs, fun j y hy => ?_, h1.below (bl_alloc (Below.refl _ _) _)⟩
  rw [cell_at (heap_alloc_at _ _), Nat.zero_add]
  have := h2 j y hy
  simpa using this
theorem seg_one (a b c : Value) : Seg [a, b, c] 0 [a, b, c] := fun j x hx => by rw [Nat.zero_add]; exact hx
theorem seg_two0 (a b c d e f : Value) : Seg [a, b, c, d, e, f] 0 [a, b, c] := fun j x hx => by
  match j, hx with
  | 0, hx => exact hx
  | 1, hx => exact hx
  | 2, hx => exact hx
  | j + 3, hx => simp at hx
theorem seg_two1 (a b c d e f : Value) : Seg [a, b, c, d, e, f] 3 [d, e, f] := fun j x hx => by
  match j, hx with
  | 0, hx => exact hx
  | 1, hx => exact hx
  | 2, hx => exact hx
  | j + 3, hx => simp at hx
theorem Tp.repl_cases (kind : Int) (fr : List Int) (to : List Tp) (t : Tp) (h : fr.length = to.length) : (Tp.repl kind fr to t = (Tp.put kind fr to t, 0)) ∨ Tp.repl kind fr to t = (Tp.zero, 3) := by
  unfold Tp.repl
  rw [if_neg (by simp [h])]
  split
  · exact .inr rfl
  · exact .inl rfl

end Go.Proofs.YtbdohoebpaiecaaDoor