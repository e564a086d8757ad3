/- The law's Ints: one list of numbers is itself. -/
import Derived.Test.YtgnmgooljcgfiaaDoorTpI
import Derived.Test.YtgnmgooljcgfiaaDoorTpN
import Derived.Test.YtgnmgooljcgfiaaDoorTpB
namespace Go.Proofs.YtgnmgooljcgfiaaDoor
open Go.RowKit
set_option linter.unusedVariables false
set_option linter.unusedSimpArgs false

set_option maxHeartbeats 1000000 in
set_option maxRecDepth 100000 in
theorem ints_any (w : World) (v u : Value) (l : List Int) (h : Ls w Any v l) (h' : Ls w Any u l) : Calls Tryd.prog 10 #[v, u] w fun e w' => e = .returned (.bool true) ∧ Below w.heap.size w w' := by
  obtain ⟨a, c, rfl, hm⟩ := h.form
  obtain ⟨a', c', rfl, -⟩ := h'.form
  unfold maxLen at hm
  have H : Hid (Ls w Any (.slice a l.length c) l) := h
  have H' : Hid (Ls w Any (.slice a' l.length c') l) := h'
  clear h h'
  go_enter Tryd.func10, Tryd.ntmps10
  go_wp2
  go_loopw [5] (fun v wr => ∃ k : Nat, v = .int .i64 k ∧ k ≤ l.length ∧ Below w.heap.size w wr) (fun v _ => l.length - (intOf v).toNat)
  case atStart => exact ⟨0, rfl, Nat.zero_le _, Below.refl _ _⟩
  case round =>
    obtain ⟨k, rfl, hk, hB⟩ := hrel
    by_cases hlt : k < l.length
    · obtain ⟨b, o, _, hv, -, -, -, hl⟩ := (H.out.below hB).resolve_right (fun h => by rw [h.1] at hlt; exact absurd hlt (Nat.not_lt_zero _))
      obtain ⟨b', o', _, hv', -, -, -, hl'⟩ := (H'.out.below hB).resolve_right (fun h => by rw [h.1] at hlt; exact absurd hlt (Nat.not_lt_zero _))
      injection hv with e1 e2 e3
      injection hv' with e1' e2' e3'
      subst e1
      subst e1'
      obtain ⟨x, hx⟩ : ∃ x, l[k]? = some x := ⟨_, List.getElem?_eq_getElem hlt⟩
      have hc := hl k x hx
      have hc' := hl' k x hx
      clear hl hl' hx H H' e2 e3 e2' e3'
      go_wp2
      go_quiet (fail)
      go_wp2
      go_roundw
      case rel => exact ⟨k + 1, by go_num, by omega, bl_dN hB _⟩
      case measure => simp [intOf]; omega
    · clear H H'
      go_wp2
      go_ret
      exact ⟨rfl, hB⟩
end Go.Proofs.YtgnmgooljcgfiaaDoor
