/- The document's own: place, In, counted, Size, Fits, grown. -/
import Derived.Test.YtadmiefnblgpdaaTpB
namespace Go.Proofs.Ytadmiefnblgpdaa
open Go.RowKit
set_option linter.unusedVariables false
set_option linter.unusedSimpArgs false



def Tp.has (n : Int) : List Int → Bool
  | [] => false
  | x :: r => if x = n then true else Tp.has n r
theorem Tp.has_at {n : Int} {l : List Int} {k : Nat} {x : Int} (hx : l[k]? = some x) : Tp.has n (l.drop k) = if x = n then true else Tp.has n (l.drop (k + 1)) := by
  obtain ⟨h1, e1⟩ := List.getElem?_eq_some_iff.1 hx
  rw [List.drop_eq_getElem_cons h1, e1, Tp.has]
theorem Tp.has_mem (n : Int) : ∀ l : List Int, Tp.has n l = decide (n ∈ l)
  | [] => by simp [Tp.has]
  | x :: r => by
    rw [Tp.has, Tp.has_mem n r]
    by_cases h : x = n
    · rw [if_pos h]; simp [h]
    · rw [if_neg h, decide_eq_decide, List.mem_cons]
      exact ⟨.inr, fun h2 => h2.elim (fun e => absurd e.symm h) id⟩











end Go.Proofs.Ytadmiefnblgpdaa