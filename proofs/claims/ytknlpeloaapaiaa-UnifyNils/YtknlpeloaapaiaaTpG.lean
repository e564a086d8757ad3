/- The document's own: place, In, counted, Size, Fits, grown. -/
import Derived.Test.YtknlpeloaapaiaaTpB
namespace Go.Proofs.Ytknlpeloaapaiaa
open Go.RowKit
set_option linter.unusedVariables false
set_option linter.unusedSimpArgs false

def Tp.has (n : Int) : List Int → Bool
  | [] => false
  | x :: r => if x = n then true else Tp.has n r
theorem Tp.has_at {n : Int} {l : List Int} {k : Nat} {x : Int} (hx : l[k]? = some x) : Tp.has n (l.drop k) = if x = n then true else Tp.has n (l.drop (k + 1)) := by
  obtain ⟨h1, e1⟩ := List.getElem?_eq_some_iff.1 hx
  rw [List.drop_eq_getElem_cons h1, e1, Tp.has]
theorem Tp.has_mem (n : Int) : ∀ l : List Int, Tp.has n l = decide (n ∈ l)
  | [] => by simp [Tp.has]
  | x :: r => by
    rw [Tp.has, Tp.has_mem n r]
    by_cases h : x = n
    · rw [if_pos h]; simp [h]
    · rw [if_neg h, decide_eq_decide, List.mem_cons]
      exact ⟨.inr, fun h2 => h2.elim (fun e => absurd e.symm h) id⟩

theorem Tp.cnt_ks' (t : Tp) : t.cnt = Tp.cntL t.ks + 1 := by cases t; rw [Tp.cnt]; rfl
def Tp.cap (n : Int) : Int := if 1000 < n then 1001 else n
theorem Tp.cap_small {n : Int} (h : n ≤ 1000) : Tp.cap n = n := by unfold Tp.cap; rw [if_neg (by omega)]
theorem Tp.cap_big {n : Int} (h : 1000 < n) : Tp.cap n = 1001 := by unfold Tp.cap; rw [if_pos h]
theorem Tp.upto_cap (n : Int) : (Tp.upto n).1 = Tp.cap n := by unfold Tp.upto Tp.cap; split <;> split <;> first | rfl | omega
theorem Tp.cntL_drop {l : List Tp} {k : Nat} {x : Tp} (hx : l[k]? = some x) : Tp.cntL (l.drop k) = x.cnt + Tp.cntL (l.drop (k + 1)) := by
  obtain ⟨h1, e1⟩ := List.getElem?_eq_some_iff.1 hx
  rw [List.drop_eq_getElem_cons h1, e1, Tp.cntL]
end Go.Proofs.Ytknlpeloaapaiaa
