/- Schemes: plain mathematics. -/
import Derived.Test.YtknlpeloaapaiaaTpP
namespace Go.Proofs.Ytknlpeloaapaiaa
open Go.RowKit
set_option linter.unusedVariables false
set_option linter.unusedSimpArgs false

theorem hid {p : Prop} (h : p) : Hid p := h
/-- Do the numbers rise by one from i on? -/
def Tp.ups : List Int → Nat → Bool
  | [], _ => true
  | x :: r, i => decide (x = i) && Tp.ups r (i + 1)
/-- Is the scheme right? -/
def Tp.rightS (g : Int) (t : Tp) : Bool := t.right && (Tp.ups (Tp.found 8 t []) 0 && decide (((Tp.found 8 t []).length : Int) = g))
theorem Tp.ups_at {l : List Int} {k : Nat} {x : Int} (hx : l[k]? = some x) : Tp.ups (l.drop k) k = (decide (x = k) && Tp.ups (l.drop (k + 1)) (k + 1)) := by
  obtain ⟨h1, e1⟩ := List.getElem?_eq_some_iff.1 hx
  rw [List.drop_eq_getElem_cons h1, e1, Tp.ups]
mutual
/-- Each node's kind and number made anew. -/
def Tp.ren (f : Int → Int → Int × Int) : Tp → Tp
  | .mk k n ks => .mk (f k n).1 (f k n).2 (Tp.renL f ks)
def Tp.renL (f : Int → Int → Int × Int) : List Tp → List Tp
  | [] => []
  | x :: r => Tp.ren f x :: Tp.renL f r
end
theorem Tp.renL_map (f : Int → Int → Int × Int) : ∀ l : List Tp, Tp.renL f l = l.map (Tp.ren f)
  | [] => by rw [Tp.renL]; rfl
  | x :: r => by rw [Tp.renL, Tp.renL_map f r]; rfl
theorem Tp.ren_eq (f : Int → Int → Int × Int) (t : Tp) : Tp.ren f t = .mk (f t.k t.n).1 (f t.k t.n).2 (t.ks.map (Tp.ren f)) := by
  obtain ⟨k, n, ks⟩ := t
  rw [Tp.ren, Tp.renL_map]; rfl
mutual
theorem Tp.cnt_ren (f : Int → Int → Int × Int) : ∀ t : Tp, (Tp.ren f t).cnt = t.cnt
  | .mk k n ks => by rw [Tp.ren, Tp.cnt, Tp.cnt, Tp.cntL_ren f ks]
theorem Tp.cntL_ren (f : Int → Int → Int × Int) : ∀ l : List Tp, Tp.cntL (Tp.renL f l) = Tp.cntL l
  | [] => by rw [Tp.renL]
  | x :: r => by rw [Tp.renL, Tp.cntL, Tp.cntL, Tp.cnt_ren f x, Tp.cntL_ren f r]
end
end Go.Proofs.Ytknlpeloaapaiaa
