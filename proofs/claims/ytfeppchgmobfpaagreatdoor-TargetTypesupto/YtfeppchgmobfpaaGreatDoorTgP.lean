/- Target types as plain data. -/
import Derived.WalkKit
namespace Go.Proofs.YtfeppchgmobfpaaGreatDoor
open Go.RowKit
set_option linter.unusedVariables false

/-- A target type: its kind, its number, its labels, its parts. -/
inductive Tt where
  | mk (k n : Int) (ls : List ByteArray) (ks : List Tt)
def Tt.k : Tt → Int | .mk k _ _ _ => k
def Tt.n : Tt → Int | .mk _ n _ _ => n
def Tt.ls : Tt → List ByteArray | .mk _ _ ls _ => ls
def Tt.ks : Tt → List Tt | .mk _ _ _ ks => ks
theorem Tt.eta (t : Tt) : Tt.mk t.k t.n t.ls t.ks = t := by cases t; rfl
mutual
def Tt.cnt : Tt → Nat
  | .mk _ _ _ ks => Tt.cntL ks + 1
def Tt.cntL : List Tt → Nat
  | [] => 0
  | x :: r => Tt.cnt x + Tt.cntL r
end
theorem Tt.cnt_ks (t : Tt) : t.cnt = Tt.cntL t.ks + 1 := by cases t; rw [Tt.cnt]; rfl
theorem Tt.cnt_pos (t : Tt) : 1 ≤ t.cnt := by rw [Tt.cnt_ks]; omega
theorem Tt.drop_at {l : List Tt} {k : Nat} {x : Tt} (hx : l[k]? = some x) : l.drop k = x :: l.drop (k + 1) := by
  obtain ⟨hk, rfl⟩ := List.getElem?_eq_some_iff.1 hx
  exact List.drop_eq_getElem_cons hk
theorem Tt.cntL_drop {l : List Tt} {k : Nat} {x : Tt} (hx : l[k]? = some x) : Tt.cntL (l.drop k) = x.cnt + Tt.cntL (l.drop (k + 1)) := by
  rw [Tt.drop_at hx, Tt.cntL]
/-- Is its number bound in its parts? -/
def Tt.binds (t : Tt) : Bool := decide (t.k = 9) || decide (t.k = 10) || decide (t.k = 11)
mutual
def Tt.deepest : Tt → Nat
  | .mk _ _ _ ks => Tt.deepestL ks + 1
def Tt.deepestL : List Tt → Nat
  | [] => 0
  | x :: r => max (Tt.deepest x) (Tt.deepestL r)
end
theorem Tt.deepest_ks (t : Tt) : t.deepest = Tt.deepestL t.ks + 1 := by cases t; rw [Tt.deepest]; rfl
theorem Tt.deepestL_drop {l : List Tt} {k : Nat} {x : Tt} (hx : l[k]? = some x) : Tt.deepestL (l.drop k) = max x.deepest (Tt.deepestL (l.drop (k + 1))) := by
  rw [Tt.drop_at hx, Tt.deepestL]
mutual
theorem Tt.deepest_le : ∀ t : Tt, t.deepest ≤ t.cnt
  | .mk k n ls ks => by rw [Tt.deepest, Tt.cnt]; have := Tt.deepestL_le ks; omega
theorem Tt.deepestL_le : ∀ l : List Tt, Tt.deepestL l ≤ Tt.cntL l
  | [] => by rw [Tt.deepestL, Tt.cntL]; exact Nat.le_refl _
  | x :: r => by rw [Tt.deepestL, Tt.cntL]; have := Tt.deepest_le x; have := Tt.deepestL_le r; omega
end
/-- What stands for a key: the first pair. -/
def lk : List (Int × Int) → Int → Option Int
  | [], _ => none
  | p :: r, x => if p.1 = x then some p.2 else lk r x
theorem lk_cons (p : Int × Int) (r : List (Int × Int)) (x : Int) : lk (p :: r) x = if p.1 = x then some p.2 else lk r x := rfl
theorem lk_mem {e : List (Int × Int)} {x a : Int} (h : lk e x = some a) : (x, a) ∈ e := by
  induction e with
  | nil => cases h
  | cons p r ih =>
    rw [lk_cons] at h
    split at h
    · rename_i h1
      injection h with h2
      subst h1 h2
      exact List.mem_cons_self
    · exact List.mem_cons_of_mem _ (ih h)
end Go.Proofs.YtfeppchgmobfpaaGreatDoor
