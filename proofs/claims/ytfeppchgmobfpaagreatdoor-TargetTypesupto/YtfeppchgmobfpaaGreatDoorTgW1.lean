/- The text of a target type, as plain mathematics. -/
import Derived.Lib.ItoaNum
import Derived.Test.YtfeppchgmobfpaaGreatDoorTgU
namespace Go.Proofs.YtfeppchgmobfpaaGreatDoor
open Go.RowKit
set_option linter.unusedVariables false

/-- What stands where a text must hold together: in parentheses, if it is open at an end. -/
def Tt.clo (k : Int) (s : List UInt8) : List UInt8 := if k = 4 ∨ k = 9 ∨ k = 10 ∨ k = 11 then [40] ++ s ++ [41] else s
/-- A record's fields; each part with its text and its closed text. -/
def Tt.recT : Nat → List ByteArray → List (List UInt8 × List UInt8) → List UInt8
  | i, l :: ls, p :: ps => (if 0 < i then [44, 32] else []) ++ l.data.toList ++ [58, 32] ++ p.2 ++ Tt.recT (i + 1) ls ps
  | _, _, _ => []
def Tt.sumT : Nat → List (List UInt8 × List UInt8) → List UInt8
  | i, p :: ps => (if 0 < i then [32, 124, 32] else []) ++ p.2 ++ Tt.sumT (i + 1) ps
  | _, [] => []
def Tt.varT (e : List (Int × Int)) (n : Int) : List UInt8 := match lk e n with
  | some j => [116] ++ Lib.itoa j
  | none => [35] ++ Lib.itoa n
def Tt.word (k : Int) : List UInt8 := if k = 9 then [109, 117] else if k = 10 then [97, 108, 108] else [115, 111, 109, 101]
/-- Has it as many parts and labels as its kind asks for? -/
def Tt.fitN (k : Int) (m j : Nat) : Bool :=
  if k = 1 ∨ k = 2 ∨ k = 3 ∨ k = 6 then m == 0 else if k = 4 ∨ k = 5 then m == 2 else if k = 7 then j == m else if k = 8 then true else if k = 9 ∨ k = 10 ∨ k = 11 then m == 1 else false
def Tt.form (k n : Int) (ls : List ByteArray) (e : List (Int × Int)) (ps : List (List UInt8 × List UInt8)) : List UInt8 :=
  if Tt.fitN k ps.length ls.length then
    (if k = 1 then [105, 110, 116] else if k = 2 then [98, 111, 111, 108] else if k = 3 then [117, 110, 105, 116]
     else if k = 4 then (ps.getD 0 ([], [])).2 ++ [32, 45, 62, 32] ++ (ps.getD 1 ([], [])).1
     else if k = 5 then [40] ++ (ps.getD 0 ([], [])).2 ++ [32, 42, 32] ++ (ps.getD 1 ([], [])).2 ++ [41]
     else if k = 6 then Tt.varT e n
     else if k = 7 then [123] ++ Tt.recT 0 ls ps ++ [125]
     else if k = 8 then [91] ++ Tt.sumT 0 ps ++ [93]
     else Tt.word k ++ [32] ++ ([116] ++ Lib.itoa e.length) ++ [46, 32] ++ (ps.getD 0 ([], [])).1)
  else [63]
mutual
def Tt.txt : Tt → List (Int × Int) → List UInt8
  | .mk k n ls ks => fun e => Tt.form k n ls e (Tt.txtL ks (if k = 9 ∨ k = 10 ∨ k = 11 then (n, (e.length : Int)) :: e else e))
def Tt.txtL : List Tt → List (Int × Int) → List (List UInt8 × List UInt8)
  | [] => fun _ => []
  | x :: r => fun e => (Tt.txt x e, Tt.clo x.k (Tt.txt x e)) :: Tt.txtL r e
end
theorem Tt.txtL_len : ∀ (l : List Tt) (e : List (Int × Int)), (Tt.txtL l e).length = l.length
  | [], e => by rw [Tt.txtL]; rfl
  | x :: r, e => by rw [Tt.txtL, List.length_cons, Tt.txtL_len r, List.length_cons]
theorem Tt.txtL_at : ∀ {l : List Tt} {i : Nat} {x : Tt} (e : List (Int × Int)), l[i]? = some x → (Tt.txtL l e)[i]? = some (Tt.txt x e, Tt.clo x.k (Tt.txt x e))
  | [], i, x, e, h => by simp at h
  | y :: r, 0, x, e, h => by rw [Tt.txtL]; simp at h ⊢; subst h; exact ⟨rfl, rfl⟩
  | y :: r, i + 1, x, e, h => by rw [Tt.txtL]; simp at h ⊢; exact Tt.txtL_at e h
theorem Tt.txt_mk (t : Tt) (e : List (Int × Int)) : t.txt e = Tt.form t.k t.n t.ls e (Tt.txtL t.ks (t.env e)) := by
  obtain ⟨k, n, ls, ks⟩ := t
  have hb : (Tt.mk k n ls ks).binds = decide (k = 9 ∨ k = 10 ∨ k = 11) := by
    show (decide (k = 9) || decide (k = 10) || decide (k = 11)) = _
    simp [Bool.or_assoc]
  have he : Tt.env (.mk k n ls ks) e = if k = 9 ∨ k = 10 ∨ k = 11 then (n, (e.length : Int)) :: e else e := by
    unfold Tt.env
    rw [hb]
    by_cases h : k = 9 ∨ k = 10 ∨ k = 11
    · rw [if_pos h, if_pos (decide_eq_true h)]; rfl
    · rw [if_neg h, if_neg (by simpa using h)]
  rw [he, Tt.txt]
  rfl
theorem Tt.txtL_drop {l : List Tt} {i : Nat} {x : Tt} (e : List (Int × Int)) (hx : l[i]? = some x) : Tt.txtL (l.drop i) e = (Tt.txt x e, Tt.clo x.k (Tt.txt x e)) :: Tt.txtL (l.drop (i + 1)) e := by
  rw [Tt.drop_at hx, Tt.txtL]
theorem Tt.txtL_ge {l : List Tt} {i : Nat} (e : List (Int × Int)) : (Tt.txtL l e).drop i = Tt.txtL (l.drop i) e := by
  induction l generalizing i with
  | nil => simp [Tt.txtL]
  | cons x r ih =>
    cases i with
    | zero => simp
    | succ i => rw [Tt.txtL]; simpa using ih
theorem nDigits_le (u : Nat) (h : u < 10 ^ 20) : Lib.nDigits u ≤ 20 := by
  rcases Nat.lt_or_ge 20 (Lib.nDigits u) with h2 | h2
  · exfalso
    have key : ∀ (k u : Nat), k < Lib.nDigits u → 1 ≤ k → 10 ^ k ≤ u := by
      intro k
      induction k with
      | zero => intro u _ h; omega
      | succ k ih =>
        intro u hu _
        by_cases h10 : u < 10
        · rw [Lib.nDigits_small h10] at hu; omega
        · rw [Lib.nDigits_big h10] at hu
          rcases Nat.eq_zero_or_pos k with h0 | h0
          · subst h0; omega
          · have := ih (u / 10) (by omega) h0
            rw [Nat.pow_succ]; omega
    have := key 20 u h2 (by decide)
    omega
  · exact h2
theorem decDigits_len (u : Nat) : (Lib.decDigits u).length = Lib.nDigits u := by rw [Lib.decDigits_eq]; simp
theorem itoa_len {n : Int} (h : R64 n) : (Lib.itoa n).length ≤ 21 := by
  obtain ⟨h1, h2⟩ := h
  unfold Lib.itoa
  split
  · rw [List.length_cons, decDigits_len]
    have := nDigits_le n.natAbs (by omega)
    omega
  · rw [decDigits_len]
    have := nDigits_le n.toNat (by omega)
    omega
end Go.Proofs.YtfeppchgmobfpaaGreatDoor
