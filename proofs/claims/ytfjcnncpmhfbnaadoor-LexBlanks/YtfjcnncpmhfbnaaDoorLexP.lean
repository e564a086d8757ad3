/- Plain mathematics of tokens: blanks, remarks, the token that begins a text, the tokens of a text, over lists of bytes. -/
import Derived.Test.YtfjcnncpmhfbnaaDoorPure
namespace Go.Proofs.YtfjcnncpmhfbnaaDoor
set_option linter.unusedVariables false

def Lx.blank (c : Int) : Bool := decide (c = 32) || decide (c = 9) || decide (c = 10) || decide (c = 13)
/-- The bytes behind a remark of which d are begun; none: it does not end. -/
def Lx.rem : List UInt8 → Nat → Option (List UInt8)
  | a :: b :: t, d =>
    if a = 40 ∧ b = 42 then Lx.rem t (d + 1)
    else if a = 42 ∧ b = 41 then (if d ≤ 1 then some t else Lx.rem t (d - 1))
    else Lx.rem (b :: t) d
  | [_], _ => none
  | [], _ => none
def Lx.opens (l : List UInt8) : Bool := l.take 2 == [40, 42]

theorem Lx.rem_lt : ∀ (l : List UInt8) (d : Nat) (r : List UInt8), Lx.rem l d = some r → r.length + 2 ≤ l.length
  | a :: b :: t, d, r, h => by
    unfold Lx.rem at h
    split at h
    · have := Lx.rem_lt t _ r h; simp; omega
    · split at h
      · split at h
        · cases h; simp
        · have := Lx.rem_lt t _ r h; simp; omega
      · have := Lx.rem_lt (b :: t) d r h; simp at this ⊢; omega
  | [_], d, r, h => by cases h
  | [], d, r, h => by cases h

/-- What is left behind blanks and remarks; false: it begins with a remark that does not end. -/
def Lx.skip : List UInt8 → List UInt8 × Bool
  | [] => ([], true)
  | c :: t =>
    if Lx.blank (c.toNat : Int) then Lx.skip t
    else if Lx.opens (c :: t) then
      match h : Lx.rem (c :: t) 0 with
      | none => (c :: t, false)
      | some r => Lx.skip r
    else (c :: t, true)
  termination_by l => l.length
  decreasing_by
    · simp
    · have := Lx.rem_lt _ _ _ h; simp at this ⊢; omega

theorem Lx.skip_nil : Lx.skip [] = ([], true) := by rw [Lx.skip]
theorem Lx.skip_blank {c : UInt8} {t : List UInt8} (h : Lx.blank (c.toNat : Int) = true) : Lx.skip (c :: t) = Lx.skip t := by rw [Lx.skip, if_pos h]
theorem Lx.skip_rem {l : List UInt8} {r : List UInt8} (ho : Lx.opens l = true) (h : Lx.rem l 0 = some r) : Lx.skip l = Lx.skip r := by
  cases l with
  | nil => cases h
  | cons c t =>
    have hb : Lx.blank (c.toNat : Int) = false := by
      have : c = 40 := by unfold Lx.opens at ho; cases t <;> simp at ho; exact ho.1
      subst this; decide
    rw [Lx.skip, if_neg (by rw [hb]; simp), if_pos ho]
    split
    · next h2 => rw [h] at h2; cases h2
    · next h2 => rw [h] at h2; cases h2; rfl
theorem Lx.skip_open {l : List UInt8} (ho : Lx.opens l = true) (h : Lx.rem l 0 = none) : Lx.skip l = (l, false) := by
  cases l with
  | nil => cases ho
  | cons c t =>
    have hb : Lx.blank (c.toNat : Int) = false := by
      have : c = 40 := by unfold Lx.opens at ho; cases t <;> simp at ho; exact ho.1
      subst this; decide
    rw [Lx.skip, if_neg (by rw [hb]; simp), if_pos ho]
    split
    · rfl
    · next h2 => rw [h] at h2; cases h2
theorem Lx.skip_stop {c : UInt8} {t : List UInt8} (h : Lx.blank (c.toNat : Int) = false) (ho : Lx.opens (c :: t) = false) : Lx.skip (c :: t) = (c :: t, true) := by
  rw [Lx.skip, if_neg (by rw [h]; simp), if_neg (by rw [ho]; simp)]

def Lx.mark : List UInt8 → Nat
  | [] => 0
  | c :: t => if (c = 58 ∨ c = 61 ∨ c = 45) ∧ t.head? = some 62 then 2
    else if [40, 41, 44, 59, 58, 61, 42, 43, 45, 47, 60, 124, 95, 46].contains c then 1 else 0
/-- The kind of the token that begins a text, and with how many bytes it does. -/
def Lx.begin : List UInt8 → Nat × Nat
  | [] => (0, 0)
  | c :: t =>
    if Nm.low (c.toNat : Int) then (1, 1)
    else if Nm.high (c.toNat : Int) then (2, 1)
    else if Nm.dig (c.toNat : Int) then (4, 1)
    else if c = 39 ∧ (t.head?.any fun b => Nm.low (b.toNat : Int)) = true then (5, 2)
    else if Lx.mark (c :: t) = 0 then (0, 0) else (6, Lx.mark (c :: t))
theorem Lx.mark_cons (c : UInt8) (t : List UInt8) : Lx.mark (c :: t) = if (c = 58 ∨ c = 61 ∨ c = 45) ∧ t.head? = some 62 then 2
    else if [40, 41, 44, 59, 58, 61, 42, 43, 45, 47, 60, 124, 95, 46].contains c then 1 else 0 := rfl
theorem Lx.begin_cons (c : UInt8) (t : List UInt8) : Lx.begin (c :: t) =
    if Nm.low (c.toNat : Int) then (1, 1)
    else if Nm.high (c.toNat : Int) then (2, 1)
    else if Nm.dig (c.toNat : Int) then (4, 1)
    else if c = 39 ∧ (t.head?.any fun b => Nm.low (b.toNat : Int)) = true then (5, 2)
    else if Lx.mark (c :: t) = 0 then (0, 0) else (6, Lx.mark (c :: t)) := rfl
def Lx.goes (k : Nat) (c : UInt8) : Bool :=
  if k = 4 then Nm.dig (c.toNat : Int) else if k = 5 then Nm.low (c.toNat : Int) || Nm.dig (c.toNat : Int)
  else if k = 1 ∨ k = 2 then Nm.body (c.toNat : Int) else false
def Lx.text (l : List UInt8) : List UInt8 := l.take (Lx.begin l).2 ++ (l.drop (Lx.begin l).2).takeWhile (Lx.goes (Lx.begin l).1)
def Lx.num (v : Nat) : List UInt8 → Nat
  | [] => v
  | c :: t => Lx.num (10 * v + (c.toNat - 48)) t

structure Lx.Tok where
  kind : Nat
  text : List UInt8
  n : Nat
  left : Nat
/-- A text's first token: an error, or its kind and number (its text is Lx.text). -/
inductive Lx.Next where
  | bad (e : Int)
  | good (k n : Nat)
def Lx.next (l : List UInt8) : Lx.Next :=
  let k := (Lx.begin l).1
  if k = 0 then .bad 10
  else if k = 6 then .good 6 0
  else if k = 4 then (if Lx.num 0 (Lx.text l) ≤ 9223372036854775807 then .good 4 (Lx.num 0 (Lx.text l)) else .bad 1)
  else if 32 < (Lx.text l).length then .bad 12
  else .good (if k = 1 ∧ Nm.words.contains (Lx.text l) = true then 3 else k) 0

inductive Lx.Res where
  | bad (left : Nat) (e : Int)
  | good (l : List Lx.Tok)
def Lx.Res.put (t : Lx.Tok) : Lx.Res → Lx.Res
  | .bad n e => .bad n e
  | .good l => .good (t :: l)
def Lx.lexN (c : Nat) (l : List UInt8) : Lx.Res :=
  let s := Lx.skip l
  if s.2 = false then .bad s.1.length 10
  else if s.1 = [] then .good []
  else match Lx.next s.1 with
    | .bad e => .bad s.1.length e
    | .good k n => match c with
      | 0 => .bad s.1.length 3
      | c + 1 => (Lx.lexN c (s.1.drop (Lx.text s.1).length)).put ⟨k, Lx.text s.1, n, s.1.length⟩
def Lx.lex (l : List UInt8) : Lx.Res := if 4096 < l.length then .bad l.length 3 else Lx.lexN 1024 l
end Go.Proofs.YtfjcnncpmhfbnaaDoor
