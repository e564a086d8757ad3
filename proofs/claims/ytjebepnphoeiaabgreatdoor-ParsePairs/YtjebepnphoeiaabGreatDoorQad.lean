/- Pieces: LexP LexB LexLeaf LexQ LexSkip Reserved. -/
import Derived.Test.YtjebepnphoeiaabGreatDoorQaa
import Derived.WalkKit
import Derived.WalkSpells
import Derived.Lib.Walk
import Derived.Lib.Strings
import Derived.Lib.Bytealg
import Derived.Deep.QuietTactic
import Derived.BigQuiet
import Derived.Test.YtjebepnphoeiaabGreatDoorProg
import Derived.WalkMore
namespace Go.Proofs.YtjebepnphoeiaabGreatDoor
set_option linter.unusedVariables false

def Lx.blank (c : Int) : Bool := decide (c = 32) || decide (c = 9) || decide (c = 10) || decide (c = 13)
def Lx.rem : List UInt8 → Nat → Option (List UInt8)
 | a :: b :: t, d =>
  if a = 40 ∧ b = 42 then Lx.rem t (d + 1)
  else if a = 42 ∧ b = 41 then (if d ≤ 1 then some t else Lx.rem t (d - 1))
  else Lx.rem (b :: t) d
 | [_], _ => none
 | [], _ => none
def Lx.opens (l : List UInt8) : Bool := l.take 2 == [40, 42]

theorem Lx.rem_lt : ∀ (l : List UInt8) (d : Nat) (r : List UInt8), Lx.rem l d = some r → r.length + 2 ≤ l.length
 | a :: b :: t, d, r, h => by
  unfold Lx.rem at h
  split at h
  ·
   have := Lx.rem_lt t _ r h; simp; omega
  ·
   split at h
   ·
    split at h
    ·
     cases h; simp
    ·
     have := Lx.rem_lt t _ r h; simp; omega
   ·
    have := Lx.rem_lt (b :: t) d r h; simp at this ⊢; omega
 | [_], d, r, h => by cases h
 | [], d, r, h => by cases h

def Lx.skip : List UInt8 → List UInt8 × Bool
 | [] => ([], true)
 | c :: t =>
  if Lx.blank (c.toNat : Int) then Lx.skip t
  else if Lx.opens (c :: t) then
   match h : Lx.rem (c :: t) 0 with
   | none => (c :: t, false)
   | some r => Lx.skip r
  else (c :: t, true)
 termination_by l => l.length
 decreasing_by
  ·
   simp
  ·
   have := Lx.rem_lt _ _ _ h; simp at this ⊢; omega

theorem Lx.skip_nil : Lx.skip [] = ([], true) := by rw [Lx.skip]
theorem Lx.skip_blank {c : UInt8} {t : List UInt8} (h : Lx.blank (c.toNat : Int) = true) : Lx.skip (c :: t) = Lx.skip t := by rw [Lx.skip, if_pos h]
theorem Lx.skip_rem {l : List UInt8} {r : List UInt8} (ho : Lx.opens l = true) (h : Lx.rem l 0 = some r) : Lx.skip l = Lx.skip r := by
 cases l with
 | nil => cases h
 | cons c t =>
  have hb : Lx.blank (c.toNat : Int) = false := by
   have : c = 40 := by unfold Lx.opens at ho; cases t <;> simp at ho; exact ho.1
   subst this; decide
  rw [Lx.skip, if_neg (by rw [hb]; simp), if_pos ho]
  split
  ·
   next h2 => rw [h] at h2; cases h2
  ·
   next h2 => rw [h] at h2; cases h2; rfl
theorem Lx.skip_open {l : List UInt8} (ho : Lx.opens l = true) (h : Lx.rem l 0 = none) : Lx.skip l = (l, false) := by
 cases l with
 | nil => cases ho
 | cons c t =>
  have hb : Lx.blank (c.toNat : Int) = false := by
   have : c = 40 := by unfold Lx.opens at ho; cases t <;> simp at ho; exact ho.1
   subst this; decide
  rw [Lx.skip, if_neg (by rw [hb]; simp), if_pos ho]
  split
  ·
   rfl
  ·
   next h2 => rw [h] at h2; cases h2
theorem Lx.skip_stop {c : UInt8} {t : List UInt8} (h : Lx.blank (c.toNat : Int) = false) (ho : Lx.opens (c :: t) = false) : Lx.skip (c :: t) = (c :: t, true) := by
 rw [Lx.skip, if_neg (by rw [h]; simp), if_neg (by rw [ho]; simp)]

def Lx.mark : List UInt8 → Nat
 | [] => 0
 | c :: t => if (c = 58 ∨ c = 61 ∨ c = 45) ∧ t.head? = some 62 then 2
  else if [40, 41, 44, 59, 58, 61, 42, 43, 45, 47, 60, 124, 95, 46].contains c then 1 else 0
def Lx.begin : List UInt8 → Nat × Nat
 | [] => (0, 0)
 | c :: t =>
  if Nm.low (c.toNat : Int) then (1, 1)
  else if Nm.high (c.toNat : Int) then (2, 1)
  else if Nm.dig (c.toNat : Int) then (4, 1)
  else if c = 39 ∧ (t.head?.any fun b => Nm.low (b.toNat : Int)) = true then (5, 2)
  else if Lx.mark (c :: t) = 0 then (0, 0) else (6, Lx.mark (c :: t))
theorem Lx.mark_cons (c : UInt8) (t : List UInt8) : Lx.mark (c :: t) = if (c = 58 ∨ c = 61 ∨ c = 45) ∧ t.head? = some 62 then 2
  else if [40, 41, 44, 59, 58, 61, 42, 43, 45, 47, 60, 124, 95, 46].contains c then 1 else 0 := rfl
theorem Lx.begin_cons (c : UInt8) (t : List UInt8) : Lx.begin (c :: t) =
  if Nm.low (c.toNat : Int) then (1, 1)
  else if Nm.high (c.toNat : Int) then (2, 1)
  else if Nm.dig (c.toNat : Int) then (4, 1)
  else if c = 39 ∧ (t.head?.any fun b => Nm.low (b.toNat : Int)) = true then (5, 2)
  else if Lx.mark (c :: t) = 0 then (0, 0) else (6, Lx.mark (c :: t)) := rfl
def Lx.goes (k : Nat) (c : UInt8) : Bool :=
 if k = 4 then Nm.dig (c.toNat : Int) else if k = 5 then Nm.low (c.toNat : Int) || Nm.dig (c.toNat : Int)
 else if k = 1 ∨ k = 2 then Nm.body (c.toNat : Int) else false
def Lx.text (l : List UInt8) : List UInt8 := l.take (Lx.begin l).2 ++ (l.drop (Lx.begin l).2).takeWhile (Lx.goes (Lx.begin l).1)
def Lx.num (v : Nat) : List UInt8 → Nat
 | [] => v
 | c :: t => Lx.num (10 * v + (c.toNat - 48)) t

structure Lx.Tok where
 kind : Nat
 text : List UInt8
 n : Nat
 left : Nat
inductive Lx.Next where
 | bad (e : Int)
 | good (k n : Nat)
def Lx.next (l : List UInt8) : Lx.Next :=
 let k := (Lx.begin l).1
 if k = 0 then .bad 10
 else if k = 6 then .good 6 0
 else if k = 4 then (if Lx.num 0 (Lx.text l) ≤ 9223372036854775807 then .good 4 (Lx.num 0 (Lx.text l)) else .bad 1)
 else if 32 < (Lx.text l).length then .bad 12
 else .good (if k = 1 ∧ Nm.words.contains (Lx.text l) = true then 3 else k) 0

inductive Lx.Res where
 | bad (left : Nat) (e : Int)
 | good (l : List Lx.Tok)
def Lx.Res.put (t : Lx.Tok) : Lx.Res → Lx.Res
 | .bad n e => .bad n e
 | .good l => .good (t :: l)
def Lx.lexN (c : Nat) (l : List UInt8) : Lx.Res :=
 let s := Lx.skip l
 if s.2 = false then .bad s.1.length 10
 else if s.1 = [] then .good []
 else match Lx.next s.1 with
  | .bad e => .bad s.1.length e
  | .good k n => match c with
   | 0 => .bad s.1.length 3
   | c + 1 => (Lx.lexN c (s.1.drop (Lx.text s.1).length)).put ⟨k, Lx.text s.1, n, s.1.length⟩
def Lx.lex (l : List UInt8) : Lx.Res := if 4096 < l.length then .bad l.length 3 else Lx.lexN 1024 l
theorem Lx.u8 (c : UInt8) (n : Nat) (hn : n < 256) : c = UInt8.ofNat n ↔ (c.toNat : Int) = (n : Int) := by
 constructor
 ·
  rintro rfl
  rw [UInt8.toNat_ofNat']; omega
 ·
  intro h
  apply UInt8.toNat_inj.1
  rw [UInt8.toNat_ofNat']; omega
def Lx.b (s : ByteArray) (k : Nat) : Int := if h : k < s.size then (s[k].toNat : Int) else -1
theorem Lx.b_lt {s : ByteArray} {k : Nat} (h : k < s.size) : (s[k].toNat : Int) = Lx.b s k := by unfold Lx.b; rw [dif_pos h]
theorem Lx.b_ge {s : ByteArray} {k : Nat} (h : ¬ k < s.size) : Lx.b s k = -1 := by unfold Lx.b; rw [dif_neg h]
theorem Lx.b_head (s : ByteArray) (k : Nat) (n : Nat) (hn : n < 256) : (s.data.toList.drop k).head? = some (UInt8.ofNat n) ↔ Lx.b s k = (n : Int) := by
 by_cases h : k < s.size
 ·
  rw [Nm.drop_cons s k h, ← Lx.b_lt h, List.head?_cons, ← Lx.u8 s[k] n hn]; simp
 ·
  rw [Lx.b_ge h, List.drop_eq_nil_of_le (by rw [Nm.len]; omega)]
  constructor
  ·
   intro h; cases h
  ·
   intro h; omega
theorem Lx.b_any (s : ByteArray) (k : Nat) (f : Int → Bool) (hf : f (-1) = false) : ((s.data.toList.drop k).head?.any fun b => f (b.toNat : Int)) = f (Lx.b s k) := by
 by_cases h : k < s.size
 ·
  rw [Nm.drop_cons s k h, ← Lx.b_lt h]; rfl
 ·
  rw [Lx.b_ge h, List.drop_eq_nil_of_le (by rw [Nm.len]; omega), hf]; rfl

def Lx.markI (c d : Int) : Nat := if (c = 58 ∨ c = 61 ∨ c = 45) ∧ d = 62 then 2
 else if c = 40 ∨ c = 41 ∨ c = 44 ∨ c = 59 ∨ c = 58 ∨ c = 61 ∨ c = 42 ∨ c = 43 ∨ c = 45 ∨ c = 47 ∨ c = 60 ∨ c = 124 ∨ c = 95 ∨ c = 46 then 1 else 0
theorem Lx.mark_at (s : ByteArray) (k : Nat) (h : k < s.size) : Lx.mark (s.data.toList.drop k) = Lx.markI (Lx.b s k) (Lx.b s (k + 1)) := by
 have e := Nm.drop_cons s k h
 rw [e]
 have h1 := Lx.b_head s (k + 1) 62 (by decide)
 have e2 : ∀ n, n < 256 → (s[k] = UInt8.ofNat n ↔ Lx.b s k = (n : Int)) := fun n hn => by rw [← Lx.b_lt h]; exact Lx.u8 s[k] n hn
 have e3 : (([40, 41, 44, 59, 58, 61, 42, 43, 45, 47, 60, 124, 95, 46] : List UInt8).contains s[k] = true) ↔ (Lx.b s k = 40 ∨ Lx.b s k = 41 ∨ Lx.b s k = 44 ∨ Lx.b s k = 59 ∨ Lx.b s k = 58 ∨ Lx.b s k = 61 ∨ Lx.b s k = 42 ∨ Lx.b s k = 43 ∨ Lx.b s k = 45 ∨ Lx.b s k = 47 ∨ Lx.b s k = 60 ∨ Lx.b s k = 124 ∨ Lx.b s k = 95 ∨ Lx.b s k = 46) := by
  rw [List.contains_iff_mem]
  simp only [List.mem_cons, List.not_mem_nil, or_false]
  exact or_congr (e2 40 (by decide)) (or_congr (e2 41 (by decide)) (or_congr (e2 44 (by decide)) (or_congr (e2 59 (by decide)) (or_congr (e2 58 (by decide)) (or_congr (e2 61 (by decide)) (or_congr (e2 42 (by decide)) (or_congr (e2 43 (by decide)) (or_congr (e2 45 (by decide)) (or_congr (e2 47 (by decide)) (or_congr (e2 60 (by decide)) (or_congr (e2 124 (by decide)) (or_congr (e2 95 (by decide)) (e2 46 (by decide))))))))))))))
 have e4 : ((s[k] = 58 ∨ s[k] = 61 ∨ s[k] = 45) ∧ (s.data.toList.drop (k + 1)).head? = some 62) ↔ ((Lx.b s k = 58 ∨ Lx.b s k = 61 ∨ Lx.b s k = 45) ∧ Lx.b s (k + 1) = 62) :=
  and_congr (or_congr (e2 58 (by decide)) (or_congr (e2 61 (by decide)) (e2 45 (by decide)))) h1
 rw [Lx.mark_cons]
 unfold Lx.markI
 simp only [e3, e4]

def Lx.beginI (c d : Int) : Nat × Nat := if Nm.low c = true then (1, 1) else if Nm.high c = true then (2, 1) else if Nm.dig c = true then (4, 1)
 else if c = 39 ∧ Nm.low d = true then (5, 2) else if Lx.markI c d = 0 then (0, 0) else (6, Lx.markI c d)
theorem Lx.begin_at (s : ByteArray) (k : Nat) (h : k < s.size) : Lx.begin (s.data.toList.drop k) = Lx.beginI (Lx.b s k) (Lx.b s (k + 1)) := by
 have hm := Lx.mark_at s k h
 have e := Nm.drop_cons s k h
 rw [e] at hm ⊢
 have h1 := Lx.b_any s (k + 1) Nm.low (by decide)
 have h2 : s[k] = 39 ↔ Lx.b s k = 39 := by rw [← Lx.b_lt h]; exact Lx.u8 s[k] 39 (by decide)
 rw [Lx.begin_cons]
 unfold Lx.beginI
 rw [hm, Lx.b_lt h]
 simp only [h1, h2]
theorem Lx.opens_at (s : ByteArray) (k : Nat) : Lx.opens (s.data.toList.drop k) = (decide (Lx.b s k = 40) && decide (Lx.b s (k + 1) = 42)) := by
 by_cases h : k < s.size
 ·
  rw [Nm.drop_cons s k h]
  have a1 : s[k] = 40 ↔ Lx.b s k = 40 := by rw [← Lx.b_lt h]; exact Lx.u8 s[k] 40 (by decide)
  by_cases h2 : k + 1 < s.size
  ·
   rw [Nm.drop_cons s (k + 1) h2]
   have a2 : s[k + 1] = 42 ↔ Lx.b s (k + 1) = 42 := by rw [← Lx.b_lt h2]; exact Lx.u8 s[k + 1] 42 (by decide)
   unfold Lx.opens
   rw [Bool.eq_iff_iff]
   simp [a1, a2]
  ·
   rw [List.drop_eq_nil_of_le (i := k + 1) (by rw [Nm.len]; omega), Lx.b_ge h2]; simp [Lx.opens]
 ·
  rw [Lx.b_ge h, List.drop_eq_nil_of_le (by rw [Nm.len]; omega)]; rfl
theorem Lx.rem_at (s : ByteArray) (k d : Nat) (h : k + 1 < s.size) : Lx.rem (s.data.toList.drop k) d =
  if Lx.b s k = 40 ∧ Lx.b s (k + 1) = 42 then Lx.rem (s.data.toList.drop (k + 2)) (d + 1)
  else if Lx.b s k = 42 ∧ Lx.b s (k + 1) = 41 then (if d ≤ 1 then some (s.data.toList.drop (k + 2)) else Lx.rem (s.data.toList.drop (k + 2)) (d - 1))
  else Lx.rem (s.data.toList.drop (k + 1)) d := by
 have h0 : k < s.size := by omega
 have a1 : ∀ n, n < 256 → (s[k] = UInt8.ofNat n ↔ Lx.b s k = (n : Int)) := fun n hn => by rw [← Lx.b_lt h0]; exact Lx.u8 s[k] n hn
 have a2 : ∀ n, n < 256 → (s[k + 1] = UInt8.ofNat n ↔ Lx.b s (k + 1) = (n : Int)) := fun n hn => by rw [← Lx.b_lt h]; exact Lx.u8 s[k + 1] n hn
 have e1 : (s[k] = 40 ∧ s[k + 1] = 42) ↔ (Lx.b s k = 40 ∧ Lx.b s (k + 1) = 42) := and_congr (a1 40 (by decide)) (a2 42 (by decide))
 have e2 : (s[k] = 42 ∧ s[k + 1] = 41) ↔ (Lx.b s k = 42 ∧ Lx.b s (k + 1) = 41) := and_congr (a1 42 (by decide)) (a2 41 (by decide))
 rw [Nm.drop_cons s k h0, Nm.drop_cons s (k + 1) h, Lx.rem]
 simp only [e1, e2]
theorem Lx.rem_end (s : ByteArray) (k d : Nat) (h : s.size ≤ k + 1) : Lx.rem (s.data.toList.drop k) d = none := by
 by_cases h0 : k < s.size
 ·
  rw [Nm.drop_cons s k h0, List.drop_eq_nil_of_le (i := k + 1) (by rw [Nm.len]; omega)]; rfl
 ·
  rw [List.drop_eq_nil_of_le (by rw [Nm.len]; omega)]; rfl
theorem Lx.skip_at (s : ByteArray) (k : Nat) (h : k < s.size) : Lx.skip (s.data.toList.drop k) =
  if Lx.blank (Lx.b s k) = true then Lx.skip (s.data.toList.drop (k + 1))
  else if (decide (Lx.b s k = 40) && decide (Lx.b s (k + 1) = 42)) = true then
   (match Lx.rem (s.data.toList.drop k) 0 with
   | none => (s.data.toList.drop k, false)
   | some r => Lx.skip r)
  else (s.data.toList.drop k, true) := by
 have e := Nm.drop_cons s k h
 rw [← Lx.opens_at]
 have hb := Lx.b_lt h
 by_cases h1 : Lx.blank (Lx.b s k) = true
 ·
  rw [if_pos h1, e, Lx.skip_blank (by rw [hb]; exact h1)]
 ·
  rw [if_neg h1]
  by_cases h2 : Lx.opens (s.data.toList.drop k) = true
  ·
   rw [if_pos h2]
   cases hR : Lx.rem (s.data.toList.drop k) 0 with
   | none => exact Lx.skip_open h2 hR
   | some r => exact Lx.skip_rem h2 hR
  ·
   rw [if_neg h2, e, Lx.skip_stop (by rw [hb]; simpa using h1) (by rw [e] at h2; simpa using h2)]

theorem Lx.rest (s : ByteArray) (k : Nat) : (s.extract k s.size).data.toList = s.data.toList.drop k := by
 rw [ByteArray.data_extract, Array.toList_extract, List.extract_eq_take_drop]
 rw [List.take_of_length_le (by rw [List.length_drop, Nm.len]; omega)]
theorem Lx.rest_size (s : ByteArray) (k : Nat) : (s.extract k s.size).size = s.size - k := by rw [ByteArray.size_extract, Nat.min_self]
end Go.Proofs.YtjebepnphoeiaabGreatDoor
namespace Go.Proofs.YtjebepnphoeiaabGreatDoor
open Go.RowKit
set_option linter.unusedVariables false

theorem lxSmall_any (c : Int) (w : World) : Calls Tryz.prog 113 #[.int .u8 c] w fun e w' => e = .returned (.bool (Nm.low c)) ∧ w' = w := by
 go_enter Tryz.func113, Tryz.ntmps113
 go_wp2
 all_goals go_ret
 all_goals refine ⟨ret_bool ?_, rfl⟩
 all_goals (unfold Nm.low; first | (simp [*]; done) | (simp; omega))

theorem lxBlank_any (c : Int) (w : World) : Calls Tryz.prog 92 #[.int .u8 c] w fun e w' => e = .returned (.bool (Lx.blank c)) ∧ w' = w := by
 go_enter Tryz.func92, Tryz.ntmps92
 go_wp2
 all_goals go_ret
 all_goals refine ⟨ret_bool ?_, rfl⟩
 all_goals (unfold Lx.blank; first | (simp [*]; done) | (simp_all; done))

def Lx.bits (c : Int) : Int := if Nm.dig c = true then 54 else if Nm.low c = true then 38 else if Nm.body c = true then 6 else 0

theorem lxWithin_any (c : Int) (w : World) : Calls Tryz.prog 96 #[.int .u8 c] w fun e w' => e = .returned (.int .i64 (Lx.bits c)) ∧ w' = w := by
 cases hd : Nm.dig c with
 | true =>
  have h1 : 48 ≤ c ∧ c ≤ 57 := by unfold Nm.dig at hd; simpa using hd
  have H : Hid (Lx.bits c = 54) := by show _ = _; unfold Lx.bits; rw [hd]; rfl
  go_enter Tryz.func96, Tryz.ntmps96
  go_wp2_with (go_at_call 113; refine (lxSmall_any _ _).mono ?_; rintro e w' ⟨rfl, rfl⟩)
  all_goals go_ret
  all_goals exact ⟨ret_int H.out.symm, rfl⟩
 | false =>
  have h1 : ¬ (48 ≤ c ∧ c ≤ 57) := by unfold Nm.dig at hd; simpa using hd
  cases hl : Nm.low c with
  | true =>
   have H : Hid (Lx.bits c = 38) := by show _ = _; unfold Lx.bits; rw [hd, hl]; rfl
   go_enter Tryz.func96, Tryz.ntmps96
   go_wp2_with (go_at_call 113; refine (lxSmall_any _ _).mono ?_; rintro e w' ⟨rfl, rfl⟩)
   all_goals go_ret
   all_goals exact ⟨ret_int H.out.symm, rfl⟩
  | false =>
   cases hh : Nm.high c with
   | true =>
    have h2 : 65 ≤ c ∧ c ≤ 90 := by unfold Nm.high at hh; simpa using hh
    have H : Hid (Lx.bits c = 6) := by show _ = _; unfold Lx.bits; rw [hd, hl]; unfold Nm.body Nm.letter; rw [hd, hl, hh]; rfl
    go_enter Tryz.func96, Tryz.ntmps96
    go_wp2_with (go_at_call 113; refine (lxSmall_any _ _).mono ?_; rintro e w' ⟨rfl, rfl⟩)
    all_goals go_ret
    all_goals exact ⟨ret_int H.out.symm, rfl⟩
   | false =>
    have h2 : ¬ (65 ≤ c ∧ c ≤ 90) := by unfold Nm.high at hh; simpa using hh
    by_cases h3 : c = 95
    ·
     have H : Hid (Lx.bits c = 6) := by show _ = _; unfold Lx.bits; rw [hd, hl]; unfold Nm.body Nm.letter; rw [hd, hl, hh]; simp [h3]
     go_enter Tryz.func96, Tryz.ntmps96
     go_wp2_with (go_at_call 113; refine (lxSmall_any _ _).mono ?_; rintro e w' ⟨rfl, rfl⟩)
     all_goals go_ret
     all_goals exact ⟨ret_int H.out.symm, rfl⟩
    ·
     have H : Hid (Lx.bits c = 0) := by show _ = _; unfold Lx.bits; rw [hd, hl]; unfold Nm.body Nm.letter; rw [hd, hl, hh]; simp [h3]
     go_enter Tryz.func96, Tryz.ntmps96
     go_wp2_with (go_at_call 113; refine (lxSmall_any _ _).mono ?_; rintro e w' ⟨rfl, rfl⟩)
     all_goals go_ret
     all_goals exact ⟨ret_int H.out.symm, rfl⟩

theorem lxMark_any (s : ByteArray) (h0 : 0 < s.size) (w : World) : Calls Tryz.prog 114 #[.string s] w fun e w' => e = .returned (.int .i64 (Lx.markI (Lx.b s 0) (Lx.b s 1))) ∧ w' = w := by
 have hb := Lx.b_lt h0
 by_cases h1 : 1 < s.size
 ·
  have hb1 := Lx.b_lt h1
  generalize Lx.b s 0 = c at *
  generalize Lx.b s 1 = d at *
  go_enter Tryz.func114, Tryz.ntmps114
  go_wp2
  all_goals go_ret
  all_goals (refine ⟨ret_int ?_, rfl⟩; unfold Lx.markI; simp_all)
 ·
  rw [Lx.b_ge h1]
  generalize Lx.b s 0 = c at *
  go_enter Tryz.func114, Tryz.ntmps114
  go_wp2
  all_goals go_ret
  all_goals (refine ⟨ret_int ?_, rfl⟩; unfold Lx.markI; simp_all)

theorem ret_two {a b c d : Int} (h : a = c) (h2 : b = d) : Ending.returned (.tuple #[.int .i64 a, .int .i64 b]) = .returned (.tuple #[.int .i64 c, .int .i64 d]) := by rw [h, h2]

set_option maxHeartbeats 1000000 in
theorem lxBegin_any (s : ByteArray) (h0 : 0 < s.size) (w : World) : Calls Tryz.prog 95 #[.string s] w fun e w' => e = .returned (.tuple #[.int .i64 (Lx.beginI (Lx.b s 0) (Lx.b s 1)).1, .int .i64 (Lx.beginI (Lx.b s 0) (Lx.b s 1)).2]) ∧ w' = w := by
 have hb := Lx.b_lt h0
 cases hl : Nm.low (Lx.b s 0) with
 | true =>
  have H : Hid (Lx.beginI (Lx.b s 0) (Lx.b s 1) = (1, 1)) := by show _ = _; unfold Lx.beginI; rw [if_pos hl]
  go_enter Tryz.func95, Tryz.ntmps95
  go_wp2_with (first | (go_at_call 113; refine (lxSmall_any _ _).mono ?_; rintro e w' ⟨rfl, rfl⟩))
  go_ret2
  exact ⟨by rw [H.out]; rfl, rfl⟩
 | false =>
  cases hh : Nm.high (Lx.b s 0) with
  | true =>
   have H : Hid (Lx.beginI (Lx.b s 0) (Lx.b s 1) = (2, 1)) := by show _ = _; unfold Lx.beginI; rw [if_neg (by rw [hl]; simp), if_pos hh]
   have h1 : 65 ≤ Lx.b s 0 ∧ Lx.b s 0 ≤ 90 := by unfold Nm.high at hh; simpa using hh
   go_enter Tryz.func95, Tryz.ntmps95
   go_wp2_with (first | (go_at_call 113; refine (lxSmall_any _ _).mono ?_; rintro e w' ⟨rfl, rfl⟩))
   all_goals go_ret2
   all_goals exact ⟨by rw [H.out]; rfl, rfl⟩
  | false =>
   have h1 : ¬ (65 ≤ Lx.b s 0 ∧ Lx.b s 0 ≤ 90) := by unfold Nm.high at hh; simpa using hh
   cases hd : Nm.dig (Lx.b s 0) with
   | true =>
    have H : Hid (Lx.beginI (Lx.b s 0) (Lx.b s 1) = (4, 1)) := by show _ = _; unfold Lx.beginI; rw [if_neg (by rw [hl]; simp), if_neg (by rw [hh]; simp), if_pos hd]
    have h2 : 48 ≤ Lx.b s 0 ∧ Lx.b s 0 ≤ 57 := by unfold Nm.dig at hd; simpa using hd
    go_enter Tryz.func95, Tryz.ntmps95
    go_wp2_with (first | (go_at_call 113; refine (lxSmall_any _ _).mono ?_; rintro e w' ⟨rfl, rfl⟩))
    all_goals go_ret2
    all_goals exact ⟨by rw [H.out]; rfl, rfl⟩
   | false =>
    have h2 : ¬ (48 ≤ Lx.b s 0 ∧ Lx.b s 0 ≤ 57) := by unfold Nm.dig at hd; simpa using hd
    have H0 : Lx.beginI (Lx.b s 0) (Lx.b s 1) = if Lx.b s 0 = 39 ∧ Nm.low (Lx.b s 1) = true then (5, 2) else if Lx.markI (Lx.b s 0) (Lx.b s 1) = 0 then (0, 0) else (6, Lx.markI (Lx.b s 0) (Lx.b s 1)) := by
     unfold Lx.beginI; rw [if_neg (by rw [hl]; simp), if_neg (by rw [hh]; simp), if_neg (by rw [hd]; simp)]
    by_cases hq : Lx.b s 0 = 39 ∧ Nm.low (Lx.b s 1) = true
    ·
     have H : Hid (Lx.beginI (Lx.b s 0) (Lx.b s 1) = (5, 2)) := by show _ = _; rw [H0, if_pos hq]
     have hs1 : 1 < s.size := by
      rcases Nat.lt_or_ge 1 s.size with h | h
      ·
       exact h
      ·
       have := hq.2; rw [Lx.b_ge (by omega)] at this; cases this
     have hb1 := Lx.b_lt hs1
     obtain ⟨hq1, hq2⟩ := hq
     clear H0
     go_enter Tryz.func95, Tryz.ntmps95
     go_wp2_with (first | (go_at_call 113; refine (lxSmall_any _ _).mono ?_; rintro e w' ⟨rfl, rfl⟩))
     all_goals go_ret2
     all_goals exact ⟨by rw [H.out]; rfl, rfl⟩
    ·
     rw [if_neg hq] at H0
     by_cases hm : Lx.markI (Lx.b s 0) (Lx.b s 1) = 0
     ·
      have H : Hid (Lx.beginI (Lx.b s 0) (Lx.b s 1) = (0, 0)) := by show _ = _; rw [H0, if_pos hm]
      clear H0
      by_cases hs1 : 1 < s.size
      ·
       have hb1 := Lx.b_lt hs1
       cases hl1 : Nm.low (Lx.b s 1) with
       | true =>
        have hq1 : ¬ Lx.b s 0 = 39 := fun h => hq ⟨h, hl1⟩
        clear hq
        go_enter Tryz.func95, Tryz.ntmps95
        go_wp2_with (first | (go_at_call 113; refine (lxSmall_any _ _).mono ?_; rintro e w' ⟨rfl, rfl⟩) | (go_at_call 114; refine (lxMark_any _ h0 _).mono ?_; rintro e w' ⟨rfl, rfl⟩))
        all_goals go_ret2
        all_goals exact ⟨by rw [H.out]; rfl, rfl⟩
       | false =>
        clear hq
        go_enter Tryz.func95, Tryz.ntmps95
        go_wp2_with (first | (go_at_call 113; refine (lxSmall_any _ _).mono ?_; rintro e w' ⟨rfl, rfl⟩) | (go_at_call 114; refine (lxMark_any _ h0 _).mono ?_; rintro e w' ⟨rfl, rfl⟩))
        all_goals go_ret2
        all_goals exact ⟨by rw [H.out]; rfl, rfl⟩
      ·
       clear hq
       go_enter Tryz.func95, Tryz.ntmps95
       go_wp2_with (first | (go_at_call 113; refine (lxSmall_any _ _).mono ?_; rintro e w' ⟨rfl, rfl⟩) | (go_at_call 114; refine (lxMark_any _ h0 _).mono ?_; rintro e w' ⟨rfl, rfl⟩))
       all_goals go_ret2
       all_goals exact ⟨by rw [H.out]; rfl, rfl⟩
     ·
      have H : Hid (Lx.beginI (Lx.b s 0) (Lx.b s 1) = (6, Lx.markI (Lx.b s 0) (Lx.b s 1))) := by show _ = _; rw [H0, if_neg hm]
      clear H0
      have hm2 : (0 : Int) < (Lx.markI (Lx.b s 0) (Lx.b s 1) : Int) := by omega
      have hq1 : ¬ Lx.b s 0 = 39 := fun h => hm (by rw [h]; unfold Lx.markI; simp)
      clear hm hq
      go_enter Tryz.func95, Tryz.ntmps95
      go_wp2_with (first | (go_at_call 113; refine (lxSmall_any _ _).mono ?_; rintro e w' ⟨rfl, rfl⟩) | (go_at_call 114; refine (lxMark_any _ h0 _).mono ?_; rintro e w' ⟨rfl, rfl⟩))
      all_goals go_ret2
      all_goals exact ⟨by rw [H.out]; rfl, rfl⟩
end Go.Proofs.YtjebepnphoeiaabGreatDoor
namespace Go.Proofs.YtjebepnphoeiaabGreatDoor
set_option linter.unusedVariables false

theorem Lx.rem_cut : ∀ (l : List UInt8) (d : Nat) (r : List UInt8), Lx.rem l d = some r → ∃ q, l = q ++ r ∧ 2 ≤ q.length ∧ ∀ m, Lx.rem (q ++ m) d = some m
 | a :: b :: t, d, r, h => by
  by_cases h1 : a = 40 ∧ b = 42
  ·
   rw [Lx.rem, if_pos h1] at h
   obtain ⟨q, e, hq, hm⟩ := Lx.rem_cut t _ r h
   refine ⟨a :: b :: q, by rw [e]; rfl, by simp, fun m => ?_⟩
   show Lx.rem (a :: b :: (q ++ m)) d = _
   rw [Lx.rem, if_pos h1, hm]
  ·
   by_cases h2 : a = 42 ∧ b = 41
   ·
    by_cases h3 : d ≤ 1
    ·
     rw [Lx.rem, if_neg h1, if_pos h2, if_pos h3] at h
     cases h
     refine ⟨[a, b], rfl, by simp, fun m => ?_⟩
     show Lx.rem (a :: b :: m) d = _
     rw [Lx.rem, if_neg h1, if_pos h2, if_pos h3]
    ·
     rw [Lx.rem, if_neg h1, if_pos h2, if_neg h3] at h
     obtain ⟨q, e, hq, hm⟩ := Lx.rem_cut t _ r h
     refine ⟨a :: b :: q, by rw [e]; rfl, by simp, fun m => ?_⟩
     show Lx.rem (a :: b :: (q ++ m)) d = _
     rw [Lx.rem, if_neg h1, if_pos h2, if_neg h3, hm]
   ·
    rw [Lx.rem, if_neg h1, if_neg h2] at h
    obtain ⟨q, e, hq, hm⟩ := Lx.rem_cut (b :: t) _ r h
    cases q with
    | nil => simp at hq
    | cons x q =>
     have hx : b = x := by simp at e; exact e.1
     subst hx
     refine ⟨a :: b :: q, by rw [e]; rfl, by simp, fun m => ?_⟩
     have := hm m
     show Lx.rem (a :: b :: (q ++ m)) d = _
     rw [Lx.rem, if_neg h1, if_neg h2]; exact this
 | [_], d, r, h => by cases h
 | [], d, r, h => by cases h

theorem Lx.opens_app {q m r : List UInt8} (hq : 2 ≤ q.length) (h : Lx.opens (q ++ r) = true) : Lx.opens (q ++ m) = true := by
 unfold Lx.opens at h ⊢
 rw [List.take_append_of_le_length hq] at h ⊢; exact h

theorem Lx.skip_cut : ∀ (N : Nat) (l r : List UInt8), l.length ≤ N → Lx.skip l = (r, true) → ∃ q, l = q ++ r ∧ (∀ m, Lx.skip (q ++ m) = Lx.skip m) ∧ Lx.skip r = (r, true)
 | N, [], r, hN, h => by
  rw [Lx.skip_nil] at h; cases h
  exact ⟨[], rfl, fun m => rfl, Lx.skip_nil⟩
 | 0, c :: t, r, hN, h => by simp at hN
 | N + 1, c :: t, r, hN, h => by
  cases hb : Lx.blank (c.toNat : Int) with
  | true =>
   rw [Lx.skip_blank hb] at h
   obtain ⟨q, e, hm, hr⟩ := Lx.skip_cut N t r (by simp at hN; omega) h
   refine ⟨c :: q, by rw [e]; rfl, fun m => ?_, hr⟩
   show Lx.skip (c :: (q ++ m)) = _
   rw [Lx.skip_blank hb, hm]
  | false =>
   cases ho : Lx.opens (c :: t) with
   | false => rw [Lx.skip_stop hb ho] at h; cases h; exact ⟨[], rfl, fun m => rfl, Lx.skip_stop hb ho⟩
   | true =>
    cases hR : Lx.rem (c :: t) 0 with
    | none => rw [Lx.skip_open ho hR] at h; cases h
    | some r1 =>
     rw [Lx.skip_rem ho hR] at h
     have hlt := Lx.rem_lt _ _ _ hR
     obtain ⟨q1, e1, hq1, hm1⟩ := Lx.rem_cut _ _ _ hR
     obtain ⟨q, e, hm, hr⟩ := Lx.skip_cut N r1 r (by simp at hN hlt; omega) h
     refine ⟨q1 ++ q, by rw [e1, e, List.append_assoc], fun m => ?_, hr⟩
     rw [List.append_assoc, Lx.skip_rem (l := q1 ++ (q ++ m)) (r := q ++ m) (Lx.opens_app (r := r1) hq1 (by rw [← e1]; exact ho)) (hm1 _), hm]

theorem Lx.skip_len : ∀ (N : Nat) (l : List UInt8), l.length ≤ N → (Lx.skip l).1.length ≤ l.length
 | N, [], hN => by rw [Lx.skip_nil]; simp
 | 0, c :: t, hN => by simp at hN
 | N + 1, c :: t, hN => by
  cases hb : Lx.blank (c.toNat : Int) with
  | true => rw [Lx.skip_blank hb]; have := Lx.skip_len N t (by simp at hN; omega); simp; omega
  | false =>
   cases ho : Lx.opens (c :: t) with
   | false => rw [Lx.skip_stop hb ho]; exact Nat.le_refl _
   | true =>
    cases hR : Lx.rem (c :: t) 0 with
    | none => rw [Lx.skip_open ho hR]; exact Nat.le_refl _
    | some r1 =>
     rw [Lx.skip_rem ho hR]
     have hlt := Lx.rem_lt _ _ _ hR
     have := Lx.skip_len N r1 (by simp at hN hlt; omega); omega

theorem Lx.mark_le (l : List UInt8) : Lx.mark l ≤ l.length ∧ Lx.mark l ≤ 2 := by
 cases l with
 | nil => simp [Lx.mark]
 | cons c t =>
  rw [Lx.mark_cons]
  split
  ·
   next h => cases t with
   | nil => simp at h
   | cons b t => simp
  ·
   split <;> simp
theorem Lx.begin_le (l : List UInt8) : (Lx.begin l).2 ≤ l.length ∧ (Lx.begin l).2 ≤ 2 ∧ ((Lx.begin l).1 ≠ 0 → 1 ≤ (Lx.begin l).2) ∧ (Lx.begin l).1 ≤ 6 ∧ (Lx.begin l).1 ≠ 3 := by
 cases l with
 | nil => simp [Lx.begin]
 | cons c t =>
  have hm := Lx.mark_le (c :: t)
  rw [Lx.begin_cons]
  split
  ·
   simp
  ·
   split
   ·
    simp
   ·
    split
    ·
     simp
    ·
     split
     ·
      next h => cases t with
      | nil => simp at h
      | cons b t => simp
     ·
      split
      ·
       simp
      ·
       refine ⟨hm.1, hm.2, fun _ => by show 1 ≤ Lx.mark (c :: t); omega, by simp, by simp⟩
theorem Lx.text_pre (l : List UInt8) : Lx.text l ++ l.drop (Lx.text l).length = l := by
 have hb := (Lx.begin_le l).1
 unfold Lx.text
 rw [List.length_append, List.length_take, Nat.min_eq_left hb, ← List.drop_drop]
 have h2 : ∀ (p : UInt8 → Bool) (m : List UInt8), m.takeWhile p ++ m.drop (m.takeWhile p).length = m := by
  intro p m
  induction m with
  | nil => rfl
  | cons a m ih =>
   rw [List.takeWhile_cons]
   split
   ·
    show a :: _ = _; rw [List.length_cons, List.drop_succ_cons]; congr 1
   ·
    rfl
 rw [List.append_assoc, h2, List.take_append_drop]
theorem Lx.text_pos (l : List UInt8) (h : (Lx.begin l).1 ≠ 0) : 1 ≤ (Lx.text l).length := by
 have hb := Lx.begin_le l
 unfold Lx.text
 rw [List.length_append, List.length_take, Nat.min_eq_left hb.1]
 have := hb.2.2.1 h; omega
theorem Lx.next_kind {l : List UInt8} {k n : Nat} (h : Lx.next l = .good k n) : (Lx.begin l).1 ≠ 0 ∧ 1 ≤ k ∧ k ≤ 6 ∧ (k ≠ 4 → n = 0) ∧ n ≤ 9223372036854775807 := by
 have hb := Lx.begin_le l
 unfold Lx.next at h
 simp only at h
 split at h
 ·
  cases h
 ·
  next h0 =>
  split at h
  ·
   cases h; exact ⟨h0, by omega, by omega, fun _ => rfl, by omega⟩
  ·
   split at h
   ·
    split at h
    ·
     cases h; exact ⟨h0, by omega, by omega, fun h => absurd rfl h, by assumption⟩
    ·
     cases h
   ·
    split at h
    ·
     cases h
    ·
     cases h
     refine ⟨h0, ?_, ?_, fun _ => rfl, by omega⟩ <;> split <;> omega

theorem Lx.lexN_eq (c : Nat) (l : List UInt8) : Lx.lexN c l = if (Lx.skip l).2 = false then .bad (Lx.skip l).1.length 10
 else if (Lx.skip l).1 = [] then .good []
 else match Lx.next (Lx.skip l).1 with
  | .bad e => .bad (Lx.skip l).1.length e
  | .good k n => match c with
   | 0 => .bad (Lx.skip l).1.length 3
   | c + 1 => (Lx.lexN c ((Lx.skip l).1.drop (Lx.text (Lx.skip l).1).length)).put ⟨k, Lx.text (Lx.skip l).1, n, (Lx.skip l).1.length⟩ := by cases c <;> (rw [Lx.lexN]; try rfl)
theorem Lx.lexN_skip {l l' : List UInt8} (h : Lx.skip l = Lx.skip l') (c : Nat) : Lx.lexN c l = Lx.lexN c l' := by rw [Lx.lexN_eq c l, Lx.lexN_eq c l', h]

structure Lx.At (t r : List UInt8) (k n : Nat) : Prop where
 stop : Lx.skip (t ++ r) = (t ++ r, true)
 next : Lx.next (t ++ r) = .good k n
 text : Lx.text (t ++ r) = t
 pos : 1 ≤ t.length

theorem Lx.lexN_cons {l t r : List UInt8} {k n : Nat} (h : Lx.At t r k n) (hs : Lx.skip l = Lx.skip (t ++ r)) (c : Nat) : Lx.lexN (c + 1) l = (Lx.lexN c r).put ⟨k, t, n, (t ++ r).length⟩ := by
 rw [Lx.lexN_skip hs, Lx.lexN_eq, h.stop]
 simp only
 rw [if_neg (by simp), if_neg (by intro e; have h9 := h.pos; have h8 := congrArg List.length e; rw [List.length_append, List.length_nil] at h8; omega), h.next, h.text]
 simp only [List.drop_left]
theorem Lx.lexN_good_nil {c : Nat} {l : List UInt8} (h : Lx.lexN c l = .good []) : ∀ m, Lx.skip (l ++ m) = Lx.skip m := by
 rw [Lx.lexN_eq] at h
 split at h
 ·
  cases h
 ·
  next h1 =>
  split at h
  ·
   next h2 =>
   obtain ⟨q, e, hm, hr⟩ := Lx.skip_cut _ l [] (Nat.le_refl _) (by rw [← h2]; exact Prod.ext rfl (by simpa using h1))
   rw [List.append_nil] at e; subst e; exact hm
  ·
   split at h
   ·
    cases h
   ·
    split at h
    ·
     cases h
    ·
     next c0 =>
     revert h
     generalize Lx.lexN c0 _ = R
     cases R with
     | bad _ _ => intro h; cases h
     | good _ => intro h; cases h
theorem Lx.lexN_nil {q : List UInt8} (h : ∀ m, Lx.skip (q ++ m) = Lx.skip m) (c : Nat) : Lx.lexN c q = .good [] := by
 have := h []
 rw [List.append_nil, Lx.skip_nil] at this
 rw [Lx.lexN_eq, this]; rfl
theorem Lx.lexN_uncons {c : Nat} {l : List UInt8} {a : Lx.Tok} {ts : List Lx.Tok} (h : Lx.lexN c l = .good (a :: ts)) :
  ∃ q r c0, c = c0 + 1 ∧ l = q ++ (a.text ++ r) ∧ (∀ m, Lx.skip (q ++ m) = Lx.skip m) ∧ a.left = (a.text ++ r).length ∧ Lx.At a.text r a.kind a.n ∧ Lx.lexN c0 r = .good ts := by
 rw [Lx.lexN_eq] at h
 split at h
 ·
  cases h
 ·
  next h1 =>
  split at h
  ·
   cases h
  ·
   next h2 =>
   obtain ⟨q, e, hm, hr⟩ := Lx.skip_cut _ l (Lx.skip l).1 (Nat.le_refl _) (Prod.ext rfl (by simpa using h1))
   generalize hR : (Lx.skip l).1 = R at *
   cases hn : Lx.next R with
   | bad e => rw [hn] at h; cases h
   | good k n =>
    rw [hn] at h
    cases c with
    | zero => cases h
    | succ c0 =>
     simp only at h
     have hk := Lx.next_kind hn
     cases hl : Lx.lexN c0 (R.drop (Lx.text R).length) with
     | bad _ _ => rw [hl] at h; cases h
     | good ts0 =>
      rw [hl] at h; cases h
      have hp := Lx.text_pre R
      refine ⟨q, R.drop (Lx.text R).length, c0, rfl, by rw [hp]; exact e, hm, by rw [hp], ⟨by rw [hp]; exact hr, by rw [hp]; exact hn, by rw [hp], Lx.text_pos R hk.1⟩, hl⟩
theorem Lx.lexN_len : ∀ {ts : List Lx.Tok} {c : Nat} {l : List UInt8}, Lx.lexN c l = .good ts → ts.length ≤ c
 | [], c, l, h => Nat.zero_le _
 | a :: ts, c, l, h => by
  obtain ⟨q, r, c0, rfl, -, -, -, -, h2⟩ := Lx.lexN_uncons h
  have := Lx.lexN_len h2; simp; omega
theorem Lx.lexN_mono : ∀ {ts : List Lx.Tok} {c : Nat} {l : List UInt8}, Lx.lexN c l = .good ts → ∀ {c' : Nat}, ts.length ≤ c' → Lx.lexN c' l = .good ts
 | [], c, l, h, c', _ => by
  exact Lx.lexN_nil (Lx.lexN_good_nil h) c'
 | a :: ts, c, l, h, 0, hc => by simp at hc
 | a :: ts, c, l, h, c' + 1, hc => by
  obtain ⟨q, r, c0, rfl, e, hm, hl, ha, h2⟩ := Lx.lexN_uncons h
  rw [Lx.lexN_cons ha (by rw [e, hm]) c', Lx.lexN_mono h2 (by simp at hc; omega)]
  show Lx.Res.good _ = _
  rw [← hl]

theorem Lx.blank_facts {x : UInt8} (h : Lx.blank (x.toNat : Int) = true) : x ≠ 62 ∧ x ≠ 42 ∧ Nm.low (x.toNat : Int) = false ∧ ∀ k, Lx.goes k x = false := by
 have : x = 32 ∨ x = 9 ∨ x = 10 ∨ x = 13 := by
  unfold Lx.blank at h
  simp at h
  rcases h with ((h | h) | h) | h
  ·
   exact .inl (UInt8.toNat_inj.1 (by rw [show (32 : UInt8).toNat = 32 from rfl]; omega))
  ·
   exact .inr (.inl (UInt8.toNat_inj.1 (by rw [show (9 : UInt8).toNat = 9 from rfl]; omega)))
  ·
   exact .inr (.inr (.inl (UInt8.toNat_inj.1 (by rw [show (10 : UInt8).toNat = 10 from rfl]; omega))))
  ·
   exact .inr (.inr (.inr (UInt8.toNat_inj.1 (by rw [show (13 : UInt8).toNat = 13 from rfl]; omega))))
 have hg : ∀ y : UInt8, Nm.dig (y.toNat : Int) = false → Nm.low (y.toNat : Int) = false → Nm.body (y.toNat : Int) = false → ∀ k, Lx.goes k y = false := by
  intro y h1 h2 h3 k
  unfold Lx.goes
  rw [h1, h2, h3]; split <;> simp
 rcases this with rfl | rfl | rfl | rfl <;> exact ⟨by decide, by decide, by decide, hg _ (by decide) (by decide) (by decide)⟩
def Lx.Fits (r m : List UInt8) : Prop := m.head? = r.head? ∨ ∀ x, m.head? = some x → Lx.blank (x.toNat : Int) = true

theorem Lx.begin_swap {t r m : List UInt8} (hp : 1 ≤ t.length) (hb : (Lx.begin (t ++ r)).2 ≤ t.length) (hf : Lx.Fits r m) (h0 : (Lx.begin (t ++ r)).1 ≠ 0) : Lx.begin (t ++ m) = Lx.begin (t ++ r) := by
 match t, hp with
 | [c], _ =>
  rcases hf with hf | hf
  ·
   have : ∀ a : List UInt8, Lx.begin ([c] ++ a) = Lx.begin (c :: a) := fun a => rfl
   rw [this, this, Lx.begin_cons, Lx.begin_cons, Lx.mark_cons, Lx.mark_cons, hf]
  ·
   have hm : Lx.begin (c :: m) = Lx.begin [c] := by
    have h1 : (m.head?.any fun b => Nm.low (b.toNat : Int)) = false := by
     cases hx : m.head? with
     | none => rfl
     | some x => simpa using (Lx.blank_facts (hf x hx)).2.2.1
    have h2 : m.head? ≠ some 62 := fun e => (Lx.blank_facts (hf _ e)).1 rfl
    rw [Lx.begin_cons, Lx.begin_cons, Lx.mark_cons, Lx.mark_cons, h1]; simp [h2]
   have hr : Lx.begin (c :: r) = Lx.begin [c] := by
    have hb' : (Lx.begin (c :: r)).2 ≤ 1 := hb
    have hmk : Lx.mark (c :: r) ≤ 1 → Lx.mark (c :: r) = Lx.mark [c] := by
     intro h1
     by_cases hc : (c = 58 ∨ c = 61 ∨ c = 45) ∧ r.head? = some 62
     ·
      rw [Lx.mark_cons, if_pos hc] at h1; omega
     ·
      rw [Lx.mark_cons, Lx.mark_cons, if_neg hc, if_neg (c := (c = 58 ∨ c = 61 ∨ c = 45) ∧ ([] : List UInt8).head? = some 62) (by simp)]
    rw [Lx.begin_cons, Lx.begin_cons]
    rw [Lx.begin_cons] at hb'
    by_cases a1 : Nm.low (c.toNat : Int) = true
    ·
     rw [if_pos a1, if_pos a1]
    ·
     rw [if_neg a1, if_neg a1]
     rw [if_neg a1] at hb'
     by_cases a2 : Nm.high (c.toNat : Int) = true
     ·
      rw [if_pos a2, if_pos a2]
     ·
      rw [if_neg a2, if_neg a2]
      rw [if_neg a2] at hb'
      by_cases a3 : Nm.dig (c.toNat : Int) = true
      ·
       rw [if_pos a3, if_pos a3]
      ·
       rw [if_neg a3, if_neg a3]
       rw [if_neg a3] at hb'
       by_cases a4 : c = 39 ∧ (r.head?.any fun b => Nm.low (b.toNat : Int)) = true
       ·
        rw [if_pos a4] at hb'; have h9 : 2 ≤ 1 := hb'; omega
       ·
        rw [if_neg a4] at hb' ⊢
        rw [if_neg (c := c = 39 ∧ (([] : List UInt8).head?.any fun b => Nm.low (b.toNat : Int)) = true) (by simp)]
        by_cases b0 : Lx.mark (c :: r) = 0
        ·
         rw [← hmk (by omega)]
        ·
         rw [if_neg b0] at hb'; rw [← hmk hb']
   show Lx.begin (c :: m) = Lx.begin (c :: r)
   rw [hm, hr]
 | c :: d :: t, _ =>
  show Lx.begin (c :: d :: (t ++ m)) = Lx.begin (c :: d :: (t ++ r))
  rw [Lx.begin_cons, Lx.begin_cons, Lx.mark_cons, Lx.mark_cons]
  rfl
theorem Lx.takeWhile_swap {p : UInt8 → Bool} {a r m : List UInt8} (h : (a ++ r).takeWhile p = a) (hf : m.head? = r.head? ∨ ∀ x, m.head? = some x → p x = false) : (a ++ m).takeWhile p = a := by
 induction a with
 | nil =>
  rw [List.nil_append] at h ⊢
  cases m with
  | nil => rfl
  | cons x m =>
   have : p x = false := by
    rcases hf with hf | hf
    ·
     cases r with
     | nil => simp at hf
     | cons y r =>
      have : x = y := by simpa using hf
      subst this
      rw [List.takeWhile_cons] at h
      cases hp : p x with
      | true => rw [if_pos hp] at h; cases h
      | false => rfl
    ·
     exact hf x rfl
   rw [List.takeWhile_cons, if_neg (by rw [this]; simp)]
 | cons b a ih =>
  rw [List.cons_append, List.takeWhile_cons] at h ⊢
  split at h
  ·
   next hp => rw [if_pos hp, ih (List.cons.inj h).2]
  ·
   cases h
theorem Lx.At.swap {t r m : List UInt8} {k n : Nat} (h : Lx.At t r k n) (hf : Lx.Fits r m) : Lx.At t m k n := by
 have hk := Lx.next_kind h.next
 have hbl := Lx.begin_le (t ++ r)
 have hx := h.text
 have hle : (Lx.begin (t ++ r)).2 ≤ t.length := by
  have h1 : (Lx.text (t ++ r)).length = t.length := by rw [hx]
  unfold Lx.text at h1
  rw [List.length_append, List.length_take, Nat.min_eq_left hbl.1] at h1; omega
 have hb := Lx.begin_swap h.pos hle hf hk.1
 have htx : Lx.text (t ++ m) = t := by
  unfold Lx.text at hx ⊢
  rw [hb]
  rw [List.take_append_of_le_length hle, List.drop_append_of_le_length hle] at hx ⊢
  have ht := List.take_append_drop (Lx.begin (t ++ r)).2 t
  have hw : (t.drop (Lx.begin (t ++ r)).2 ++ r).takeWhile (Lx.goes (Lx.begin (t ++ r)).1) = t.drop (Lx.begin (t ++ r)).2 := by
   apply List.append_cancel_left («as» := t.take (Lx.begin (t ++ r)).2)
   rw [hx, ht]
  rw [Lx.takeWhile_swap hw (hf.imp id fun hf x hx => (Lx.blank_facts (hf x hx)).2.2.2 _), ht]
 refine ⟨?_, ?_, htx, h.pos⟩
 ·
  have hs := h.stop
  match t, h.pos with
  | c :: t, _ =>
   have hbl : Lx.blank (c.toNat : Int) = false := by
    cases hb : Lx.blank (c.toNat : Int) with
    | false => rfl
    | true =>
     exfalso
     have h1 : Lx.skip (c :: (t ++ r)) = _ := Lx.skip_blank hb
     have h2 := Lx.skip_len _ (t ++ r) (Nat.le_refl _)
     rw [← h1, show c :: (t ++ r) = c :: t ++ r from rfl, hs] at h2
     simp at h2; omega
   have ho : Lx.opens (c :: (t ++ r)) = false := by
    cases ho : Lx.opens (c :: (t ++ r)) with
    | false => rfl
    | true =>
     exfalso
     cases hR : Lx.rem (c :: (t ++ r)) 0 with
     | none =>
      have := Lx.skip_open ho hR
      rw [show c :: (t ++ r) = c :: t ++ r from rfl, hs] at this; cases this
     | some r1 =>
      have h1 := Lx.skip_rem ho hR
      have h2 := Lx.skip_len _ r1 (Nat.le_refl _)
      have h3 := Lx.rem_lt _ _ _ hR
      rw [← h1, show c :: (t ++ r) = c :: t ++ r from rfl, hs] at h2
      simp at h2 h3; omega
   refine Lx.skip_stop hbl ?_
   cases t with
   | cons d t => exact ho
   | nil =>
    rw [List.nil_append] at ho
    show Lx.opens (c :: m) = false
    rcases hf with hf | hf
    ·
     cases m with
     | nil => simp [Lx.opens]
     | cons x m => cases r with
      | nil => simp at hf
      | cons y r =>
       have : x = y := by simpa using hf
       subst this; exact ho
    ·
     cases m with
     | nil => simp [Lx.opens]
     | cons x m =>
      have := (Lx.blank_facts (hf x rfl)).2.1
      simp [Lx.opens, this]
 ·
  have hn := h.next
  unfold Lx.next at hn ⊢
  rw [hb, htx]; rw [hx] at hn; exact hn
end Go.Proofs.YtjebepnphoeiaabGreatDoor
namespace Go.Proofs.YtjebepnphoeiaabGreatDoor
open Go.RowKit
set_option linter.unusedVariables false

theorem Lx.two_eq (s : ByteArray) (k : Nat) (h : k + 1 < s.size) (x y : Nat) (hx : x < 256) (hy : y < 256) : ((s.extract k (k + 2)).toList == [UInt8.ofNat x, UInt8.ofNat y]) = (decide (Lx.b s k = x) && decide (Lx.b s (k + 1) = y)) := by
 have h0 : k < s.size := by omega
 have e : (s.extract k (k + 2)).toList = [s[k], s[k + 1]] := by
  rw [Lib.toList_data, ByteArray.data_extract, Array.toList_extract, List.extract_eq_take_drop, Nm.drop_cons s k h0, Nm.drop_cons s (k + 1) h, show k + 2 - k = 2 by omega]
  rfl
 rw [e, ← Lx.b_lt h0, ← Lx.b_lt h, Bool.eq_iff_iff]
 have a1 := Lx.u8 s[k] x hx
 have a2 := Lx.u8 s[k + 1] y hy
 simp [a1, a2]
def Lx.remN (s : ByteArray) : Nat := match Lx.rem s.data.toList 0 with
 | none => 0
 | some r => s.size - r.length

set_option maxHeartbeats 1000000 in
theorem lxRemark_any (s : ByteArray) (ho : Lx.opens s.data.toList = true) (hs : s.size ≤ 4096) (w : World) : Calls Tryz.prog 94 #[.string s] w fun e w' => e = .returned (.int .i64 (Lx.remN s)) ∧ w' = w := by
 have ho2 : Lx.b s 0 = 40 ∧ Lx.b s 1 = 42 := by
  have := Lx.opens_at s 0
  rw [List.drop_zero, ho] at this
  simpa using this.symm
 have h12 : 1 < s.size := by
  rcases Nat.lt_or_ge 1 s.size with h | h
  ·
   exact h
  ·
   have := ho2.2; rw [Lx.b_ge (by omega)] at this; omega
 have hn0 : Hid (∀ k d, Lx.rem s.data.toList 0 = Lx.rem (s.data.toList.drop k) d → s.size ≤ k + 1 → Lx.remN s = 0) := by
  intro k d h h2
  unfold Lx.remN; rw [h, Lx.rem_end s k d h2]
 go_enter Tryz.func94, Tryz.ntmps94
 go_wp2
 go_step3
 go_wp2
 go_step3
 go_wp2
 go_loop [3, 4, 5] (fun u v x => ∃ k d : Nat, u = .int .i64 0 ∧ v = .int .i64 d ∧ x = .int .i64 k ∧ k ≤ s.size ∧ d ≤ k ∧ (k = 0 ∨ 1 ≤ d) ∧ Hid (Lx.rem s.data.toList 0 = Lx.rem (s.data.toList.drop k) d)) (fun u v x => s.size - (intOf x).toNat)
 case atStart => exact ⟨0, 0, rfl, rfl, rfl, Nat.zero_le _, Nat.zero_le _, .inl rfl, rfl⟩
 case round =>
  obtain ⟨k, d, rfl, rfl, rfl, hk, hdk, hd, hx⟩ := hrel
  by_cases hlt : k + 1 < s.size
  ·
   have hx2 := hx.out
   rw [Lx.rem_at s k d hlt] at hx2
   have t1 := Lx.two_eq s k hlt 40 42 (by decide) (by decide)
   have t2 := Lx.two_eq s k hlt 42 41 (by decide) (by decide)
   by_cases c1 : Lx.b s k = 40 ∧ Lx.b s (k + 1) = 42
   ·
    rw [if_pos c1] at hx2
    have HX : Hid (Lx.rem s.data.toList 0 = Lx.rem (s.data.toList.drop (k + 2)) (d + 1)) := hx2
    have t3 : ((s.extract k (k + 2)).toList == [40, 42]) = true := by rw [show ((s.extract k (k + 2)).toList == [40, 42]) = _ from t1, c1.1, c1.2]; rfl
    clear hx hx2 t1 t2 c1 hn0 ho2 ho
    go_wp2
    go_round
    case rel => exact ⟨k + 2, d + 1, rfl, by go_num, by go_num, by omega, by omega, by omega, HX⟩
    case measure => simp [intOf]; omega
   ·
    have t3 : ((s.extract k (k + 2)).toList == [40, 42]) = false := by
     rw [show ((s.extract k (k + 2)).toList == [40, 42]) = _ from t1]
     cases h : (decide (Lx.b s k = ((40 : Nat) : Int)) && decide (Lx.b s (k + 1) = ((42 : Nat) : Int))) with
     | false => rfl
     | true => exact absurd (by simpa using h) c1
    rw [if_neg c1] at hx2
    by_cases c2 : Lx.b s k = 42 ∧ Lx.b s (k + 1) = 41
    ·
     have t4 : ((s.extract k (k + 2)).toList == [42, 41]) = true := by rw [show ((s.extract k (k + 2)).toList == [42, 41]) = _ from t2, c2.1, c2.2]; rfl
     rw [if_pos c2] at hx2
     have hd1 : 1 ≤ d := by
      rcases hd with rfl | hd
      ·
       exact absurd ho2 c1
      ·
       exact hd
     by_cases hd2 : d ≤ 1
     ·
      rw [if_pos hd2] at hx2
      obtain rfl : d = 1 := by omega
      have HX : Hid (Lx.remN s = k + 2) := by
       show _ = _; unfold Lx.remN; rw [hx2]
       show s.size - (s.data.toList.drop (k + 2)).length = _
       rw [List.length_drop, Nm.len]; omega
      clear hx hx2 t1 t2 c1 c2 hn0 ho2 ho hd hd1 hd2
      go_wp2
      go_ret
      exact ⟨ret_int (by rw [HX.out]; go_num), rfl⟩
     ·
      rw [if_neg hd2] at hx2
      have HX : Hid (Lx.rem s.data.toList 0 = Lx.rem (s.data.toList.drop (k + 2)) (d - 1)) := hx2
      have hd3 : (d : Int) - 1 = ((d - 1 : Nat) : Int) := by omega
      have hd4 : 1 ≤ d - 1 := by omega
      have hd5 : d - 1 ≤ k := by omega
      clear hx hx2 t1 t2 c1 c2 hn0 ho2 ho hd hd1 hd2
      generalize d - 1 = r at *
      go_wp2
      go_round
      case rel => exact ⟨k + 2, r, rfl, by rw [← hd3], by go_num, by omega, by omega, by omega, HX⟩
      case measure => simp [intOf]; omega
    ·
     have t4 : ((s.extract k (k + 2)).toList == [42, 41]) = false := by
      rw [show ((s.extract k (k + 2)).toList == [42, 41]) = _ from t2]
      cases h : (decide (Lx.b s k = ((42 : Nat) : Int)) && decide (Lx.b s (k + 1) = ((41 : Nat) : Int))) with
      | false => rfl
      | true => exact absurd (by simpa using h) c2
     rw [if_neg c2] at hx2
     have HX : Hid (Lx.rem s.data.toList 0 = Lx.rem (s.data.toList.drop (k + 1)) d) := hx2
     have hd1 : 1 ≤ d := by
      rcases hd with rfl | hd
      ·
       exact absurd ho2 c1
      ·
       exact hd
     clear hx hx2 t1 t2 c1 c2 hn0 ho2 ho hd
     go_wp2
     go_round
     case rel => exact ⟨k + 1, d, rfl, rfl, by go_num, by omega, by omega, by omega, HX⟩
     case measure => simp [intOf]; omega
  ·
   have HX : Hid (Lx.remN s = 0) := hn0.out k d hx.out (by omega)
   clear hn0 hx ho2 ho
   go_wp2
   try rw [Exit.noGoto_ret]
   go_ret
   exact ⟨ret_int (by rw [HX.out]; rfl), rfl⟩

theorem lxPrefix0_any (s : ByteArray) (hs : s.size ≤ maxLen) (w : World) : Calls Tryz.prog 112 #[.string s, .string ⟨#[40, 42]⟩] w fun e w' => e = .returned (.bool (Lx.opens s.data.toList)) ∧ w' = w := by
 unfold maxLen at hs
 have ho := Lx.opens_at s 0
 rw [List.drop_zero] at ho
 by_cases h1 : 1 < s.size
 ·
  have t := Lx.two_eq s 0 (by omega) 40 42 (by decide) (by decide)
  have H : Hid (Lx.opens s.data.toList = ((s.extract 0 2).toList == [40, 42])) := by
   show _ = _; rw [ho]; exact t.symm
  clear ho t
  have h2 : 2 ≤ s.size := by omega
  cases hc : ((s.extract 0 2).toList == [40, 42]) with
  | true =>
   go_enter Tryz.func112, Tryz.ntmps112
   go_wp2
   go_ret
   exact ⟨ret_bool (by rw [H.out]; exact hc.symm), rfl⟩
  | false =>
   go_enter Tryz.func112, Tryz.ntmps112
   go_wp2
   go_ret
   exact ⟨ret_bool (by rw [H.out]; exact hc.symm), rfl⟩
 ·
  have H : Hid (Lx.opens s.data.toList = false) := by show _ = _; rw [ho, Lx.b_ge (k := 0 + 1) (by omega)]; simp
  clear ho
  go_enter Tryz.func112, Tryz.ntmps112
  go_wp2
  go_ret
  exact ⟨ret_bool H.out.symm, rfl⟩

theorem lxPrefix_any (s : ByteArray) (hs : s.size ≤ maxLen) (w : World) : Calls Tryz.prog 93 #[.string s, .string ⟨#[40, 42]⟩] w fun e w' => e = .returned (.bool (Lx.opens s.data.toList)) ∧ w' = w := by
 go_enter Tryz.func93, Tryz.ntmps93
 go_wp2_with (go_at_call 112; refine (lxPrefix0_any _ hs _).mono ?_; rintro e w' ⟨rfl, rfl⟩)
 go_ret
 exact ⟨rfl, rfl⟩

theorem Lx.rem_drop {l r : List UInt8} {d : Nat} (h : Lx.rem l d = some r) : r = l.drop (l.length - r.length) := by
 obtain ⟨q, e, -, -⟩ := Lx.rem_cut l d r h
 have : l.length - r.length = q.length := by rw [e, List.length_append]; omega
 rw [this, e, List.drop_left]

set_option maxHeartbeats 1000000 in
theorem lxSkip_any (s : ByteArray) (hs : s.size ≤ 4096) (w : World) : Calls Tryz.prog 61 #[.string s] w fun e w' => e = .returned (.tuple #[.int .i64 ((s.size - (Lx.skip s.data.toList).1.length : Nat) : Int), .bool (Lx.skip s.data.toList).2]) ∧ w' = w := by
 go_enter Tryz.func61, Tryz.ntmps61
 go_wp2
 go_loop [4] (fun x => ∃ k : Nat, x = .int .i64 k ∧ k ≤ s.size ∧ Hid (Lx.skip s.data.toList = Lx.skip (s.data.toList.drop k))) (fun x => s.size - (intOf x).toNat)
 case atStart => exact ⟨0, rfl, Nat.zero_le _, rfl⟩
 case round =>
  obtain ⟨k, rfl, hk, hx⟩ := hrel
  by_cases hlt : k < s.size
  ·
   have hx2 := hx.out
   rw [Lx.skip_at s k hlt] at hx2
   have hb := Lx.b_lt hlt
   cases hbl : Lx.blank (Lx.b s k) with
   | true =>
    rw [if_pos hbl] at hx2
    have HX : Hid (Lx.skip s.data.toList = Lx.skip (s.data.toList.drop (k + 1))) := hx2
    clear hx hx2
    go_wp2_with (go_at_call 92; refine (lxBlank_any _ _).mono ?_; rintro e w' ⟨rfl, rfl⟩)
    go_round
    case rel => exact ⟨k + 1, by go_num, by omega, HX⟩
    case measure => simp [intOf]; omega
   | false =>
    rw [if_neg (by rw [hbl]; simp), ← Lx.opens_at] at hx2
    have hsz := Lx.rest_size s k
    have hso : Lx.opens (s.extract k s.size).data.toList = Lx.opens (s.data.toList.drop k) := by rw [Lx.rest]
    have hs4 : (s.extract k s.size).size ≤ 4096 := by rw [hsz]; omega
    have hsm : (s.extract k s.size).size ≤ maxLen := by rw [hsz]; unfold maxLen; omega
    cases ho : Lx.opens (s.data.toList.drop k) with
    | false =>
     rw [if_neg (by rw [ho]; simp)] at hx2
     have HX : Hid (Lx.skip s.data.toList = (s.data.toList.drop k, true)) := hx2
     rw [ho] at hso
     clear hx hx2 ho hsz
     go_wp2_with (first | (go_at_call 92; refine (lxBlank_any _ _).mono ?_; rintro e w' ⟨rfl, rfl⟩) | (go_at_call 93; refine (lxPrefix_any _ hsm _).mono ?_; rw [hso]; rintro e w' ⟨rfl, rfl⟩))
     go_ret2
     refine ⟨?_, rfl⟩
     rw [HX.out]
     show _ = Ending.returned (.tuple #[.int .i64 ((s.size - (s.data.toList.drop k).length : Nat) : Int), .bool true])
     rw [List.length_drop, Nm.len, show s.size - (s.size - k) = k by omega]; rfl
    | true =>
     rw [if_pos ho] at hx2
     rw [ho] at hso
     cases hR : Lx.rem (s.data.toList.drop k) 0 with
     | none =>
      rw [hR] at hx2
      have HX : Hid (Lx.skip s.data.toList = (s.data.toList.drop k, false)) := hx2
      have hn : Lx.remN (s.extract k s.size) = 0 := by unfold Lx.remN; rw [Lx.rest, hR]
      clear hx hx2 ho hsz hR
      go_wp2_with (first | (go_at_call 92; refine (lxBlank_any _ _).mono ?_; rintro e w' ⟨rfl, rfl⟩) | (go_at_call 93; refine (lxPrefix_any _ hsm _).mono ?_; rw [hso]; rintro e w' ⟨rfl, rfl⟩) | (go_at_call 94; refine (lxRemark_any _ hso hs4 _).mono ?_; rw [hn]; rintro e w' ⟨rfl, rfl⟩))
      go_ret2
      refine ⟨?_, rfl⟩
      rw [HX.out]
      show _ = Ending.returned (.tuple #[.int .i64 ((s.size - (s.data.toList.drop k).length : Nat) : Int), .bool false])
      rw [List.length_drop, Nm.len, show s.size - (s.size - k) = k by omega]; rfl
     | some r =>
      rw [hR] at hx2
      have hlen := Lx.rem_lt _ _ _ hR
      rw [List.length_drop, Nm.len] at hlen
      have hr := Lx.rem_drop hR
      rw [List.length_drop, Nm.len, List.drop_drop, show k + (s.size - k - r.length) = s.size - r.length by omega] at hr
      have hn : Lx.remN (s.extract k s.size) = s.size - r.length - k := by unfold Lx.remN; rw [Lx.rest, hR]; show _ - r.length = _; rw [hsz]; omega
      have HX : Hid (Lx.skip s.data.toList = Lx.skip (s.data.toList.drop (s.size - r.length))) := by show _ = _; rw [← hr]; exact hx2
      have hj1 : k + 2 ≤ s.size - r.length := by omega
      have hj2 : s.size - r.length ≤ s.size := by omega
      clear hx hx2 ho hsz hR hr hlen
      generalize s.size - r.length = j at *
      have hj3 : ¬ (((j - k : Nat) : Int) = 0) := by omega
      go_wp2_with (first | (go_at_call 92; refine (lxBlank_any _ _).mono ?_; rintro e w' ⟨rfl, rfl⟩) | (go_at_call 93; refine (lxPrefix_any _ hsm _).mono ?_; rw [hso]; rintro e w' ⟨rfl, rfl⟩) | (go_at_call 94; refine (lxRemark_any _ hso hs4 _).mono ?_; rw [hn]; rintro e w' ⟨rfl, rfl⟩))
      go_round
      case rel => exact ⟨j, by go_num, hj2, HX⟩
      case measure => simp [intOf]; omega
  ·
   have HX : Hid (Lx.skip s.data.toList = ([], true)) := by
    show _ = _
    rw [hx.out, List.drop_eq_nil_of_le (by rw [Nm.len]; omega)]; exact Lx.skip_nil
   clear hx
   go_wp2
   go_ret2
   refine ⟨?_, rfl⟩
   rw [HX.out]; rfl
set_option maxRecDepth 100000 in
set_option maxHeartbeats 2000000 in
theorem reserved_any (s : ByteArray) (w : World) : Calls Tryz.prog 98 #[.string s] w fun e w' => e = .returned (.bool (Nm.reserved s)) ∧ w' = w := by
 go_enter Tryz.func98, Tryz.ntmps98
 go_wp2
 all_goals go_ret
 all_goals refine ⟨ret_bool ?_, rfl⟩
 all_goals (unfold Nm.reserved; simp only [Lib.toList_data] at *)
 all_goals (first | (simp_all [Nm.words]; done) | skip)
end Go.Proofs.YtjebepnphoeiaabGreatDoor
