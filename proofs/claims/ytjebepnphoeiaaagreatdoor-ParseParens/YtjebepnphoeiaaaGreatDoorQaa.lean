/- Pieces: Pure LexP Leaf Lists. -/
import Derived.Lib.Bytealg
import Derived.Lib.Strings
import Derived.Below
import Derived.WalkKit
import Derived.WalkSpells
import Derived.Lib.Walk
import Derived.Deep.QuietTactic
import Derived.BigQuiet
import Derived.Test.YtjebepnphoeiaaaGreatDoorProg
import Derived.Laws.AppendOwn
namespace Go.Proofs.YtjebepnphoeiaaaGreatDoor
set_option linter.unusedVariables false

def Nm.low (c : Int) : Bool := decide (97 ≤ c) && decide (c ≤ 122)
def Nm.high (c : Int) : Bool := decide (65 ≤ c) && decide (c ≤ 90)
def Nm.dig (c : Int) : Bool := decide (48 ≤ c) && decide (c ≤ 57)
def Nm.letter (c : Int) : Bool := Nm.low c || Nm.high c
def Nm.body (c : Int) : Bool := Nm.letter c || Nm.dig c || decide (c = 95)

def Nm.head (s : ByteArray) : Int := ((s.data.toList.headD 0).toNat : Int)

def Nm.speltL : List UInt8 → Bool
 | [] => false
 | c :: t => Nm.letter (c.toNat : Int) && t.all fun b => Nm.body (b.toNat : Int)
def Nm.spelt (s : ByteArray) : Bool := Nm.speltL s.data.toList

def Nm.words : List (List UInt8) := [[98, 111, 111, 108], [99, 97, 115, 101], [100, 97, 116, 97], [101, 108, 115, 101], [101, 110, 100], [102, 97, 108, 115, 101], [102, 110], [102, 117, 110], [102, 117, 110, 99, 116, 111, 114], [105, 102], [105, 110], [105, 110, 116], [108, 101, 116], [111, 102], [115, 105, 103], [115, 105, 103, 110, 97, 116, 117, 114, 101], [115, 116, 114, 117, 99, 116], [115, 116, 114, 117, 99, 116, 117, 114, 101], [116, 104, 101, 110], [116, 114, 117, 101], [116, 121, 112, 101], [117, 110, 105, 116], [118, 97, 108], [119, 104, 101, 114, 101]]
def Nm.reserved (s : ByteArray) : Bool := Nm.words.contains s.data.toList

def Nm.right (s : ByteArray) : Int := if Nm.spelt s = false then 12 else if 32 < s.size then 3 else if Nm.reserved s = true then 12 else 0
def Nm.lower (s : ByteArray) : Bool := decide (Nm.right s = 0) && Nm.low (Nm.head s)
def Nm.upper (s : ByteArray) : Bool := decide (Nm.right s = 0) && Nm.high (Nm.head s)
def Nm.tyvarL : List UInt8 → Bool
 | [] => false
 | c :: t => Nm.low (c.toNat : Int) && t.all fun b => Nm.low (b.toNat : Int) || Nm.dig (b.toNat : Int)
def Nm.tyvar (s : ByteArray) : Bool := decide (s.size ≤ 31) && Nm.tyvarL s.data.toList

theorem Nm.len (s : ByteArray) : s.data.toList.length = s.size := by rw [Array.length_toList]; rfl
theorem Nm.drop_cons (s : ByteArray) (k : Nat) (h : k < s.size) : s.data.toList.drop k = s[k] :: s.data.toList.drop (k + 1) := by
 rw [List.drop_eq_getElem_cons (by rw [Nm.len]; exact h)]; rfl
theorem Nm.head_eq (s : ByteArray) (h : 0 < s.size) : Nm.head s = (s[0].toNat : Int) := by
 have e := Nm.drop_cons s 0 h
 rw [List.drop_zero] at e
 unfold Nm.head; rw [e]; rfl
theorem Nm.body_letter {c : Int} (h : Nm.letter c = true) : Nm.body c = true := by unfold Nm.body; rw [h]; rfl

theorem Nm.spelt_nil (s : ByteArray) (h : s.size = 0) : Nm.spelt s = false := by
 have : s.data.toList = [] := List.eq_nil_of_length_eq_zero (by rw [Nm.len]; exact h)
 unfold Nm.spelt; rw [this]; rfl
theorem Nm.spelt_eq (s : ByteArray) (h : 0 < s.size) : Nm.spelt s = (Nm.letter (s[0].toNat : Int) && (s.data.toList.drop 1).all fun b => Nm.body (b.toNat : Int)) := by
 have e := Nm.drop_cons s 0 h
 rw [List.drop_zero] at e
 unfold Nm.spelt; rw [e]; rfl
theorem Nm.spelt_eq0 (s : ByteArray) (h : 0 < s.size) : Nm.spelt s = (Nm.letter (s[0].toNat : Int) && (s.data.toList.drop 0).all fun b => Nm.body (b.toNat : Int)) := by
 rw [Nm.spelt_eq s h, Nm.drop_cons s 0 h]
 cases hl : Nm.letter (s[0].toNat : Int) with
 | false => rfl
 | true => rw [List.all_cons, Nm.body_letter hl]; rfl
theorem Nm.spelt_head {s : ByteArray} (h : 0 < s.size) (h0 : Nm.letter (s[0].toNat : Int) = false) : Nm.spelt s = false := by rw [Nm.spelt_eq s h, h0]; rfl
theorem Nm.spelt_pos {s : ByteArray} (h : Nm.spelt s = true) : 0 < s.size := by
 rcases Nat.eq_zero_or_pos s.size with e | e
 ·
  rw [Nm.spelt_nil s e] at h; cases h
 ·
  exact e
theorem Nm.all_at (s : ByteArray) (f : UInt8 → Bool) (k : Nat) (h : k < s.size) : ((s.data.toList.drop k).all f) = (f s[k] && (s.data.toList.drop (k + 1)).all f) := by
 rw [Nm.drop_cons s k h]; rfl
theorem Nm.all_end (s : ByteArray) (f : UInt8 → Bool) (k : Nat) (h : s.size ≤ k) : ((s.data.toList.drop k).all f) = true := by
 rw [List.drop_eq_nil_of_le (by rw [Nm.len]; exact h)]; rfl

theorem Nm.tyvar_nil (s : ByteArray) (h : s.size = 0) : Nm.tyvar s = false := by
 have : s.data.toList = [] := List.eq_nil_of_length_eq_zero (by rw [Nm.len]; exact h)
 unfold Nm.tyvar; rw [this]; simp [Nm.tyvarL]
theorem Nm.tyvar_eq (s : ByteArray) (h : 0 < s.size) : Nm.tyvar s = (decide (s.size ≤ 31) && (Nm.low (s[0].toNat : Int) && (s.data.toList.drop 1).all fun b => Nm.low (b.toNat : Int) || Nm.dig (b.toNat : Int))) := by
 have e := Nm.drop_cons s 0 h
 rw [List.drop_zero] at e
 unfold Nm.tyvar; rw [e]; rfl
theorem Nm.tyvar_eq0 (s : ByteArray) (h : 0 < s.size) : Nm.tyvar s = (decide (s.size ≤ 31) && (Nm.low (s[0].toNat : Int) && (s.data.toList.drop 0).all fun b => Nm.low (b.toNat : Int) || Nm.dig (b.toNat : Int))) := by
 rw [Nm.tyvar_eq s h, Nm.drop_cons s 0 h]
 cases hl : Nm.low (s[0].toNat : Int) with
 | false => rfl
 | true => rw [List.all_cons, hl]; rfl

theorem ret_bool {a b : Bool} (h : a = b) : Ending.returned (.bool a) = .returned (.bool b) := by rw [h]
theorem ret_int {k : IntKind} {a b : Int} (h : a = b) : Ending.returned (.int k a) = .returned (.int k b) := by rw [h]
theorem ret_str {a b : ByteArray} (h : a = b) : Ending.returned (.string a) = .returned (.string b) := by rw [h]
def Lx.blank (c : Int) : Bool := decide (c = 32) || decide (c = 9) || decide (c = 10) || decide (c = 13)
def Lx.rem : List UInt8 → Nat → Option (List UInt8)
 | a :: b :: t, d =>
  if a = 40 ∧ b = 42 then Lx.rem t (d + 1)
  else if a = 42 ∧ b = 41 then (if d ≤ 1 then some t else Lx.rem t (d - 1))
  else Lx.rem (b :: t) d
 | [_], _ => none
 | [], _ => none
def Lx.opens (l : List UInt8) : Bool := l.take 2 == [40, 42]

theorem Lx.rem_lt : ∀ (l : List UInt8) (d : Nat) (r : List UInt8), Lx.rem l d = some r → r.length + 2 ≤ l.length
 | a :: b :: t, d, r, h => by
  unfold Lx.rem at h
  split at h
  ·
   have := Lx.rem_lt t _ r h; simp; omega
  ·
   split at h
   ·
    split at h
    ·
     cases h; simp
    ·
     have := Lx.rem_lt t _ r h; simp; omega
   ·
    have := Lx.rem_lt (b :: t) d r h; simp at this ⊢; omega
 | [_], d, r, h => by cases h
 | [], d, r, h => by cases h

def Lx.skip : List UInt8 → List UInt8 × Bool
 | [] => ([], true)
 | c :: t =>
  if Lx.blank (c.toNat : Int) then Lx.skip t
  else if Lx.opens (c :: t) then
   match h : Lx.rem (c :: t) 0 with
   | none => (c :: t, false)
   | some r => Lx.skip r
  else (c :: t, true)
 termination_by l => l.length
 decreasing_by
  ·
   simp
  ·
   have := Lx.rem_lt _ _ _ h; simp at this ⊢; omega

theorem Lx.skip_nil : Lx.skip [] = ([], true) := by rw [Lx.skip]
theorem Lx.skip_blank {c : UInt8} {t : List UInt8} (h : Lx.blank (c.toNat : Int) = true) : Lx.skip (c :: t) = Lx.skip t := by rw [Lx.skip, if_pos h]
theorem Lx.skip_rem {l : List UInt8} {r : List UInt8} (ho : Lx.opens l = true) (h : Lx.rem l 0 = some r) : Lx.skip l = Lx.skip r := by
 cases l with
 | nil => cases h
 | cons c t =>
  have hb : Lx.blank (c.toNat : Int) = false := by
   have : c = 40 := by unfold Lx.opens at ho; cases t <;> simp at ho; exact ho.1
   subst this; decide
  rw [Lx.skip, if_neg (by rw [hb]; simp), if_pos ho]
  split
  ·
   next h2 => rw [h] at h2; cases h2
  ·
   next h2 => rw [h] at h2; cases h2; rfl
theorem Lx.skip_open {l : List UInt8} (ho : Lx.opens l = true) (h : Lx.rem l 0 = none) : Lx.skip l = (l, false) := by
 cases l with
 | nil => cases ho
 | cons c t =>
  have hb : Lx.blank (c.toNat : Int) = false := by
   have : c = 40 := by unfold Lx.opens at ho; cases t <;> simp at ho; exact ho.1
   subst this; decide
  rw [Lx.skip, if_neg (by rw [hb]; simp), if_pos ho]
  split
  ·
   rfl
  ·
   next h2 => rw [h] at h2; cases h2
theorem Lx.skip_stop {c : UInt8} {t : List UInt8} (h : Lx.blank (c.toNat : Int) = false) (ho : Lx.opens (c :: t) = false) : Lx.skip (c :: t) = (c :: t, true) := by
 rw [Lx.skip, if_neg (by rw [h]; simp), if_neg (by rw [ho]; simp)]

def Lx.mark : List UInt8 → Nat
 | [] => 0
 | c :: t => if (c = 58 ∨ c = 61 ∨ c = 45) ∧ t.head? = some 62 then 2
  else if [40, 41, 44, 59, 58, 61, 42, 43, 45, 47, 60, 124, 95, 46].contains c then 1 else 0
def Lx.begin : List UInt8 → Nat × Nat
 | [] => (0, 0)
 | c :: t =>
  if Nm.low (c.toNat : Int) then (1, 1)
  else if Nm.high (c.toNat : Int) then (2, 1)
  else if Nm.dig (c.toNat : Int) then (4, 1)
  else if c = 39 ∧ (t.head?.any fun b => Nm.low (b.toNat : Int)) = true then (5, 2)
  else if Lx.mark (c :: t) = 0 then (0, 0) else (6, Lx.mark (c :: t))
theorem Lx.mark_cons (c : UInt8) (t : List UInt8) : Lx.mark (c :: t) = if (c = 58 ∨ c = 61 ∨ c = 45) ∧ t.head? = some 62 then 2
  else if [40, 41, 44, 59, 58, 61, 42, 43, 45, 47, 60, 124, 95, 46].contains c then 1 else 0 := rfl
theorem Lx.begin_cons (c : UInt8) (t : List UInt8) : Lx.begin (c :: t) =
  if Nm.low (c.toNat : Int) then (1, 1)
  else if Nm.high (c.toNat : Int) then (2, 1)
  else if Nm.dig (c.toNat : Int) then (4, 1)
  else if c = 39 ∧ (t.head?.any fun b => Nm.low (b.toNat : Int)) = true then (5, 2)
  else if Lx.mark (c :: t) = 0 then (0, 0) else (6, Lx.mark (c :: t)) := rfl
def Lx.goes (k : Nat) (c : UInt8) : Bool :=
 if k = 4 then Nm.dig (c.toNat : Int) else if k = 5 then Nm.low (c.toNat : Int) || Nm.dig (c.toNat : Int)
 else if k = 1 ∨ k = 2 then Nm.body (c.toNat : Int) else false
def Lx.text (l : List UInt8) : List UInt8 := l.take (Lx.begin l).2 ++ (l.drop (Lx.begin l).2).takeWhile (Lx.goes (Lx.begin l).1)
def Lx.num (v : Nat) : List UInt8 → Nat
 | [] => v
 | c :: t => Lx.num (10 * v + (c.toNat - 48)) t

structure Lx.Tok where
 kind : Nat
 text : List UInt8
 n : Nat
 left : Nat
inductive Lx.Next where
 | bad (e : Int)
 | good (k n : Nat)
def Lx.next (l : List UInt8) : Lx.Next :=
 let k := (Lx.begin l).1
 if k = 0 then .bad 10
 else if k = 6 then .good 6 0
 else if k = 4 then (if Lx.num 0 (Lx.text l) ≤ 9223372036854775807 then .good 4 (Lx.num 0 (Lx.text l)) else .bad 1)
 else if 32 < (Lx.text l).length then .bad 12
 else .good (if k = 1 ∧ Nm.words.contains (Lx.text l) = true then 3 else k) 0

inductive Lx.Res where
 | bad (left : Nat) (e : Int)
 | good (l : List Lx.Tok)
def Lx.Res.put (t : Lx.Tok) : Lx.Res → Lx.Res
 | .bad n e => .bad n e
 | .good l => .good (t :: l)
def Lx.lexN (c : Nat) (l : List UInt8) : Lx.Res :=
 let s := Lx.skip l
 if s.2 = false then .bad s.1.length 10
 else if s.1 = [] then .good []
 else match Lx.next s.1 with
  | .bad e => .bad s.1.length e
  | .good k n => match c with
   | 0 => .bad s.1.length 3
   | c + 1 => (Lx.lexN c (s.1.drop (Lx.text s.1).length)).put ⟨k, Lx.text s.1, n, s.1.length⟩
def Lx.lex (l : List UInt8) : Lx.Res := if 4096 < l.length then .bad l.length 3 else Lx.lexN 1024 l
end Go.Proofs.YtjebepnphoeiaaaGreatDoor
namespace Go.Proofs.YtjebepnphoeiaaaGreatDoor
open Go.RowKit
set_option linter.unusedVariables false

theorem small_any (c : Int) (w : World) : Calls Tryz.prog 222 #[.int .u8 c] w fun e w' => e = .returned (.bool (Nm.low c)) ∧ w' = w := by
 go_enter Tryz.func222, Tryz.ntmps222
 go_wp2
 all_goals go_ret
 all_goals refine ⟨ret_bool ?_, rfl⟩
 all_goals (unfold Nm.low; first | (simp [*]; done) | (simp; omega))

theorem capital_any (c : Int) (w : World) : Calls Tryz.prog 224 #[.int .u8 c] w fun e w' => e = .returned (.bool (Nm.high c)) ∧ w' = w := by
 go_enter Tryz.func224, Tryz.ntmps224
 go_wp2
 all_goals go_ret
 all_goals refine ⟨ret_bool ?_, rfl⟩
 all_goals (unfold Nm.high; first | (simp [*]; done) | (simp; omega))

theorem digit_any (c : Int) (w : World) : Calls Tryz.prog 228 #[.int .u8 c] w fun e w' => e = .returned (.bool (Nm.dig c)) ∧ w' = w := by
 go_enter Tryz.func228, Tryz.ntmps228
 go_wp2
 all_goals go_ret
 all_goals refine ⟨ret_bool ?_, rfl⟩
 all_goals (unfold Nm.dig; first | (simp [*]; done) | (simp; omega))

theorem letter_any (c : Int) (w : World) : Calls Tryz.prog 264 #[.int .u8 c] w fun e w' => e = .returned (.bool (Nm.letter c)) ∧ w' = w := by
 cases h : Nm.low c with
 | true =>
  have H : Hid (Nm.letter c = true) := by show _ = _; unfold Nm.letter; rw [h]; rfl
  go_enter Tryz.func264, Tryz.ntmps264
  go_wp2_with (first | (go_at_call 222; refine (small_any _ _).mono ?_; rintro e w' ⟨rfl, rfl⟩) | (go_at_call 224; refine (capital_any _ _).mono ?_; rintro e w' ⟨rfl, rfl⟩))
  go_ret
  exact ⟨ret_bool H.out.symm, rfl⟩
 | false =>
  have H : Hid (Nm.letter c = Nm.high c) := by show _ = _; unfold Nm.letter; rw [h]; rfl
  go_enter Tryz.func264, Tryz.ntmps264
  go_wp2_with (first | (go_at_call 222; refine (small_any _ _).mono ?_; rintro e w' ⟨rfl, rfl⟩) | (go_at_call 224; refine (capital_any _ _).mono ?_; rintro e w' ⟨rfl, rfl⟩))
  go_ret
  exact ⟨ret_bool H.out.symm, rfl⟩
def Strs (W : World) (v : Value) (xs : List ByteArray) : Prop :=
 (∃ b o c, v = .slice (some ⟨b, o, none⟩) xs.length c ∧ ∀ (j : Nat) x, xs[j]? = some x → W.cell? ⟨b, o + j, none⟩ = some (.string x)) ∨ (xs = [] ∧ ∃ p c, v = .slice p 0 c)

theorem Strs.nil (W : World) (p : Option Addr) (c : Nat) : Strs W (.slice p 0 c) [] := .inr ⟨rfl, p, c, rfl⟩
theorem Strs.own {W : World} {base n : Nat} {v : Value} {xs : List ByteArray} (h : W.ownsRow base 9 1 v n (xs.map Value.string)) : Strs W v xs := by
 obtain ⟨hl, h2⟩ := h
 have hn : xs.length = n := by simpa using hl
 rcases h2 with ⟨rfl, rfl⟩ | ⟨g, cap, cur, rfl, hg, hh, hc, hm, hsz, ht⟩
 ·
  exact .inr ⟨List.eq_nil_of_length_eq_zero hn, none, 0, rfl⟩
 ·
  refine .inl ⟨g, 0, cap, by rw [hn], fun j x hx => ?_⟩
  have h1 : (cur.toList.take (n * 1))[j]? = some (.string x) := by rw [ht, List.getElem?_map, hx]; rfl
  rw [List.getElem?_take] at h1
  split at h1
  ·
   simpa [World.cell?, hh] using h1
  ·
   cases h1
theorem Strs.below {W W' : World} {B : Nat} {v : Value} {xs : List ByteArray} (h : Strs W v xs) (hb : Below B W W') (hB : W.heap.size ≤ B) : Strs W' v xs := by
 rcases h with ⟨b, o, c, rfl, hc⟩ | h
 ·
  refine .inl ⟨b, o, c, rfl, fun j x hx => ?_⟩
  have := hc j x hx
  have hlt : b < W.heap.size := World.block_lt_of_cell? W _ this
  exact (World.cell?_of_block (hb.block b (by omega))).trans this
 ·
  exact .inr h
theorem Strs.drewN {W : World} {v : Value} {xs : List ByteArray} (h : Strs W v xs) (n : Nat) : Strs (W.drewN n) v xs := by
 induction n with
 | zero => exact h
 | succ k ih => exact ih

theorem Nm.str_eq (x y : ByteArray) : (x.toList == y.toList) = decide (x = y) := by
 rw [Lib.toList_data, Lib.toList_data]
 by_cases h : x = y
 ·
  subst h; simp
 ·
  rw [decide_eq_false h, beq_eq_false_iff_ne]
  intro e
  exact h (by cases x; cases y; congr 1; exact Array.toList_inj.1 e)



def Nm.wordsB : List ByteArray := [⟨#[98, 111, 111, 108]⟩, ⟨#[99, 97, 115, 101]⟩, ⟨#[100, 97, 116, 97]⟩, ⟨#[101, 108, 115, 101]⟩, ⟨#[101, 110, 100]⟩, ⟨#[102, 97, 108, 115, 101]⟩, ⟨#[102, 110]⟩, ⟨#[102, 117, 110]⟩, ⟨#[102, 117, 110, 99, 116, 111, 114]⟩, ⟨#[105, 102]⟩, ⟨#[105, 110]⟩, ⟨#[105, 110, 116]⟩, ⟨#[108, 101, 116]⟩, ⟨#[111, 102]⟩, ⟨#[115, 105, 103]⟩, ⟨#[115, 105, 103, 110, 97, 116, 117, 114, 101]⟩, ⟨#[115, 116, 114, 117, 99, 116]⟩, ⟨#[115, 116, 114, 117, 99, 116, 117, 114, 101]⟩, ⟨#[116, 104, 101, 110]⟩, ⟨#[116, 114, 117, 101]⟩, ⟨#[116, 121, 112, 101]⟩, ⟨#[117, 110, 105, 116]⟩, ⟨#[118, 97, 108]⟩, ⟨#[119, 104, 101, 114, 101]⟩]
theorem Nm.wordsB_eq : Nm.wordsB = Nm.words.map fun l => ⟨l.toArray⟩ := rfl



set_option maxRecDepth 100000 in
theorem refWords_any (w : World) : Calls Tryz.prog 232 #[] w fun e w' => e = .returned (.slice (some ⟨w.heap.size, 0, none⟩) 24 24) ∧ w' = w.alloc (.cells (Nm.wordsB.map Value.string).toArray 9) := by
 go_enter Tryz.func232, Tryz.ntmps232
 go_wp2
 go_ret
 exact ⟨rfl, rfl⟩
end Go.Proofs.YtjebepnphoeiaaaGreatDoor
