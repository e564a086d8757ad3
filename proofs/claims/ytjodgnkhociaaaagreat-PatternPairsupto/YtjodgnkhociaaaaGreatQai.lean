/- Plain mathematics of names: which bytes make a name, the reserved words. What the small functions on bytes come to, the program's and the document's. Lists of texts in memory: how they lie, Texts, Words and Has. -/
import Derived.Lib.Bytealg
import Derived.Lib.Strings
import Derived.Below
import Derived.WalkKit
import Derived.WalkSpells
import Derived.Lib.Walk
import Derived.Deep.QuietTactic
import Derived.BigQuiet
import Derived.Test.YtjodgnkhociaaaaGreatProg
import Derived.Laws.AppendOwn
namespace Go.Proofs.YtjodgnkhociaaaaGreat.Tre
set_option linter.unusedVariables false

def Nm.low (c : Int) : Bool := decide (97 ≤ c) && decide (c ≤ 122)
def Nm.high (c : Int) : Bool := decide (65 ≤ c) && decide (c ≤ 90)
def Nm.dig (c : Int) : Bool := decide (48 ≤ c) && decide (c ≤ 57)
def Nm.letter (c : Int) : Bool := Nm.low c || Nm.high c
def Nm.body (c : Int) : Bool := Nm.letter c || Nm.dig c || decide (c = 95)

/-- The first byte, 0 where there is none. -/
def Nm.head (s : ByteArray) : Int := ((s.data.toList.headD 0).toNat : Int)

def Nm.speltL : List UInt8 → Bool
  | [] => false
  | c :: t => Nm.letter (c.toNat : Int) && t.all fun b => Nm.body (b.toNat : Int)
def Nm.spelt (s : ByteArray) : Bool := Nm.speltL s.data.toList

def Nm.words : List (List UInt8) := [[98, 111, 111, 108], [99, 97, 115, 101], [100, 97, 116, 97], [101, 108, 115, 101], [101, 110, 100], [102, 97, 108, 115, 101], [102, 110], [102, 117, 110], [102, 117, 110, 99, 116, 111, 114], [105, 102], [105, 110], [105, 110, 116], [108, 101, 116], [111, 102], [115, 105, 103], [115, 105, 103, 110, 97, 116, 117, 114, 101], [115, 116, 114, 117, 99, 116], [115, 116, 114, 117, 99, 116, 117, 114, 101], [116, 104, 101, 110], [116, 114, 117, 101], [116, 121, 112, 101], [117, 110, 105, 116], [118, 97, 108], [119, 104, 101, 114, 101]]
def Nm.reserved (s : ByteArray) : Bool := Nm.words.contains s.data.toList

def Nm.right (s : ByteArray) : Int := if Nm.spelt s = false then 12 else if 32 < s.size then 3 else if Nm.reserved s = true then 12 else 0
def Nm.lower (s : ByteArray) : Bool := decide (Nm.right s = 0) && Nm.low (Nm.head s)
def Nm.upper (s : ByteArray) : Bool := decide (Nm.right s = 0) && Nm.high (Nm.head s)
def Nm.tyvarL : List UInt8 → Bool
  | [] => false
  | c :: t => Nm.low (c.toNat : Int) && t.all fun b => Nm.low (b.toNat : Int) || Nm.dig (b.toNat : Int)
def Nm.tyvar (s : ByteArray) : Bool := decide (s.size ≤ 31) && Nm.tyvarL s.data.toList

theorem Nm.len (s : ByteArray) : s.data.toList.length = s.size := by rw [Array.length_toList]; rfl
theorem Nm.drop_cons (s : ByteArray) (k : Nat) (h : k < s.size) : s.data.toList.drop k = s[k] :: s.data.toList.drop (k + 1) := by
  rw [List.drop_eq_getElem_cons (by rw [Nm.len]; exact h)]; rfl
theorem Nm.head_eq (s : ByteArray) (h : 0 < s.size) : Nm.head s = (s[0].toNat : Int) := by
  have e := Nm.drop_cons s 0 h
  rw [List.drop_zero] at e
  unfold Nm.head; rw [e]; rfl
theorem Nm.body_letter {c : Int} (h : Nm.letter c = true) : Nm.body c = true := by unfold Nm.body; rw [h]; rfl

theorem Nm.spelt_nil (s : ByteArray) (h : s.size = 0) : Nm.spelt s = false := by
  have : s.data.toList = [] := List.eq_nil_of_length_eq_zero (by rw [Nm.len]; exact h)
  unfold Nm.spelt; rw [this]; rfl
theorem Nm.spelt_eq (s : ByteArray) (h : 0 < s.size) : Nm.spelt s = (Nm.letter (s[0].toNat : Int) && (s.data.toList.drop 1).all fun b => Nm.body (b.toNat : Int)) := by
  have e := Nm.drop_cons s 0 h
  rw [List.drop_zero] at e
  unfold Nm.spelt; rw [e]; rfl
theorem Nm.spelt_eq0 (s : ByteArray) (h : 0 < s.size) : Nm.spelt s = (Nm.letter (s[0].toNat : Int) && (s.data.toList.drop 0).all fun b => Nm.body (b.toNat : Int)) := by
  rw [Nm.spelt_eq s h, Nm.drop_cons s 0 h]
  cases hl : Nm.letter (s[0].toNat : Int) with
  | false => rfl
  | true => rw [List.all_cons, Nm.body_letter hl]; rfl
theorem Nm.spelt_head {s : ByteArray} (h : 0 < s.size) (h0 : Nm.letter (s[0].toNat : Int) = false) : Nm.spelt s = false := by rw [Nm.spelt_eq s h, h0]; rfl
theorem Nm.spelt_pos {s : ByteArray} (h : Nm.spelt s = true) : 0 < s.size := by
  rcases Nat.eq_zero_or_pos s.size with e | e
  · rw [Nm.spelt_nil s e] at h; cases h
  · exact e
/-- What is left from k on tells, where all before is right. -/
theorem Nm.all_at (s : ByteArray) (f : UInt8 → Bool) (k : Nat) (h : k < s.size) : ((s.data.toList.drop k).all f) = (f s[k] && (s.data.toList.drop (k + 1)).all f) := by
  rw [Nm.drop_cons s k h]; rfl
theorem Nm.all_end (s : ByteArray) (f : UInt8 → Bool) (k : Nat) (h : s.size ≤ k) : ((s.data.toList.drop k).all f) = true := by
  rw [List.drop_eq_nil_of_le (by rw [Nm.len]; exact h)]; rfl

theorem Nm.tyvar_nil (s : ByteArray) (h : s.size = 0) : Nm.tyvar s = false := by
  have : s.data.toList = [] := List.eq_nil_of_length_eq_zero (by rw [Nm.len]; exact h)
  unfold Nm.tyvar; rw [this]; simp [Nm.tyvarL]
theorem Nm.tyvar_eq (s : ByteArray) (h : 0 < s.size) : Nm.tyvar s = (decide (s.size ≤ 31) && (Nm.low (s[0].toNat : Int) && (s.data.toList.drop 1).all fun b => Nm.low (b.toNat : Int) || Nm.dig (b.toNat : Int))) := by
  have e := Nm.drop_cons s 0 h
  rw [List.drop_zero] at e
  unfold Nm.tyvar; rw [e]; rfl
theorem Nm.tyvar_eq0 (s : ByteArray) (h : 0 < s.size) : Nm.tyvar s = (decide (s.size ≤ 31) && (Nm.low (s[0].toNat : Int) && (s.data.toList.drop 0).all fun b => Nm.low (b.toNat : Int) || Nm.dig (b.toNat : Int))) := by
  rw [Nm.tyvar_eq s h, Nm.drop_cons s 0 h]
  cases hl : Nm.low (s[0].toNat : Int) with
  | false => rfl
  | true => rw [List.all_cons, hl]; rfl

theorem ret_bool {a b : Bool} (h : a = b) : Ending.returned (.bool a) = .returned (.bool b) := by rw [h]
theorem ret_int {k : IntKind} {a b : Int} (h : a = b) : Ending.returned (.int k a) = .returned (.int k b) := by rw [h]
theorem ret_str {a b : ByteArray} (h : a = b) : Ending.returned (.string a) = .returned (.string b) := by rw [h]
end Go.Proofs.YtjodgnkhociaaaaGreat.Tre

namespace Go.Proofs.YtjodgnkhociaaaaGreat.Tre
open Go.RowKit
set_option linter.unusedVariables false

theorem small_any (c : Int) (w : World) : Calls Tryz.prog 71 #[.int .u8 c] w fun e w' => e = .returned (.bool (Nm.low c)) ∧ w' = w := by
  go_enter Tryz.func71, Tryz.ntmps71
  go_wp2
  all_goals go_ret
  all_goals refine ⟨ret_bool ?_, rfl⟩
  all_goals (unfold Nm.low; first | (simp [*]; done) | (simp; omega))

theorem capital_any (c : Int) (w : World) : Calls Tryz.prog 73 #[.int .u8 c] w fun e w' => e = .returned (.bool (Nm.high c)) ∧ w' = w := by
  go_enter Tryz.func73, Tryz.ntmps73
  go_wp2
  all_goals go_ret
  all_goals refine ⟨ret_bool ?_, rfl⟩
  all_goals (unfold Nm.high; first | (simp [*]; done) | (simp; omega))

theorem digit_any (c : Int) (w : World) : Calls Tryz.prog 121 #[.int .u8 c] w fun e w' => e = .returned (.bool (Nm.dig c)) ∧ w' = w := by
  go_enter Tryz.func121, Tryz.ntmps121
  go_wp2
  all_goals go_ret
  all_goals refine ⟨ret_bool ?_, rfl⟩
  all_goals (unfold Nm.dig; first | (simp [*]; done) | (simp; omega))

theorem letter_any (c : Int) (w : World) : Calls Tryz.prog 120 #[.int .u8 c] w fun e w' => e = .returned (.bool (Nm.letter c)) ∧ w' = w := by
  cases h : Nm.low c with
  | true =>
    have H : Hid (Nm.letter c = true) := by show _ = _; unfold Nm.letter; rw [h]; rfl
    go_enter Tryz.func120, Tryz.ntmps120
    go_wp2_with (first | (go_at_call 71; refine (small_any _ _).mono ?_; rintro e w' ⟨rfl, rfl⟩) | (go_at_call 73; refine (capital_any _ _).mono ?_; rintro e w' ⟨rfl, rfl⟩))
    go_ret
    exact ⟨ret_bool H.out.symm, rfl⟩
  | false =>
    have H : Hid (Nm.letter c = Nm.high c) := by show _ = _; unfold Nm.letter; rw [h]; rfl
    go_enter Tryz.func120, Tryz.ntmps120
    go_wp2_with (first | (go_at_call 71; refine (small_any _ _).mono ?_; rintro e w' ⟨rfl, rfl⟩) | (go_at_call 73; refine (capital_any _ _).mono ?_; rintro e w' ⟨rfl, rfl⟩))
    go_ret
    exact ⟨ret_bool H.out.symm, rfl⟩
end Go.Proofs.YtjodgnkhociaaaaGreat.Tre

namespace Go.Proofs.YtjodgnkhociaaaaGreat.Tre
open Go.RowKit
set_option linter.unusedVariables false

/-- The value v is a slice of the texts xs. -/
def Strs (W : World) (v : Value) (xs : List ByteArray) : Prop :=
  (∃ b o c, v = .slice (some ⟨b, o, none⟩) xs.length c ∧ ∀ (j : Nat) x, xs[j]? = some x → W.cell? ⟨b, o + j, none⟩ = some (.string x)) ∨ (xs = [] ∧ ∃ p c, v = .slice p 0 c)

theorem Strs.nil (W : World) (p : Option Addr) (c : Nat) : Strs W (.slice p 0 c) [] := .inr ⟨rfl, p, c, rfl⟩
theorem Strs.own {W : World} {base n : Nat} {v : Value} {xs : List ByteArray} (h : W.ownsRow base 9 1 v n (xs.map Value.string)) : Strs W v xs := by
  obtain ⟨hl, h2⟩ := h
  have hn : xs.length = n := by simpa using hl
  rcases h2 with ⟨rfl, rfl⟩ | ⟨g, cap, cur, rfl, hg, hh, hc, hm, hsz, ht⟩
  · exact .inr ⟨List.eq_nil_of_length_eq_zero hn, none, 0, rfl⟩
  · refine .inl ⟨g, 0, cap, by rw [hn], fun j x hx => ?_⟩
    have h1 : (cur.toList.take (n * 1))[j]? = some (.string x) := by rw [ht, List.getElem?_map, hx]; rfl
    rw [List.getElem?_take] at h1
    split at h1
    · simpa [World.cell?, hh] using h1
    · cases h1
theorem Strs.below {W W' : World} {B : Nat} {v : Value} {xs : List ByteArray} (h : Strs W v xs) (hb : Below B W W') (hB : W.heap.size ≤ B) : Strs W' v xs := by
  rcases h with ⟨b, o, c, rfl, hc⟩ | h
  · refine .inl ⟨b, o, c, rfl, fun j x hx => ?_⟩
    have := hc j x hx
    have hlt : b < W.heap.size := World.block_lt_of_cell? W _ this
    exact (World.cell?_of_block (hb.block b (by omega))).trans this
  · exact .inr h
theorem Strs.drewN {W : World} {v : Value} {xs : List ByteArray} (h : Strs W v xs) (n : Nat) : Strs (W.drewN n) v xs := by
  induction n with
  | zero => exact h
  | succ k ih => exact ih

theorem Nm.str_eq (x y : ByteArray) : (x.toList == y.toList) = decide (x = y) := by
  rw [Lib.toList_data, Lib.toList_data]
  by_cases h : x = y
  · subst h; simp
  · rw [decide_eq_false h, beq_eq_false_iff_ne]
    intro e
    exact h (by cases x; cases y; congr 1; exact Array.toList_inj.1 e)

/-- The reserved words as texts. -/
def Nm.wordsB : List ByteArray := [⟨#[98, 111, 111, 108]⟩, ⟨#[99, 97, 115, 101]⟩, ⟨#[100, 97, 116, 97]⟩, ⟨#[101, 108, 115, 101]⟩, ⟨#[101, 110, 100]⟩, ⟨#[102, 97, 108, 115, 101]⟩, ⟨#[102, 110]⟩, ⟨#[102, 117, 110]⟩, ⟨#[102, 117, 110, 99, 116, 111, 114]⟩, ⟨#[105, 102]⟩, ⟨#[105, 110]⟩, ⟨#[105, 110, 116]⟩, ⟨#[108, 101, 116]⟩, ⟨#[111, 102]⟩, ⟨#[115, 105, 103]⟩, ⟨#[115, 105, 103, 110, 97, 116, 117, 114, 101]⟩, ⟨#[115, 116, 114, 117, 99, 116]⟩, ⟨#[115, 116, 114, 117, 99, 116, 117, 114, 101]⟩, ⟨#[116, 104, 101, 110]⟩, ⟨#[116, 114, 117, 101]⟩, ⟨#[116, 121, 112, 101]⟩, ⟨#[117, 110, 105, 116]⟩, ⟨#[118, 97, 108]⟩, ⟨#[119, 104, 101, 114, 101]⟩]
theorem Nm.wordsB_eq : Nm.wordsB = Nm.words.map fun l => ⟨l.toArray⟩ := rfl

end Go.Proofs.YtjodgnkhociaaaaGreat.Tre
