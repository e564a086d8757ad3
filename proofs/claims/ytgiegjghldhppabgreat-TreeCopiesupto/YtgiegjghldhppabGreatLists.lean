/- Lists of texts in memory: how they lie, Texts, Words and Has. -/
import Derived.Test.YtgiegjghldhppabGreatLeaf
import Derived.Laws.AppendOwn
namespace Go.Proofs.YtgiegjghldhppabGreat
open Go.RowKit
set_option linter.unusedVariables false

/-- The value v is a slice of the texts xs. -/
def Strs (W : World) (v : Value) (xs : List ByteArray) : Prop :=
  (∃ b o c, v = .slice (some ⟨b, o, none⟩) xs.length c ∧ ∀ (j : Nat) x, xs[j]? = some x → W.cell? ⟨b, o + j, none⟩ = some (.string x)) ∨ (xs = [] ∧ ∃ p c, v = .slice p 0 c)

theorem Strs.nil (W : World) (p : Option Addr) (c : Nat) : Strs W (.slice p 0 c) [] := .inr ⟨rfl, p, c, rfl⟩
theorem Strs.own {W : World} {base n : Nat} {v : Value} {xs : List ByteArray} (h : W.ownsRow base 9 1 v n (xs.map Value.string)) : Strs W v xs := by
  obtain ⟨hl, h2⟩ := h
  have hn : xs.length = n := by simpa using hl
  rcases h2 with ⟨rfl, rfl⟩ | ⟨g, cap, cur, rfl, hg, hh, hc, hm, hsz, ht⟩
  · exact .inr ⟨List.eq_nil_of_length_eq_zero hn, none, 0, rfl⟩
  · refine .inl ⟨g, 0, cap, by rw [hn], fun j x hx => ?_⟩
    have h1 : (cur.toList.take (n * 1))[j]? = some (.string x) := by rw [ht, List.getElem?_map, hx]; rfl
    rw [List.getElem?_take] at h1
    split at h1
    · simpa [World.cell?, hh] using h1
    · cases h1
theorem Strs.below {W W' : World} {B : Nat} {v : Value} {xs : List ByteArray} (h : Strs W v xs) (hb : Below B W W') (hB : W.heap.size ≤ B) : Strs W' v xs := by
  rcases h with ⟨b, o, c, rfl, hc⟩ | h
  · refine .inl ⟨b, o, c, rfl, fun j x hx => ?_⟩
    have := hc j x hx
    have hlt : b < W.heap.size := World.block_lt_of_cell? W _ this
    exact (World.cell?_of_block (hb.block b (by omega))).trans this
  · exact .inr h
theorem Strs.drewN {W : World} {v : Value} {xs : List ByteArray} (h : Strs W v xs) (n : Nat) : Strs (W.drewN n) v xs := by
  induction n with
  | zero => exact h
  | succ k ih => exact ih

theorem Nm.str_eq (x y : ByteArray) : (x.toList == y.toList) = decide (x = y) := by
  rw [Lib.toList_data, Lib.toList_data]
  by_cases h : x = y
  · subst h; simp
  · rw [decide_eq_false h, beq_eq_false_iff_ne]
    intro e
    exact h (by cases x; cases y; congr 1; exact Array.toList_inj.1 e)



/-- The reserved words as texts. -/
def Nm.wordsB : List ByteArray := [⟨#[98, 111, 111, 108]⟩, ⟨#[99, 97, 115, 101]⟩, ⟨#[100, 97, 116, 97]⟩, ⟨#[101, 108, 115, 101]⟩, ⟨#[101, 110, 100]⟩, ⟨#[102, 97, 108, 115, 101]⟩, ⟨#[102, 110]⟩, ⟨#[102, 117, 110]⟩, ⟨#[102, 117, 110, 99, 116, 111, 114]⟩, ⟨#[105, 102]⟩, ⟨#[105, 110]⟩, ⟨#[105, 110, 116]⟩, ⟨#[108, 101, 116]⟩, ⟨#[111, 102]⟩, ⟨#[115, 105, 103]⟩, ⟨#[115, 105, 103, 110, 97, 116, 117, 114, 101]⟩, ⟨#[115, 116, 114, 117, 99, 116]⟩, ⟨#[115, 116, 114, 117, 99, 116, 117, 114, 101]⟩, ⟨#[116, 104, 101, 110]⟩, ⟨#[116, 114, 117, 101]⟩, ⟨#[116, 121, 112, 101]⟩, ⟨#[117, 110, 105, 116]⟩, ⟨#[118, 97, 108]⟩, ⟨#[119, 104, 101, 114, 101]⟩]
theorem Nm.wordsB_eq : Nm.wordsB = Nm.words.map fun l => ⟨l.toArray⟩ := rfl



end Go.Proofs.YtgiegjghldhppabGreat