/- The walk of TextPlaces: for any text of at most 2097152 bytes, any other text and any places it returns true, and nothing that lay has turned. -/
import Derived.Test.YtmcjcgodapkkpaaRefCaret
import Derived.Test.YtmcjcgodapkkpaaCommonW
namespace Go.Proofs.Ytmcjcgodapkkpaa
open Go.RowKit Go.Shelf
set_option linter.unusedVariables false

theorem caret_fn (s : ByteArray) (i : Int) (hs : s.size ≤ 2097152) (w : World) :
    Calls Try.prog 15 #[.string s, .int .i64 i] w fun e W' => e = .returned (.string ⟨(Tx.caretL s (Tx.at s.size i)).toArray⟩) ∧ Below w.heap.size w W' := by
  refine (caret_any s i hs w).mono ?_
  rintro e W' ⟨⟨⟨t⟩, rfl, ht⟩, hb⟩
  refine ⟨?_, hb⟩
  have ht' : t.toList = Tx.caretL s (Tx.at s.size i) := ht
  rw [← ht']

theorem same_fn (a b : ByteArray) (w : World) (ha : a.size ≤ maxLen) (hb : b.size ≤ maxLen) :
    Calls Try.prog 17 #[.string a, .string b] w fun e w' => e = .returned (.int .i64 (Tx.sm a b : Nat)) ∧ Below w.heap.size w w' := same_bl a b w ha hb rfl

theorem refSame_fn (a b : ByteArray) (w : World) (ha : a.size ≤ maxLen) (hb : b.size ≤ maxLen) :
    Calls Try.prog 18 #[.string a, .string b] w fun e w' => e = .returned (.int .i64 (Tx.sm a b : Nat)) ∧ Below w.heap.size w w' := by
  refine (refSame_any a b w ha hb).mono ?_
  rintro e w' ⟨rfl, m, rfl⟩
  exact ⟨rfl, bdN (Below.refl _ _) m⟩

set_option maxHeartbeats 2000000 in
theorem places_walk (s t : ByteArray) (i j : Int) (hs : s.size ≤ 2097152) (ht : t.size ≤ maxLen) (w : World) :
    Calls Try.prog 3 #[.string s, .string t, .int .i64 i, .int .i64 j] w fun e w' => e = .returned (.bool true) ∧ Below w.heap.size w w' := by
  have hm : s.size ≤ maxLen := by unfold maxLen; omega
  have hn := Tx.nl_le s
  go_enter Try.func3, Try.ntmps3
  go_wp2_with (first
    | (go_at_call 8; refine (where_any _ _ hs _).mono ?_; rintro e w1 ⟨rfl, hb1⟩)
    | (go_at_call 9; refine (refWhere_any _ _ hs _).mono ?_; rintro e w' ⟨rfl, rfl⟩)
    | (go_at_call 11; refine (lines_rd _ hs _).mono ?_; rintro e w2 ⟨v, rfl, g1, cap1, rfl, hg1, hc1, hb2⟩; have H1 : Hid (∀ j, j < Tx.nl s → w2.cell? ⟨g1, j, none⟩ = some (.string (s.extract (Tx.lb s j) (Tx.le s j)))) := hc1; clear hc1)
    | (go_at_call 12; refine (refLines_rd _ hs _).mono ?_; rintro e w3 ⟨v, rfl, g2, cap2, rfl, hg2, hc2, hb3⟩; have H2 : Hid (∀ j, j < Tx.nl s → w3.cell? ⟨g2, j, none⟩ = some (.string (s.extract (Tx.lb s j) (Tx.le s j)))) := hc2; have H3 : Hid (∀ j, j < Tx.nl s → w3.cell? ⟨g1, j, none⟩ = some (.string (s.extract (Tx.lb s j) (Tx.le s j)))) := fun j hj => (hb3.cell (p := ⟨g1, j, none⟩) hg1).trans (H1.out j hj); clear hc2)
    | (go_at_call 10; refine (texts_any (fun j => s.extract (Tx.lb s j) (Tx.le s j)) (Tx.nl s) g1 cap1 g2 cap2 (by omega) _ H3 H2).mono ?_; rintro e w4 ⟨rfl, hb4⟩)
    | (go_at_call 13; refine (span_any _ _ _ _ hm).mono ?_; rintro e w' ⟨rfl, rfl⟩)
    | (go_at_call 14; refine (refSpan_any _ _ _ _ hm).mono ?_; rintro e w' ⟨rfl, rfl⟩)
    | (go_at_call 15; refine (caret_fn _ _ hs _).mono ?_; rintro e w5 ⟨rfl, hb5⟩)
    | (go_at_call 16; refine (refCaret_any _ _ hs _).mono ?_; rintro e w6 ⟨rfl, hb6⟩)
    | (go_at_call 17; refine (same_fn _ _ _ hm ht).mono ?_; rintro e w7 ⟨rfl, hb7⟩)
    | (go_at_call 18; refine (refSame_fn _ _ _ hm ht).mono ?_; rintro e w8 ⟨rfl, hb8⟩)
    | (go_at_call 19; refine (alive_any _).mono ?_; rintro e w9 ⟨rfl, hb9⟩))
  go_ret
  exact ⟨rfl, btr (btr (btr (btr (btr (btr (btr (btr hb1 hb2) hb3) hb4) hb5) hb6) hb7) hb8) hb9⟩

theorem places_law (s t : ByteArray) (i j : Int) (_ : s.size ≤ maxLen) (ht : t.size ≤ maxLen) (_ : (Lit.int .i64 i).wf = true) (_ : (Lit.int .i64 j).wf = true) (hs : s.size ≤ 1048576) (_ : t.size ≤ 1048576) (w : World) :
    Calls Try.prog 3 #[.string s, .string t, .int .i64 i, .int .i64 j] w fun e w' => e = .returned (.bool true) ∧ Below w.heap.size w w' := places_walk s t i j (by omega) ht w
end Go.Proofs.Ytmcjcgodapkkpaa
