/- The walk of TextSpans: for any text and places it returns true, and nothing that lay has turned. -/
import Derived.Test.YtmcjcgodapkkpaaAlive
namespace Go.Proofs.Ytmcjcgodapkkpaa
open Go.RowKit Go.Shelf
set_option linter.unusedVariables false

theorem Tx.at_mono {n : Nat} {a b : Int} (h : a ≤ b) : Tx.at n a ≤ Tx.at n b := by unfold Tx.at; omega
theorem Tx.at_le (n : Nat) (a : Int) : Tx.at n a ≤ n := by unfold Tx.at; omega

theorem Tx.join (s : ByteArray) {a b c : Nat} (h1 : a ≤ b) (h2 : b ≤ c) : s.extract a b ++ s.extract b c = s.extract a c := by
  have e : (s.extract a b ++ s.extract b c).data.toList = (s.extract a c).data.toList := by
    rw [ByteArray.data_append, Array.toList_append, Lib.extract_data, Lib.extract_data, Lib.extract_data]
    rw [show c - a = (b - a) + (c - b) from by omega, List.take_add, List.drop_drop, show a + (b - a) = b from by omega]
  rw [show s.extract a b ++ s.extract b c = ⟨(s.extract a b ++ s.extract b c).data⟩ from rfl, Array.toList_inj.1 e]

set_option maxHeartbeats 2000000 in
theorem spans_walk (s : ByteArray) (a b c : Int) (hs : s.size ≤ maxLen) (w : World) :
    Calls Try.prog 6 #[.string s, .int .i64 a, .int .i64 b, .int .i64 c] w fun e w' => e = .returned (.bool true) ∧ Below w.heap.size w w' := by
  by_cases h1 : b < a
  · go_enter Try.func6, Try.ntmps6
    go_wp2_with (go_at_call 19; refine (alive_any _).mono ?_; rintro e w2 ⟨rfl, hb2⟩)
    go_ret
    exact ⟨rfl, hb2⟩
  · by_cases h2 : c < b
    · go_enter Try.func6, Try.ntmps6
      go_wp2_with (go_at_call 19; refine (alive_any _).mono ?_; rintro e w2 ⟨rfl, hb2⟩)
      go_ret
      exact ⟨rfl, hb2⟩
    · have hs' := hs
      unfold maxLen at hs'
      have m1 : Tx.at s.size a ≤ Tx.at s.size b := Tx.at_mono (by omega)
      have m2 : Tx.at s.size b ≤ Tx.at s.size c := Tx.at_mono (by omega)
      have m3 : Tx.at s.size c ≤ s.size := Tx.at_le _ _
      have hj : ((s.extract (Tx.at s.size a) (Tx.at s.size b) ++ s.extract (Tx.at s.size b) (Tx.at s.size c)).toList == (s.extract (Tx.at s.size a) (Tx.at s.size c)).toList) = true := by
        rw [Tx.join s m1 m2]; exact beq_self_eq_true _
      go_enter Try.func6, Try.ntmps6
      go_wp2_with (first | (go_at_call 13; refine (span_any _ _ _ _ hs).mono ?_; rintro e w' ⟨rfl, rfl⟩) | (go_at_call 19; refine (alive_any _).mono ?_; rintro e w2 ⟨rfl, hb2⟩))
      go_ret
      exact ⟨rfl, hb2⟩

theorem spans_law (s : ByteArray) (a b c : Int) (hs : s.size ≤ maxLen) (_ : (Lit.int .i64 a).wf = true) (_ : (Lit.int .i64 b).wf = true) (_ : (Lit.int .i64 c).wf = true) (w : World) :
    Calls Try.prog 6 #[.string s, .int .i64 a, .int .i64 b, .int .i64 c] w fun e w' => e = .returned (.bool true) ∧ Below w.heap.size w w' := spans_walk s a b c hs w
end Go.Proofs.Ytmcjcgodapkkpaa
