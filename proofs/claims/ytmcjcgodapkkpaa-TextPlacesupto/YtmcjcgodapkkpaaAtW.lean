/- The walk of TextAt: for any text of at most 2097152 bytes it returns true, and nothing that lay has turned. -/
import Derived.Test.YtmcjcgodapkkpaaRefAt
import Derived.Test.YtmcjcgodapkkpaaAlive
namespace Go.Proofs.Ytmcjcgodapkkpaa
open Go.RowKit Go.Shelf
set_option linter.unusedVariables false

theorem wf_max {a : Int} (h : (Lit.int .i64 a).wf = true) : -9223372036854775808 ≤ a ∧ a ≤ 9223372036854775807 := by
  simpa [Lit.wf, IntKind.min, IntKind.max, IntKind.signed, IntKind.bits] using h

set_option maxHeartbeats 1000000 in
theorem at_walk (s : ByteArray) (line col : Int) (hs : s.size ≤ 2097152) (hl : line ≤ 9223372036854775807) (hc : col ≤ 9223372036854775807) (w : World) :
    Calls Try.prog 4 #[.string s, .int .i64 line, .int .i64 col] w fun e w' => e = .returned (.bool true) ∧ Below w.heap.size w w' := by
  go_enter Try.func4, Try.ntmps4
  go_wp2_with (first
    | (go_at_call 20; refine (at_any _ _ _ hs hl hc _).mono ?_; rintro e w1 ⟨rfl, hb1⟩)
    | (go_at_call 21; refine (refAt_any _ _ _ hs hl hc _).mono ?_; rintro e w2 ⟨rfl, hb2⟩)
    | (go_at_call 19; refine (alive_any _).mono ?_; rintro e w3 ⟨rfl, hb3⟩))
  go_ret
  exact ⟨rfl, btr (btr hb1 hb2) hb3⟩

theorem at_law (s : ByteArray) (line col : Int) (_ : s.size ≤ maxLen) (w1 : (Lit.int .i64 line).wf = true) (w2 : (Lit.int .i64 col).wf = true) (hs : s.size ≤ 1048576) (w : World) :
    Calls Try.prog 4 #[.string s, .int .i64 line, .int .i64 col] w fun e w' => e = .returned (.bool true) ∧ Below w.heap.size w w' :=
  at_walk s line col (by omega) (wf_max w1).2 (wf_max w2).2 w
end Go.Proofs.Ytmcjcgodapkkpaa
