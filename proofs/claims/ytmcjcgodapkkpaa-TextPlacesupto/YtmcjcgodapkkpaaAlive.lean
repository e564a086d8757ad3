/- What the chapter's examples come to: alive returns true. -/
import Derived.Test.YtmcjcgodapkkpaaAt
import Derived.Test.YtmcjcgodapkkpaaLines
import Derived.Test.YtmcjcgodapkkpaaWhere
namespace Go.Proofs.Ytmcjcgodapkkpaa
open Go.RowKit Go.Shelf
set_option linter.unusedVariables false

/-- Two calls one behind the other: nothing that lay has turned. -/
theorem btr {w a b : World} (h : Below w.heap.size w a) (k : Below a.heap.size a b) : Below w.heap.size w b := h.trans (k.mono h.size)

theorem bdN {B : Nat} {a w : World} (h : Below B a w) (n : Nat) : Below B a (w.drewN n) := ⟨h.os, h.tape, h.output, h.size, h.block⟩

theorem where_al (w : World) : Calls Try.prog 8 #[.string ⟨#[97, 98, 10, 99]⟩, .int .i64 3] w fun e W' => e = .returned (.tuple #[.int .i64 1, .int .i64 0]) ∧ Below w.heap.size w W' := by
  refine (where_any _ _ (by decide) w).mono ?_
  rintro e W' ⟨rfl, hb⟩
  exact ⟨rfl, hb⟩

theorem at_al (w : World) : Calls Try.prog 20 #[.string ⟨#[97, 98, 10, 99]⟩, .int .i64 0, .int .i64 2] w fun e W' => e = .returned (.tuple #[.int .i64 2, .int .i64 0]) ∧ Below w.heap.size w W' := by
  refine (at_any _ _ _ (by decide) (by decide) (by decide) w).mono ?_
  rintro e W' ⟨rfl, hb⟩
  exact ⟨rfl, hb⟩

theorem lines_al (w : World) : Calls Try.prog 11 #[.string ⟨#[97, 10]⟩] w fun e W' => (∃ g cap, e = .returned (.slice (some ⟨g, 0, none⟩) 2 cap)) ∧ Below w.heap.size w W' := by
  refine (lines_any _ (by decide) w).mono ?_
  rintro e W' ⟨⟨v, rfl, ho⟩, hb⟩
  have ho' : W'.ownsRow w.heap.size 9 1 v (1 + 1) (Tx.vals ⟨#[97, 10]⟩ (Tx.lines ⟨#[97, 10]⟩)) := ho
  obtain ⟨g, cap, rfl⟩ := ownsRow_succ ho'
  exact ⟨⟨g, cap, rfl⟩, hb⟩

theorem caret_al (w : World) : Calls Try.prog 15 #[.string ⟨#[97, 98, 10, 99, 100]⟩, .int .i64 4] w fun e W' => e = .returned (.string ⟨#[99, 100, 10, 32, 94]⟩) ∧ Below w.heap.size w W' := by
  refine (caret_any _ _ (by decide) w).mono ?_
  rintro e W' ⟨⟨⟨⟨t⟩⟩, rfl, ht⟩, hb⟩
  refine ⟨?_, hb⟩
  have : t = [99, 100, 10, 32, 94] := ht.trans (by decide +kernel)
  rw [this]

theorem same_al (w : World) : Calls Try.prog 17 #[.string ⟨#[97, 98, 99]⟩, .string ⟨#[97, 98, 100]⟩] w fun e W' => e = .returned (.int .i64 2) ∧ ∃ n, W' = w.drewN n := by
  refine (same_any _ _ w (by decide) (by decide)).mono ?_
  rintro e W' ⟨rfl, hb⟩
  exact ⟨rfl, hb⟩

set_option maxHeartbeats 1000000 in
theorem alive_any (w : World) : Calls Try.prog 19 #[] w fun e W' => e = .returned (.bool true) ∧ Below w.heap.size w W' := by
  go_enter Try.func19, Try.ntmps19
  go_wp2_with (first
    | (go_at_call 8; refine (where_al _).mono ?_; rintro e w1 ⟨rfl, hb1⟩)
    | (go_at_call 20; refine (at_al _).mono ?_; rintro e w2 ⟨rfl, hb2⟩)
    | (go_at_call 11; refine (lines_al _).mono ?_; rintro e w3 ⟨⟨g, cap, rfl⟩, hb3⟩)
    | (go_at_call 15; refine (caret_al _).mono ?_; rintro e w4 ⟨rfl, hb4⟩)
    | (go_at_call 17; refine (same_al _).mono ?_; rintro e w5 ⟨rfl, n, rfl⟩))
  go_ret
  exact ⟨rfl, bdN (btr (btr (btr hb1 hb2) hb3) hb4) n⟩
end Go.Proofs.Ytmcjcgodapkkpaa
