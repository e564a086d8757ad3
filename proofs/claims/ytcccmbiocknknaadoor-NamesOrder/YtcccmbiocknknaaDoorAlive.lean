/- What the chapter's examples come to: alive returns true. -/
import Derived.Test.YtcccmbiocknknaaDoorSplit2
namespace Go.Proofs.YtcccmbiocknknaaDoor
open Go.RowKit Go.Shelf
set_option linter.unusedVariables false

/-- Two calls one behind the other: nothing that lay has turned. -/
theorem btr {w a b : World} (h : Below w.heap.size w a) (k : Below a.heap.size a b) : Below w.heap.size w b := h.trans (k.mono h.size)
theorem bdN {B : Nat} {a w : World} (h : Below B a w) (n : Nat) : Below B a (w.drewN n) := ⟨h.os, h.tape, h.output, h.size, h.block⟩

theorem Strs.new (W : World) (xs : List ByteArray) (n c : Nat) (h : xs.length = n) : Strs (W.alloc (.cells (xs.map Value.string).toArray 9)) (.slice (some ⟨W.heap.size, 0, none⟩) n c) xs := by
  subst h
  refine .inl ⟨W.heap.size, 0, c, rfl, fun j x hx => ?_⟩
  unfold World.cell?
  rw [World.alloc_heap_new]
  simp [hx]
theorem Strs.alloc {W : World} {v : Value} {xs : List ByteArray} (h : Strs W v xs) (o : Obj) : Strs (W.alloc o) v xs := h.below ((Below.refl W.heap.size W).alloc (Nat.le_refl _) o) (Nat.le_refl _)

theorem split_al (w : World) : Calls Tryd.prog 27 #[.string ⟨#[65, 46, 66, 46, 120]⟩] w fun e W' => (∃ v, e = .returned (.tuple #[v, .int .i64 0]) ∧ Strs W' v [⟨#[65]⟩, ⟨#[66]⟩, ⟨#[120]⟩]) ∧ Below w.heap.size w W' := by
  refine (split_any _ (by decide) w).mono ?_
  rintro e W' ⟨⟨v, rfl, hv, _⟩, hb⟩
  exact ⟨⟨v, rfl, hv⟩, hb⟩
theorem label_al (w : World) : Calls Tryd.prog 33 #[.string ⟨#[78, 105, 108, 40, 41]⟩] w fun e w' => e = .returned (.tuple #[.int .i64 3, .string ⟨#[78, 105, 108]⟩]) ∧ w' = w := by
  refine (label_any _ (by decide) w).mono ?_
  rintro e w' ⟨rfl, rfl⟩
  exact ⟨by kernel_rfl, rfl⟩
theorem upper_al (w : World) : Calls Tryd.prog 16 #[.string ⟨#[88]⟩] w fun e w' => e = .returned (.bool true) ∧ w' = w := upper_any ⟨#[88]⟩ (by decide) w
theorem lower_al (w : World) : Calls Tryd.prog 14 #[.string ⟨#[88]⟩] w fun e w' => e = .returned (.bool false) ∧ w' = w := lower_any ⟨#[88]⟩ (by decide) w
theorem texts_al {W : World} {v : Value} (h : Strs W v [⟨#[65]⟩, ⟨#[66]⟩, ⟨#[120]⟩]) : Calls Tryd.prog 10 #[v, .slice (some ⟨W.heap.size, 0, none⟩) 3 3] (W.alloc (.cells #[.string ⟨#[65]⟩, .string ⟨#[66]⟩, .string ⟨#[120]⟩] 9)) fun e w' => e = .returned (.bool true) ∧ Below W.heap.size W w' := by
  refine (texts_any v _ [⟨#[65]⟩, ⟨#[66]⟩, ⟨#[120]⟩] [⟨#[65]⟩, ⟨#[66]⟩, ⟨#[120]⟩] _ (h.alloc _) (Strs.new W [⟨#[65]⟩, ⟨#[66]⟩, ⟨#[120]⟩] 3 3 rfl) (by decide) (by decide)).mono ?_
  rintro e w' ⟨rfl, n, rfl⟩
  exact ⟨by rw [decide_eq_true rfl], bdN ((Below.refl W.heap.size W).alloc (Nat.le_refl _) _) n⟩

set_option maxRecDepth 100000 in
set_option maxHeartbeats 1000000 in
theorem alive_any (w : World) : Calls Tryd.prog 22 #[] w fun e W' => e = .returned (.bool true) ∧ Below w.heap.size w W' := by
  have r1 : (Nm.right ⟨#[97]⟩ == 0) = true := by decide
  have r2 : (Nm.right ⟨#[119, 104, 101, 114, 101]⟩ == 12) = true := by decide
  go_enter Tryd.func22, Tryd.ntmps22
  go_wp2_with (first
    | (go_at_call 27; refine (split_al _).mono ?_; rintro e w1 ⟨⟨v, rfl, hst⟩, hb1⟩)
    | (go_at_call 33; refine (label_al _).mono ?_; rintro e w2 ⟨rfl, rfl⟩)
    | (go_at_call 12; refine (right_any _ (by decide) _).mono ?_; rintro e w3 ⟨rfl, rfl⟩)
    | (go_at_call 16; refine (upper_al _).mono ?_; rintro e w3 ⟨rfl, rfl⟩)
    | (go_at_call 14; refine (lower_al _).mono ?_; rintro e w3 ⟨rfl, rfl⟩)
    | (go_at_call 10; refine (texts_al hst).mono ?_; rintro e w4 ⟨rfl, hb4⟩)
    | (go_at_call 9; refine (words_any _).mono ?_; rintro e w5 ⟨rfl, rfl⟩))
  go_ret
  exact ⟨rfl, (btr hb1 hb4).alloc (btr hb1 hb4).size _⟩
end Go.Proofs.YtcccmbiocknknaaDoor
