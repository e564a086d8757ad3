/- The walk of NamesRights: for any text it returns true, and nothing that lay has turned. -/
import Derived.Test.YtcccmbiocknknaaDoorRefTyvar
namespace Go.Proofs.YtcccmbiocknknaaDoor
open Go.RowKit Go.Shelf
set_option linter.unusedVariables false

/-- A new row of the reserved words, at b. -/
structure WordsAt (w w' : World) (b : Nat) : Prop where
  st : Strs w' (.slice (some ⟨b, 0, none⟩) 24 24) Nm.wordsB
  cell : w'.cell? ⟨b, 0, none⟩ = some (.string ⟨#[98, 111, 111, 108]⟩)
  froz : w'.frozen? ⟨b, 0, none⟩ = false
  ge : w.heap.size ≤ b
  lt : b < w'.heap.size
  below : Below w.heap.size w w'

theorem wordsAt_alloc (w : World) : WordsAt w (w.alloc (.cells (Nm.wordsB.map Value.string).toArray 9)) w.heap.size where
  st := Strs.new w Nm.wordsB 24 24 rfl
  cell := by unfold World.cell?; rw [World.alloc_heap_new]; rfl
  froz := by unfold World.frozen?; rw [World.alloc_heap_new]; rfl
  ge := Nat.le_refl _
  lt := by simp
  below := (Below.refl _ w).alloc (Nat.le_refl _) _

theorem words_at (w : World) : Calls Tryd.prog 9 #[] w fun e w' => ∃ b, e = .returned (.slice (some ⟨b, 0, none⟩) 24 24) ∧ WordsAt w w' b := by
  refine (words_any w).mono ?_
  rintro e w' ⟨rfl, rfl⟩
  exact ⟨_, rfl, wordsAt_alloc w⟩
theorem refWords_at (w : World) : Calls Tryd.prog 11 #[] w fun e w' => ∃ b, e = .returned (.slice (some ⟨b, 0, none⟩) 24 24) ∧ WordsAt w w' b := by
  refine (refWords_any w).mono ?_
  rintro e w' ⟨rfl, rfl⟩
  exact ⟨_, rfl, wordsAt_alloc w⟩

theorem texts_same {w : World} {a b : Value} {xs : List ByteArray} (ha : Strs w a xs) (hb : Strs w b xs) (hl : xs.length ≤ maxLen) : Calls Tryd.prog 10 #[a, b] w fun e w' => e = .returned (.bool true) ∧ Below w.heap.size w w' := by
  refine (texts_any a b xs xs w ha hb hl hl).mono ?_
  rintro e w' ⟨rfl, n, rfl⟩
  exact ⟨by rw [decide_eq_true rfl], bdN (Below.refl _ w) n⟩

theorem bl_cell {w w' : World} {b : Nat} {v : Value} (h : Below w.heap.size w w') (hc : w.cell? ⟨b, 0, none⟩ = some v) : w'.cell? ⟨b, 0, none⟩ = some v :=
  (World.cell?_of_block (h.block b (World.block_lt_of_cell? w _ hc))).trans hc
theorem bl_froz {w w' : World} {b : Nat} (h : Below w.heap.size w w') (hlt : b < w.heap.size) (hc : w.frozen? ⟨b, 0, none⟩ = false) : w'.frozen? ⟨b, 0, none⟩ = false :=
  (World.frozen?_of_block (h.block b hlt)).trans hc

set_option maxRecDepth 100000 in
set_option maxHeartbeats 2000000 in
theorem rights_walk (s : ByteArray) (hs : s.size ≤ maxLen) (w : World) : Calls Tryd.prog 3 #[.string s] w fun e w' => e = .returned (.bool true) ∧ Below w.heap.size w w' := by
  have hr : (Nm.right s == Nm.right s) = true := beq_self_eq_true _
  have hl : (Nm.lower s == Nm.lower s) = true := beq_self_eq_true _
  have hu : (Nm.upper s == Nm.upper s) = true := beq_self_eq_true _
  have ht : (Nm.tyvar s == Nm.tyvar s) = true := beq_self_eq_true _
  have hv : (Nm.reserved s == Nm.reserved s) = true := beq_self_eq_true _
  go_enter Tryd.func3, Tryd.ntmps3
  go_wp2_with (first
    | (go_at_call 9; have _ := hbs; refine (words_at _).mono ?_; rintro e w4 ⟨b4, rfl, k4⟩)
    | (go_at_call 11; have _ := k4; refine (refWords_at _).mono ?_; rintro e w5 ⟨b5, rfl, k5⟩)
    | (go_at_call 9; refine (words_at _).mono ?_; rintro e w1 ⟨b1, rfl, k1⟩)
    | (go_at_call 11; refine (refWords_at _).mono ?_; rintro e w2 ⟨b2, rfl, k2⟩)
    | (go_at_call 10; refine (texts_same (k1.st.below k2.below (Nat.le_refl _)) k2.st (by decide)).mono ?_; rintro e w3 ⟨rfl, hb3⟩; have c3 := bl_cell hb3 (bl_cell k2.below k1.cell); have f3 := bl_froz hb3 (Nat.lt_of_lt_of_le k1.lt k2.below.size) (bl_froz k2.below k1.lt k1.froz); have hbs : Below w.heap.size w (w3.setCell ⟨b1, 0, none⟩ (.string ⟨#[115, 112, 111, 105, 108, 116]⟩)) := (btr (btr k1.below k2.below) hb3).setCell (p := ⟨b1, 0, none⟩) k1.ge _; clear hb3 k1 k2)
    | (go_at_call 10; refine (texts_same (k4.st.below k5.below (Nat.le_refl _)) k5.st (by decide)).mono ?_; rintro e w6 ⟨rfl, hb6⟩; have hb6' := btr (btr (btr hbs k4.below) k5.below) hb6; clear k4 k5 hb6 c3 f3)
    | (go_at_call 12; refine (right_any _ hs _).mono ?_; rintro e w' ⟨rfl, rfl⟩)
    | (go_at_call 13; refine (refRight_any _ hs _).mono ?_; rintro e w7 ⟨rfl, hb7⟩)
    | (go_at_call 14; refine (lower_any _ hs _).mono ?_; rintro e w' ⟨rfl, rfl⟩)
    | (go_at_call 15; refine (ref_lower_any _ hs _).mono ?_; rintro e w8 ⟨rfl, hb8⟩)
    | (go_at_call 16; refine (upper_any _ hs _).mono ?_; rintro e w' ⟨rfl, rfl⟩)
    | (go_at_call 17; refine (ref_upper_any _ hs _).mono ?_; rintro e w9 ⟨rfl, hb9⟩)
    | (go_at_call 18; refine (tyvar_any _ hs _).mono ?_; rintro e w' ⟨rfl, rfl⟩)
    | (go_at_call 19; refine (refTyvar_any _ hs _).mono ?_; rintro e w' ⟨rfl, rfl⟩)
    | (go_at_call 20; refine (reserved_any _ _).mono ?_; rintro e w' ⟨rfl, rfl⟩)
    | (go_at_call 21; refine (refReserved_any _ _).mono ?_; rintro e w10 ⟨rfl, hb10⟩)
    | (go_at_call 22; refine (alive_any _).mono ?_; rintro e w11 ⟨rfl, hb11⟩))
  go_ret
  exact ⟨rfl, btr (btr (btr (btr (btr hb6' hb7) hb8) hb9) hb10) hb11⟩
end Go.Proofs.YtcccmbiocknknaaDoor
