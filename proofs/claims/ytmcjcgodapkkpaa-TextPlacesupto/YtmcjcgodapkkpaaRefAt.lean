/- What the document's own At and Where come to: the same as At's and Where's. -/
import Derived.Test.YtmcjcgodapkkpaaRefLines
import Derived.Test.YtmcjcgodapkkpaaAt
import Derived.Test.YtmcjcgodapkkpaaWhere
namespace Go.Proofs.Ytmcjcgodapkkpaa
open Go.RowKit Go.Shelf
set_option linter.unusedVariables false

/-- Where line k begins, and where it ends. -/
def Tx.lb (s : ByteArray) (k : Nat) : Nat := ((Tx.lines s)[k]?.getD (0, 0)).1
def Tx.le (s : ByteArray) (k : Nat) : Nat := ((Tx.lines s)[k]?.getD (0, 0)).2
/-- How many lines. -/
def Tx.nl (s : ByteArray) : Nat := (Tx.lines s).length

theorem Tx.nl_pos (s : ByteArray) : 0 < Tx.nl s := List.length_pos_iff.2 (Tx.bnd_ne _ _ _)
theorem Tx.nl_le (s : ByteArray) : Tx.nl s ≤ s.size + 1 := Tx.lines_length s
theorem Tx.get_line {s : ByteArray} {k : Nat} (h : k < Tx.nl s) : (Tx.lines s)[k]? = some (Tx.lb s k, Tx.le s k) := by
  unfold Tx.lb Tx.le
  rw [List.getElem?_eq_getElem h]
  rfl

theorem Tx.bnd_first : ∀ (l : List UInt8) (f i : Nat), ∃ e r, Tx.bnd f i l = (f, e) :: r
  | [], f, i => ⟨i, [], by rw [Tx.bnd]⟩
  | c :: l, f, i => by
    rw [Tx.bnd]
    split
    · exact ⟨_, _, rfl⟩
    · exact Tx.bnd_first l f (i + 1)

theorem Tx.bnd_next : ∀ (l : List UInt8) (f i : Nat) (k : Nat) (x y : Nat × Nat), (Tx.bnd f i l)[k]? = some x → (Tx.bnd f i l)[k + 1]? = some y → y.1 = x.2 + 1
  | [], f, i, k, x, y, hx, hy => by rw [Tx.bnd] at hy; simp at hy
  | c :: l, f, i, k, x, y, hx, hy => by
    rw [Tx.bnd] at hx hy
    split at hx
    · rename_i hc
      rw [if_pos hc] at hy
      cases k with
      | zero =>
        obtain ⟨e, r, h⟩ := Tx.bnd_first l (i + 1) (i + 1)
        rw [h] at hy
        simp at hx hy
        rw [← hx, ← hy]
      | succ k => exact Tx.bnd_next l (i + 1) (i + 1) k x y (by simpa using hx) (by simpa using hy)
    · rename_i hc
      rw [if_neg hc] at hy
      exact Tx.bnd_next l f (i + 1) k x y hx hy

theorem Tx.lb_zero (s : ByteArray) : Tx.lb s 0 = 0 := by
  obtain ⟨e, r, h⟩ := Tx.bnd_first s.data.toList 0 0
  unfold Tx.lb Tx.lines
  rw [h]
  rfl
theorem Tx.lb_next {s : ByteArray} {k : Nat} (h : k + 1 < Tx.nl s) : Tx.lb s (k + 1) = Tx.le s k + 1 :=
  Tx.bnd_next s.data.toList 0 0 k _ _ (Tx.get_line (by omega)) (Tx.get_line h)
theorem Tx.lb_le {s : ByteArray} {k : Nat} (h : k < Tx.nl s) : Tx.lb s k ≤ Tx.le s k ∧ Tx.le s k ≤ s.size := by
  have eL : s.data.toList.length = s.size := by rw [Array.length_toList]; rfl
  have := Tx.bnd_in s.data.toList 0 0 (Nat.le_refl _) (Tx.lb s k, Tx.le s k) (List.mem_of_getElem? (Tx.get_line h))
  simp at this
  omega

/-- A slice of the lines, as it is read. -/
def LinesAt (s : ByteArray) (w W' : World) (v : Value) : Prop :=
  ∃ g cap, v = .slice (some ⟨g, 0, none⟩) (Tx.nl s) cap ∧ g < W'.heap.size ∧ (∀ j, j < Tx.nl s → W'.cell? ⟨g, j, none⟩ = some (.string (s.extract (Tx.lb s j) (Tx.le s j)))) ∧ Below w.heap.size w W'

theorem linesAt_of {s : ByteArray} {w W' : World} {v : Value} (h : W'.ownsRow w.heap.size 9 1 v (Tx.lines s).length (Tx.vals s (Tx.lines s))) (hb : Below w.heap.size w W') : LinesAt s w W' v := by
  have hp := Tx.nl_pos s
  have hc : ∀ g, v.ownBlock = some g → _ := fun g hg => h.cells (g := g) hg
  rcases h.2 with ⟨_, h0⟩ | ⟨g, cap, cur, rfl, hg, hk, _⟩
  · unfold Tx.nl at hp; omega
  · refine ⟨g, cap, rfl, (Array.getElem?_eq_some_iff.1 hk).1, fun j hj => ?_, hb⟩
    have := hc g rfl j (.string (s.extract (Tx.lb s j) (Tx.le s j))) (by unfold Tx.vals; rw [List.getElem?_map, Tx.get_line hj]; rfl)
    by_cases hj0 : j = 0
    · subst hj0; simpa [Addr.add] using this
    · simpa [Addr.add, hj0] using this

theorem lines_rd (s : ByteArray) (hs : s.size ≤ 2097152) (w : World) : Calls Try.prog 11 #[.string s] w fun e W' => ∃ v, e = .returned v ∧ LinesAt s w W' v := by
  refine (lines_any s hs w).mono ?_
  rintro e W' ⟨⟨v, rfl, h⟩, hb⟩
  exact ⟨v, rfl, linesAt_of h hb⟩
theorem refLines_rd (s : ByteArray) (hs : s.size ≤ 2097152) (w : World) : Calls Try.prog 12 #[.string s] w fun e W' => ∃ v, e = .returned v ∧ LinesAt s w W' v := by
  refine (refLines_any s hs w).mono ?_
  rintro e W' ⟨⟨v, rfl, h⟩, hb⟩
  exact ⟨v, rfl, linesAt_of h hb⟩

theorem Tx.atR_in {s : ByteArray} {k : Nat} {col : Int} (h : k < Tx.nl s) (h2 : 0 ≤ col) : Tx.atR s k col = if col ≤ (Tx.le s k : Int) - (Tx.lb s k : Int) then ((Tx.lb s k : Int) + col, 0) else (0, 1) := by
  unfold Tx.atR
  rw [if_neg (by omega), Int.toNat_natCast, Tx.get_line h]

set_option maxRecDepth 100000 in
set_option maxHeartbeats 1000000 in
theorem refAt_bad (s : ByteArray) (line col : Int) (hs : s.size ≤ 2097152) (w : World) (hl : line ≤ 9223372036854775807)
    (h : line < 0 ∨ (Tx.nl s : Int) ≤ line ∨ col < 0) :
    Calls Try.prog 21 #[.string s, .int .i64 line, .int .i64 col] w fun e W' => e = .returned (.tuple #[.int .i64 0, .int .i64 1]) ∧ Below w.heap.size w W' := by
  have hn := Tx.nl_le s
  by_cases h1 : line < 0
  · clear h
    go_enter Try.func21, Try.ntmps21
    go_wp2_with (go_at_call 12; refine (refLines_rd _ hs _).mono ?_; rintro e w1 ⟨v, rfl, g, cap, rfl, hg, hc, hb⟩)
    go_ret2
    exact ⟨rfl, hb⟩
  · by_cases h2 : (Tx.nl s : Int) ≤ line
    · clear h
      go_enter Try.func21, Try.ntmps21
      go_wp2_with (go_at_call 12; refine (refLines_rd _ hs _).mono ?_; rintro e w1 ⟨v, rfl, g, cap, rfl, hg, hc, hb⟩)
      go_ret2
      exact ⟨rfl, hb⟩
    · have h3 : col < 0 := by omega
      clear h
      go_enter Try.func21, Try.ntmps21
      go_wp2_with (go_at_call 12; refine (refLines_rd _ hs _).mono ?_; rintro e w1 ⟨v, rfl, g, cap, rfl, hg, hc, hb⟩)
      go_ret2
      exact ⟨rfl, hb⟩

theorem val_int {k : IntKind} {a b : Int} (h : a = b) : Value.int k a = .int k b := by rw [h]

set_option maxRecDepth 100000 in
set_option maxHeartbeats 1000000 in
theorem refAt_good (s : ByteArray) (ln : Nat) (col : Int) (hs : s.size ≤ 2097152) (w : World) (hc : col ≤ 9223372036854775807) (h1 : ln < Tx.nl s) (h2 : 0 ≤ col) :
    Calls Try.prog 21 #[.string s, .int .i64 ln, .int .i64 col] w fun e W' => e = .returned (.tuple #[.int .i64 (Tx.atR s ln col).1, .int .i64 (Tx.atR s ln col).2]) ∧ Below w.heap.size w W' := by
  have hn := Tx.nl_le s
  have hbl := Tx.lb_le h1
  have d1 : decide ((ln : Int) < 0) = false := by simp
  have d2 : decide ((Tx.nl s : Int) ≤ (ln : Int)) = false := by simp; omega
  have d3 : decide (col < 0) = false := by simp; omega
  by_cases h3 : (Tx.le s ln : Int) - (Tx.lb s ln : Int) < col
  · have HR : Hid (Tx.atR s ln col = (0, 1)) := by show _ = _; rw [Tx.atR_in h1 h2, if_neg (by omega)]
    go_enter Try.func21, Try.ntmps21
    go_wp2_with (go_at_call 12; refine (refLines_rd _ hs _).mono ?_; rintro e w1 ⟨v, rfl, g, cap, rfl, hg, hc, hb⟩; have hcl := hc ln h1; clear hc)
    go_ret2
    exact ⟨by rw [HR.out]; rfl, hb⟩
  · have HR : Hid (Tx.atR s ln col = ((Tx.lb s ln : Int) + col, 0)) := by show _ = _; rw [Tx.atR_in h1 h2, if_pos (by omega)]
    have h3' : col ≤ (Tx.le s ln : Int) - (Tx.lb s ln : Int) := by omega
    go_enter Try.func21, Try.ntmps21
    go_wp2_with (go_at_call 12; refine (refLines_rd _ hs _).mono ?_; rintro e w1 ⟨v, rfl, g, cap, rfl, hg, hc, hb⟩; have hcl := hc ln h1; have HC : Hid (∀ j, j < Tx.nl s → w1.cell? ⟨g, j, none⟩ = some (.string (s.extract (Tx.lb s j) (Tx.le s j)))) := hc; clear hc)
    go_loop [9, 10] (fun a i => ∃ k : Nat, k ≤ ln ∧ i = .int .i64 k ∧ a = .int .i64 (Tx.lb s k : Nat)) (fun _ i => ln - (intOf i).toNat)
    case atStart => exact ⟨0, Nat.zero_le _, rfl, by rw [Tx.lb_zero]; rfl⟩
    case round =>
      obtain ⟨k, hk, rfl, rfl⟩ := hrel
      by_cases hlt : k < ln
      · have hck := HC.out k (by omega)
        have hbk := Tx.lb_le (s := s) (k := k) (by omega)
        have HN : Hid (Tx.lb s (k + 1) = Tx.le s k + 1) := Tx.lb_next (by omega)
        clear hcl
        go_wp2
        go_round
        case rel => exact ⟨k + 1, by omega, by go_num, val_int (by rw [HN.out]; omega)⟩
        case measure => simp [intOf]; omega
      · obtain rfl : k = ln := by omega
        clear hcl
        go_wp2
        go_ret2
        exact ⟨by rw [HR.out]; rfl, hb⟩

theorem refAt_any (s : ByteArray) (line col : Int) (hs : s.size ≤ 2097152) (hl : line ≤ 9223372036854775807) (hc : col ≤ 9223372036854775807) (w : World) :
    Calls Try.prog 21 #[.string s, .int .i64 line, .int .i64 col] w fun e W' => e = .returned (.tuple #[.int .i64 (Tx.atR s line col).1, .int .i64 (Tx.atR s line col).2]) ∧ Below w.heap.size w W' := by
  by_cases h : line < 0 ∨ (Tx.nl s : Int) ≤ line ∨ col < 0
  · have e : Tx.atR s line col = (0, 1) := by
      by_cases h' : line < 0 ∨ col < 0
      · unfold Tx.atR; rw [if_pos h']
      · exact Tx.atR_out (show ((Tx.nl s : Nat) : Int) ≤ line by omega)
    rw [e]
    exact refAt_bad s line col hs w hl h
  · obtain ⟨ln, rfl⟩ := Int.eq_ofNat_of_zero_le (show 0 ≤ line by omega)
    exact refAt_good s ln col hs w hc (by omega) (by omega)
end Go.Proofs.Ytmcjcgodapkkpaa
