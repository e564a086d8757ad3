/- What the document's own Lines comes to: a new slice of the lines, as Lines has it. -/
import Derived.Test.YtmcjcgodapkkpaaLines
namespace Go.Proofs.Ytmcjcgodapkkpaa
open Go.RowKit Go.Shelf
set_option linter.unusedVariables false

theorem own_block {w : World} {base : Nat} {e : TypeId} {size : Nat} {v : Value} {n : Nat} {xs : List Value} (h : w.ownsRow base e size v n xs) : ∀ j, v.ownBlock = some j → base ≤ j := fun j ej => by
  rcases h.2 with ⟨rfl, _⟩ | ⟨g, cap, cur, rfl, hg, _, _⟩
  · simp [Value.ownBlock] at ej
  · obtain rfl : g = j := by simpa [Value.ownBlock] using ej
    exact hg

theorem Tx.drop_cons (s : ByteArray) (k : Nat) (h : k < s.size) : s.data.toList.drop k = s[k] :: s.data.toList.drop (k + 1) := by
  rw [List.drop_eq_getElem_cons (by simpa using h)]; rfl

theorem Tx.bnd_hit (s : ByteArray) (f k : Nat) (h : k < s.size) (e : s[k] = 10) : Tx.bnd f k (s.data.toList.drop k) = (f, k) :: Tx.bnd (k + 1) (k + 1) (s.data.toList.drop (k + 1)) := by
  rw [Tx.drop_cons s k h, Tx.bnd, if_pos e]
theorem Tx.bnd_miss (s : ByteArray) (f k : Nat) (h : k < s.size) (e : ¬ s[k] = 10) : Tx.bnd f k (s.data.toList.drop k) = Tx.bnd f (k + 1) (s.data.toList.drop (k + 1)) := by
  rw [Tx.drop_cons s k h, Tx.bnd, if_neg e]
theorem Tx.bnd_end (s : ByteArray) (f k : Nat) (h : k = s.size) : Tx.bnd f k (s.data.toList.drop k) = [(f, s.size)] := by
  rw [List.drop_eq_nil_of_le (by simp; omega), Tx.bnd, h]

theorem byte10 (c : UInt8) : ((c.toNat : Int) == 10) = decide (c = 10) := by
  by_cases h : c = 10
  · subst h; rfl
  · rw [decide_eq_false h, beq_eq_false_iff_ne]
    intro e
    exact h (UInt8.toNat_inj.1 (show c.toNat = (10 : UInt8).toNat by show c.toNat = 10; omega))

set_option maxRecDepth 100000 in
set_option maxHeartbeats 2000000 in
theorem refLines_any (s : ByteArray) (hs : s.size ≤ 2097152) (w : World) :
    Calls Try.prog 12 #[.string s] w fun e W' => (∃ v, e = .returned v ∧ W'.ownsRow w.heap.size 9 1 v (Tx.lines s).length (Tx.vals s (Tx.lines s))) ∧ Below w.heap.size w W' := by
  obtain ⟨i0, hi, hz0, hz1, hz2⟩ := info_parts info9
  have hll := Tx.lines_length s
  go_enter Try.func12, Try.ntmps12
  go_wp2
  go_loopw [3, 4, 5] (fun v fv iv wr => ∃ (k f : Nat) (pre : List (Nat × Nat)), iv = .int .i64 k ∧ fv = .int .i64 f ∧ k ≤ s.size ∧ f ≤ k ∧ Hid (pre ++ Tx.bnd f k (s.data.toList.drop k) = Tx.lines s) ∧ wr.ownsRow w.heap.size 9 1 v pre.length (Tx.vals s pre) ∧ Below w.heap.size w wr)
    (fun _ _ iv _ => s.size - (intOf iv).toNat)
  case atStart => exact ⟨0, 0, [], rfl, rfl, Nat.zero_le _, Nat.le_refl _, rfl, World.ownsRow_nil _ _ _ _, Below.refl _ _⟩
  case round =>
    obtain ⟨k, f, pre, rfl, rfl, hk, hf, hx, hrow, hB⟩ := hrel
    by_cases hlt : k < s.size
    · by_cases h10 : s[k] = 10
      · have e10 : ((s[k].toNat : Int) == 10) = true := by rw [byte10, decide_eq_true h10]
        have HX : Hid ((pre ++ [(f, k)]) ++ Tx.bnd (k + 1) (k + 1) (s.data.toList.drop (k + 1)) = Tx.lines s) := by
          show _ = _; rw [← hx.out, Tx.bnd_hit s f k hlt h10]; simp
        have hpl : pre.length < (Tx.lines s).length := by rw [← HX.out]; simp
        clear hx h10
        go_wp2_with (at_builtin; refine wpList_append_own _ rfl _ _ 25 rfl w.heap.size 9 i0 (.string ⟨#[]⟩) 1 16 Try.underlying25 hi hz0 hz1 hz2 rfl (by decide) _ _ _ rfl (hrow.alloc _) ⟨wr.heap.size, 0, none⟩ 1 1 [.string (s.extract f k)] rfl rfl (cell_one_new _ _ _) (by simp [Value.oneCell']) (by unfold maxLen; omega) (by omega) (by have := hB.size; simp; omega) ?_; intro v' w1 hown' hgrow _)
        go_roundw
        case rel => exact ⟨k + 1, k + 1, pre ++ [(f, k)], by go_num, by go_num, by omega, by omega, HX, by simpa [Tx.vals_snoc] using hown', (hB.alloc hB.size _).grown hgrow (by have := hB.size; simp; omega) (own_block hrow)⟩
        case measure => simp [intOf]; omega
      · have e10 : ((s[k].toNat : Int) == 10) = false := by rw [byte10, decide_eq_false h10]
        have HX : Hid (pre ++ Tx.bnd f (k + 1) (s.data.toList.drop (k + 1)) = Tx.lines s) := by
          show _ = _; rw [← hx.out, Tx.bnd_miss s f k hlt h10]
        clear hx h10
        go_wp2
        go_roundw
        case rel => exact ⟨k + 1, f, pre, by go_num, rfl, by omega, by omega, HX, hrow, hB⟩
        case measure => simp [intOf]; omega
    · have HX : Hid (pre ++ [(f, s.size)] = Tx.lines s) := by
        show _ = _; rw [← hx.out, Tx.bnd_end s f k (by omega)]
      have hpl : pre.length < (Tx.lines s).length := by rw [← HX.out]; simp
      clear hx
      go_wp2_with (at_builtin; refine wpList_append_own _ rfl _ _ 25 rfl w.heap.size 9 i0 (.string ⟨#[]⟩) 1 16 Try.underlying25 hi hz0 hz1 hz2 rfl (by decide) _ _ _ rfl (hrow.alloc _) ⟨wr.heap.size, 0, none⟩ 1 1 [.string (s.extract f s.size)] rfl rfl (cell_one_new _ _ _) (by simp [Value.oneCell']) (by unfold maxLen; omega) (by omega) (by have := hB.size; simp; omega) ?_; intro v' w1 hown' hgrow _)
      go_ret
      refine ⟨⟨_, rfl, ?_⟩, (hB.alloc hB.size _).grown hgrow (by have := hB.size; simp; omega) (own_block hrow)⟩
      rw [← HX.out]
      simpa [Tx.vals_snoc] using hown'
end Go.Proofs.Ytmcjcgodapkkpaa
