/- What the document's own Where and Caret come to, and that two like lists are found to be the same. -/
import Derived.Test.YtmcjcgodapkkpaaRefAt
import Derived.Test.YtmcjcgodapkkpaaBytes
import Derived.Test.YtmcjcgodapkkpaaBackW
namespace Go.Proofs.Ytmcjcgodapkkpaa
open Go.RowKit Go.Shelf
set_option linter.unusedVariables false

theorem Tx.bnd_head : ∀ (l : List UInt8) (f i : Nat), ∃ e r, Tx.bnd f i l = (f, e) :: r ∧ i ≤ e
  | [], f, i => ⟨i, [], by rw [Tx.bnd], Nat.le_refl _⟩
  | c :: l, f, i => by
    rw [Tx.bnd]
    split
    · exact ⟨_, _, rfl, Nat.le_refl _⟩
    · obtain ⟨e, r, h1, h2⟩ := Tx.bnd_head l f (i + 1)
      exact ⟨e, r, h1, by omega⟩

theorem Tx.where_of {s : ByteArray} {k f : Nat} {pre : List (Nat × Nat)} (h : pre ++ Tx.bnd f k (s.data.toList.drop k) = Tx.lines s) (hp : ∀ y, y ∈ pre → y.2 < k) : Tx.wl s k = pre.length ∧ Tx.wf s k = f := by
  obtain ⟨e, r, h1, h2⟩ := Tx.bnd_head (s.data.toList.drop k) f k
  rw [h1] at h
  have := Tx.w_eq (s := s) (k := k) (q := pre) (x := (f, e)) (r := r) h.symm hp h2
  exact ⟨this.1, this.2.1⟩

set_option maxRecDepth 100000 in
set_option maxHeartbeats 1000000 in
theorem refWhere_any (s : ByteArray) (i : Int) (hs : s.size ≤ 2097152) (w : World) :
    Calls Try.prog 9 #[.string s, .int .i64 i] w fun e W' => e = .returned (.tuple #[.int .i64 (Tx.wl s (Tx.at s.size i) : Nat), .int .i64 ((Tx.at s.size i : Nat) - (Tx.wf s (Tx.at s.size i) : Nat))]) ∧ W' = w := by
  have ha := Tx.at_le s.size i
  have hm : s.size ≤ maxLen := by unfold maxLen; omega
  have hll := Tx.lines_length s
  obtain ⟨n, hn⟩ : ∃ n, Tx.at s.size i = n := ⟨_, rfl⟩
  have HN : Hid (Tx.at s.size i = n) := hn
  rw [hn] at ha
  clear hn
  go_enter Try.func9, Try.ntmps9
  go_wp2_with (go_at_call 24; refine (place_any _ _ _ hm).mono ?_; rw [HN.out]; rintro e w' ⟨rfl, rfl⟩)
  go_loop [6, 7, 8] (fun lv fv iv => ∃ (k f : Nat) (pre : List (Nat × Nat)), iv = .int .i64 k ∧ fv = .int .i64 f ∧ lv = .int .i64 (pre.length : Nat) ∧ k ≤ n ∧ f ≤ k ∧ Hid (pre ++ Tx.bnd f k (s.data.toList.drop k) = Tx.lines s ∧ (∀ y, y ∈ pre → y.2 < k)) ∧ pre.length ≤ s.size + 1) (fun _ _ iv => n - (intOf iv).toNat)
  case atStart => exact ⟨0, 0, [], rfl, rfl, rfl, Nat.zero_le _, Nat.le_refl _, ⟨rfl, by simp⟩, Nat.zero_le _⟩
  case round =>
    obtain ⟨k, f, pre, rfl, rfl, rfl, hk, hf, hx, hp⟩ := hrel
    by_cases hlt : k < n
    · have hks : k < s.size := by omega
      by_cases h10 : s[k] = 10
      · have e10 : ((s[k].toNat : Int) == 10) = true := by rw [byte10, decide_eq_true h10]
        have HX : Hid ((pre ++ [(f, k)]) ++ Tx.bnd (k + 1) (k + 1) (s.data.toList.drop (k + 1)) = Tx.lines s ∧ (∀ y, y ∈ pre ++ [(f, k)] → y.2 < k + 1)) := by
          refine ⟨by rw [← hx.out.1, Tx.bnd_hit s f k hks h10]; simp, fun y hy => ?_⟩
          rcases List.mem_append.1 hy with hy | hy
          · have := hx.out.2 y hy; omega
          · simp at hy; subst hy; simp
        have hpl : (pre ++ [(f, k)]).length ≤ s.size + 1 := by
          have := congrArg List.length HX.out.1
          rw [List.length_append] at this
          omega
        simp only [List.length_append, List.length_cons, List.length_nil] at hpl
        clear hx h10
        go_wp2
        go_round
        case rel => exact ⟨k + 1, k + 1, pre ++ [(f, k)], by go_num, by go_num, val_int (by simp), by omega, by omega, HX, by simp; omega⟩
        case measure => simp [intOf]; omega
      · have e10 : ((s[k].toNat : Int) == 10) = false := by rw [byte10, decide_eq_false h10]
        have HX : Hid (pre ++ Tx.bnd f (k + 1) (s.data.toList.drop (k + 1)) = Tx.lines s ∧ (∀ y, y ∈ pre → y.2 < k + 1)) :=
          ⟨by rw [← hx.out.1, Tx.bnd_miss s f k hks h10], fun y hy => by have := hx.out.2 y hy; omega⟩
        clear hx h10
        go_wp2
        go_round
        case rel => exact ⟨k + 1, f, pre, by go_num, rfl, rfl, by omega, by omega, HX, hp⟩
        case measure => simp [intOf]; omega
    · obtain rfl : k = n := by omega
      have HW : Hid (Tx.wl s k = pre.length ∧ Tx.wf s k = f) := Tx.where_of hx.out.1 hx.out.2
      clear hx
      go_wp2
      go_ret2
      rw [HN.out, HW.out.1, HW.out.2]
      exact ⟨rfl, rfl⟩

set_option maxHeartbeats 1000000 in
theorem texts_any (F : Nat → ByteArray) (n g1 c1 g2 c2 : Nat) (hn : n ≤ 8388608) (w : World) (h1 : Hid (∀ j, j < n → w.cell? ⟨g1, j, none⟩ = some (.string (F j)))) (h2 : Hid (∀ j, j < n → w.cell? ⟨g2, j, none⟩ = some (.string (F j)))) :
    Calls Try.prog 10 #[.slice (some ⟨g1, 0, none⟩) n c1, .slice (some ⟨g2, 0, none⟩) n c2] w fun e w' => e = .returned (.bool true) ∧ Below w.heap.size w w' := by
  go_enter Try.func10, Try.ntmps10
  go_wp2
  go_loopw [5] (fun iv wr => ∃ k : Nat, k ≤ n ∧ iv = .int .i64 k ∧ ∃ m, wr = w.drewN m) (fun iv _ => n - (intOf iv).toNat)
  case atStart => exact ⟨0, Nat.zero_le _, rfl, 0, rfl⟩
  case round =>
    obtain ⟨k, hk, rfl, m, rfl⟩ := hrel
    by_cases hlt : k < n
    · have k1 := h1.out k hlt
      have k2 := h2.out k hlt
      go_wp2
      go_quiet (fail)
      go_wp2
      go_roundw
      case rel => exact ⟨k + 1, by omega, by go_num, _, rfl⟩
      case measure => simp [intOf]; omega
    · go_wp2
      go_ret
      exact ⟨rfl, bdN (Below.refl _ _) m⟩
end Go.Proofs.Ytmcjcgodapkkpaa
