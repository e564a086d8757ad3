/- The walk of TextBack: for any text of at most 2097152 bytes it returns true, and nothing that lay has turned. -/
import Derived.Test.YtmcjcgodapkkpaaRefAt
import Derived.Test.YtmcjcgodapkkpaaAlive
import Derived.Test.YtmcjcgodapkkpaaSpansW
import Derived.Test.YtmcjcgodapkkpaaAtW
namespace Go.Proofs.Ytmcjcgodapkkpaa
open Go.RowKit Go.Shelf
set_option linter.unusedVariables false

/-- What is joined when k lines have come: the text up to where line k begins, but for a last byte 10. -/
def Tx.joined (s : ByteArray) (k : Nat) : ByteArray := if k = 0 then ⟨#[]⟩ else s.extract 0 (Tx.le s (k - 1))

theorem Tx.bnd_ten : ∀ (l : List UInt8) (f i k : Nat) (x : Nat × Nat), f ≤ i → (Tx.bnd f i l)[k]? = some x → k + 1 < (Tx.bnd f i l).length → i ≤ x.2 ∧ l[x.2 - i]? = some 10
  | [], f, i, k, x, hf, hx, hk => by rw [Tx.bnd] at hk; simp at hk
  | c :: l, f, i, k, x, hf, hx, hk => by
    rw [Tx.bnd] at hx hk
    split at hx
    · rename_i hc
      rw [if_pos hc] at hk
      cases k with
      | zero => simp at hx; rw [← hx]; simp [hc]
      | succ k =>
        obtain ⟨h1, h2⟩ := Tx.bnd_ten l (i + 1) (i + 1) k x (Nat.le_refl _) (by simpa using hx) (by simpa using hk)
        refine ⟨by omega, ?_⟩
        rw [show x.2 - i = (x.2 - (i + 1)) + 1 from by omega]
        simpa using h2
    · rename_i hc
      rw [if_neg hc] at hk
      obtain ⟨h1, h2⟩ := Tx.bnd_ten l f (i + 1) k x (by omega) hx hk
      refine ⟨by omega, ?_⟩
      rw [show x.2 - i = (x.2 - (i + 1)) + 1 from by omega]
      simpa using h2

theorem Tx.le_last (s : ByteArray) : Tx.le s (Tx.nl s - 1) = s.size := by
  obtain ⟨q, g, e⟩ := Tx.bnd_last s.data.toList 0 0
  have eL : s.data.toList.length = s.size := by rw [Array.length_toList]; rfl
  have e' : Tx.lines s = q ++ [(g, s.size)] := by rw [Tx.lines, e, eL]; simp
  have hn : Tx.nl s - 1 = q.length := by unfold Tx.nl; rw [e']; simp
  unfold Tx.le
  rw [hn, e']
  simp

/-- A line's end is a byte 10, if another line follows. -/
theorem Tx.ten {s : ByteArray} {k : Nat} (h : k + 1 < Tx.nl s) : s.extract (Tx.le s k) (Tx.le s k + 1) = ⟨#[10]⟩ := by
  have h1 := (Tx.bnd_ten s.data.toList 0 0 k _ (Nat.le_refl _) (Tx.get_line (s := s) (k := k) (by omega)) h).2
  simp at h1
  have e : (s.extract (Tx.le s k) (Tx.le s k + 1)).data.toList = [10] := by
    rw [Lib.extract_data, show Tx.le s k + 1 - Tx.le s k = 1 from by omega]
    obtain ⟨h2, h3⟩ := List.getElem?_eq_some_iff.1 (show s.data.toList[Tx.le s k]? = some 10 by simpa using h1)
    rw [List.drop_eq_getElem_cons h2, List.take_succ_cons, h3]
    simp
  rw [show s.extract (Tx.le s k) (Tx.le s k + 1) = ⟨(s.extract (Tx.le s k) (Tx.le s k + 1)).data⟩ from rfl, Array.toList_inj.1 (show (s.extract (Tx.le s k) (Tx.le s k + 1)).data.toList = (#[10] : Array UInt8).toList from e)]

theorem Tx.joined_first {s : ByteArray} : (⟨#[]⟩ : ByteArray) ++ s.extract (Tx.lb s 0) (Tx.le s 0) = Tx.joined s 1 := by
  have : Tx.joined s 1 = s.extract 0 (Tx.le s 0) := rfl
  rw [this, Tx.lb_zero, ← Tx.extract_none s (Nat.le_refl 0), Tx.join s (Nat.le_refl _) (Nat.zero_le _)]

theorem Tx.joined_next {s : ByteArray} {k : Nat} (h0 : ¬ k = 0) (h : k < Tx.nl s) : Tx.joined s k ++ ⟨#[10]⟩ ++ s.extract (Tx.lb s k) (Tx.le s k) = Tx.joined s (k + 1) := by
  obtain ⟨m, rfl⟩ : ∃ m, k = m + 1 := ⟨k - 1, by omega⟩
  have e1 : Tx.joined s (m + 1) = s.extract 0 (Tx.le s m) := rfl
  have e2 : Tx.joined s (m + 1 + 1) = s.extract 0 (Tx.le s (m + 1)) := rfl
  have hb := Tx.lb_le h
  rw [e1, e2, ← Tx.ten h, Tx.join s (Nat.zero_le _) (Nat.le_succ _), Tx.lb_next h, Tx.join s (Nat.zero_le _) (by have := Tx.lb_next h; omega)]

theorem Tx.joined_size {s : ByteArray} {k : Nat} (h : k ≤ Tx.nl s) : (Tx.joined s k).size ≤ s.size := by
  unfold Tx.joined
  split
  · exact Nat.zero_le _
  · have := (Tx.lb_le (s := s) (k := k - 1) (by omega)).2
    simp
    omega

theorem Tx.joined_all (s : ByteArray) : Tx.joined s (Tx.nl s) = s := by
  have h := Tx.nl_pos s
  unfold Tx.joined
  rw [if_neg (by omega), Tx.le_last]
  simp

/-- A place within the text lies in one line. -/
theorem Tx.part : ∀ (l : List (Nat × Nat)) (k : Nat), (∃ y, y ∈ l ∧ k ≤ y.2) → ∃ q x r, l = q ++ x :: r ∧ (∀ y, y ∈ q → y.2 < k) ∧ k ≤ x.2
  | [], k, ⟨y, hy, _⟩ => by cases hy
  | z :: l, k, ⟨y, hy, hk⟩ => by
    by_cases h : k ≤ z.2
    · exact ⟨[], z, l, rfl, by simp, h⟩
    · rcases List.mem_cons.1 hy with rfl | hy
      · exact absurd hk h
      · obtain ⟨q, x, r, e, hq, hx⟩ := Tx.part l k ⟨y, hy, hk⟩
        refine ⟨z :: q, x, r, by rw [e]; rfl, fun u hu => ?_, hx⟩
        rcases List.mem_cons.1 hu with rfl | hu
        · omega
        · exact hq u hu

theorem Tx.lines_part {s : ByteArray} {k : Nat} (hk : k ≤ s.size) : ∃ q x r, Tx.lines s = q ++ x :: r ∧ (∀ y, y ∈ q → y.2 < k) ∧ k ≤ x.2 := by
  refine Tx.part _ _ ⟨(Tx.lb s (Tx.nl s - 1), Tx.le s (Tx.nl s - 1)), List.mem_of_getElem? (Tx.get_line (by have := Tx.nl_pos s; omega)), ?_⟩
  rw [Tx.le_last]
  exact hk

theorem Tx.back {s : ByteArray} {k : Nat} (hk : k ≤ s.size) : Tx.atR s (Tx.wl s k : Nat) ((k : Int) - (Tx.wf s k : Nat)) = ((k : Int), 0) := by
  obtain ⟨q, x, r, e, hq, hx⟩ : ∃ q x r, Tx.lines s = q ++ x :: r ∧ (∀ y, y ∈ q → y.2 < k) ∧ k ≤ x.2 := Tx.lines_part hk
  obtain ⟨h1, h2, h3⟩ := Tx.w_eq e hq hx
  have h4 := Tx.w_bounds e hq hx
  rw [h1, h2, Tx.atR_hit (by omega) (by omega) e rfl, if_pos (by omega), show (x.1 : Int) + ((k : Int) - (x.1 : Int)) = k from by omega]

theorem back_at {s : ByteArray} {k : Nat} (hk : k ≤ s.size) (HB : Hid (Tx.atR s (Tx.wl s k : Nat) ((k : Int) - (Tx.wf s k : Nat)) = ((k : Int), 0))) (hs : s.size ≤ 2097152) (w : World) :
    Calls Try.prog 20 #[.string s, .int .i64 (Tx.wl s k : Nat), .int .i64 ((k : Int) - (Tx.wf s k : Nat))] w fun e W' => e = .returned (.tuple #[.int .i64 (k : Int), .int .i64 0]) ∧ Below w.heap.size w W' := by
  have h := at_any s (Tx.wl s k : Nat) ((k : Int) - (Tx.wf s k : Nat)) hs (by
    obtain ⟨q, x, r, e, hq, hx⟩ := Tx.lines_part hk
    have h1 := Tx.w_eq e hq hx
    have h2 := Tx.w_bounds e hq hx
    omega) (by omega) w
  rw [HB.out] at h
  exact h

set_option maxRecDepth 100000 in
set_option maxHeartbeats 2000000 in
theorem back_walk (s : ByteArray) (i : Int) (hs : s.size ≤ 2097152) (w : World) :
    Calls Try.prog 5 #[.string s, .int .i64 i] w fun e w' => e = .returned (.bool true) ∧ Below w.heap.size w w' := by
  have hn := Tx.nl_le s
  have hatle := Tx.at_le s.size i
  have e0 : Tx.at s.size 0 = 0 := by unfold Tx.at; omega
  have eN : Tx.at s.size (s.size : Int) = s.size := by unfold Tx.at; omega
  have HB : Hid (Tx.atR s (Tx.wl s (Tx.at s.size i) : Nat) ((Tx.at s.size i : Int) - (Tx.wf s (Tx.at s.size i) : Nat)) = ((Tx.at s.size i : Int), 0)) := Tx.back hatle
  have em : ((Tx.at s.size i : Int) == max 0 (min i (s.size : Int))) = true := by rw [beq_iff_eq, Tx.at_eq]; omega
  go_enter Try.func5, Try.ntmps5
  go_wp2_with (go_at_call 11; refine (lines_rd _ hs _).mono ?_; rintro e w1 ⟨v, rfl, g, cap, rfl, hg, hc, hb1⟩; have HC : Hid (∀ j, j < Tx.nl s → w1.cell? ⟨g, j, none⟩ = some (.string (s.extract (Tx.lb s j) (Tx.le s j)))) := hc; clear hc)
  go_loop [5, 7] (fun a iv => ∃ k : Nat, k ≤ Tx.nl s ∧ iv = .int .i64 k ∧ ∃ t : ByteArray, a = .string t ∧ Hid (t = Tx.joined s k)) (fun _ iv => Tx.nl s - (intOf iv).toNat)
  case atStart => exact ⟨0, Nat.zero_le _, rfl, ⟨#[]⟩, rfl, rfl⟩
  case round =>
    obtain ⟨k, hk, rfl, t, rfl, ht⟩ := hrel
    have hts : t.size ≤ s.size := by rw [ht.out]; exact Tx.joined_size hk
    by_cases hlt : k < Tx.nl s
    · have hck := HC.out k hlt
      have hbk := Tx.lb_le hlt
      clear e0 eN em
      by_cases h0 : k = 0
      · subst h0
        have HJ : Hid (t ++ s.extract (Tx.lb s 0) (Tx.le s 0) = Tx.joined s 1) := by show _ = _; rw [ht.out]; exact Tx.joined_first
        clear ht
        go_wp2
        go_round
        case rel => exact ⟨1, by omega, rfl, _, rfl, HJ⟩
        case measure => simp [intOf]; omega
      · have HJ : Hid (t ++ ⟨#[10]⟩ ++ s.extract (Tx.lb s k) (Tx.le s k) = Tx.joined s (k + 1)) := by show _ = _; rw [ht.out]; exact Tx.joined_next h0 hlt
        have h0' : 0 < k := by omega
        clear ht
        go_wp2
        go_round
        case rel => exact ⟨k + 1, by omega, by go_num, _, rfl, HJ⟩
        case measure => simp [intOf]; omega
    · obtain rfl : t = s := by rw [ht.out, show k = Tx.nl s from by omega]; exact Tx.joined_all s
      clear ht
      go_wp2_with (first
        | (go_at_call 8; refine (where_any _ _ hs _).mono ?_; rintro e w2 ⟨rfl, hb2⟩)
        | (go_at_call 20; refine (back_at hatle HB hs _).mono ?_; rintro e w3 ⟨rfl, hb3⟩)
        | (go_at_call 13; refine (span_any _ _ _ _ (by unfold maxLen; omega)).mono ?_; rintro e w' ⟨rfl, rfl⟩)
        | (go_at_call 19; refine (alive_any _).mono ?_; rintro e w4 ⟨rfl, hb4⟩))
      go_ret
      exact ⟨rfl, btr (btr (btr hb1 hb2) hb3) hb4⟩

theorem back_law (s : ByteArray) (i : Int) (_ : s.size ≤ maxLen) (_ : (Lit.int .i64 i).wf = true) (hs : s.size ≤ 1048576) (w : World) :
    Calls Try.prog 5 #[.string s, .int .i64 i] w fun e w' => e = .returned (.bool true) ∧ Below w.heap.size w w' := back_walk s i (by omega) w
end Go.Proofs.Ytmcjcgodapkkpaa
