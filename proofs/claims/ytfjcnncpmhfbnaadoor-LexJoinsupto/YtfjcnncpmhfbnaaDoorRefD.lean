/- What the document's next comes to: the token that begins at a place. -/
import Derived.Test.YtfjcnncpmhfbnaaDoorRefC
import Derived.Test.YtfjcnncpmhfbnaaDoorRefRes
namespace Go.Proofs.YtfjcnncpmhfbnaaDoor
open Go.RowKit
set_option linter.unusedVariables false

/-- What the document's next hands back. -/
def NextAns (R : Lx.Next) (T : ByteArray) (p : Nat) (e : Ending) : Prop := match R with
  | .bad c => ∃ (k : Int) (t : ByteArray) (n a : Int), e = .returned (.tuple #[.agg #[.int .i64 k, .string t, .int .i64 n, .int .i64 a], .int .i64 c])
  | .good k n => e = .returned (.tuple #[.agg #[.int .i64 (k : Int), .string T, .int .i64 (n : Int), .int .i64 (p : Int)], .int .i64 0])
theorem NextAns.bad {R : Lx.Next} {T : ByteArray} {p : Nat} {c : Int} (h : R = .bad c) (k : Int) (t : ByteArray) (n a : Int) : NextAns R T p (.returned (.tuple #[.agg #[.int .i64 k, .string t, .int .i64 n, .int .i64 a], .int .i64 c])) := by rw [h]; exact ⟨k, t, n, a, rfl⟩
theorem NextAns.good {R : Lx.Next} {T : ByteArray} {p : Nat} {k n : Nat} (h : R = .good k n) : NextAns R T p (.returned (.tuple #[.agg #[.int .i64 (k : Int), .string T, .int .i64 (n : Int), .int .i64 (p : Int)], .int .i64 0])) := by rw [h]; rfl
theorem Lx.words_low {l : List UInt8} (h : Nm.words.contains l = true) : (l.head?.any fun b => Nm.low (b.toNat : Int)) = true := by
  have key : ∀ x, x ∈ Nm.words → (x.head?.any fun b => Nm.low (b.toNat : Int)) = true := by decide
  exact key l (List.contains_iff_mem.1 h)

set_option maxHeartbeats 2000000 in
theorem rfNext_low (s : ByteArray) (p : Nat) (hp : p < s.size) (hs : s.size ≤ 4096) (hl : Nm.low (Lx.b s p) = true) (w : World) :
    Calls Tryd.prog 21 #[.string s, .int .i64 p] w fun e w' => NextAns (Lx.next (s.data.toList.drop p)) ⟨(Lx.text (s.data.toList.drop p)).toArray⟩ p e ∧ Below w.heap.size w w' := by
  have hB : Lx.begin (s.data.toList.drop p) = (1, 1) := by rw [Lx.begin_at s p hp]; unfold Lx.beginI; rw [if_pos hl]
  have hh : Nm.high (Lx.b s p) = false := by unfold Nm.low at hl; unfold Nm.high; simp at hl ⊢; omega
  have hrun := rfRun_wide s p hs (by omega)
  have hb := Lx.b_lt hp
  obtain ⟨j, hj⟩ : ∃ j, Lx.runN s 1 (p + 1) = j := ⟨_, rfl⟩
  rw [Lx.runN_on (K := 1) hp (by rw [Lx.goes_1, hb, hl]; rfl), hj] at hrun
  obtain ⟨hj1, hj2⟩ := (Lx.text_run s p hB hj).resolve_right (by omega)
  have hT := Lx.text_cut s p (by omega) hB hj
  have hlen : (Lx.text (s.data.toList.drop p)).length = j - p := by rw [hT, List.length_take, List.length_drop, Nm.len]; omega
  have hTb : (⟨(Lx.text (s.data.toList.drop p)).toArray⟩ : ByteArray) = s.extract p j := by rw [hT, Lx.cut_bytes]
  rw [hTb]
  have hne : ((j : Int) == (p : Int)) = false := by rw [beq_eq_false_iff_ne]; omega
  have hk1 : (Lx.begin (s.data.toList.drop p)).1 = 1 := by rw [hB]
  have hsz : (s.extract p j).size = j - p := by rw [ByteArray.size_extract]; omega
  have hres : Nm.reserved (s.extract p j) = Nm.words.contains (Lx.text (s.data.toList.drop p)) := by rw [← hTb]; rfl
  have hlong : 32 < j - p → Lx.next (s.data.toList.drop p) = .bad 12 := fun h => Lx.next_long hk1 (.inl rfl) (by omega)
  have hword := fun h => Lx.next_word hk1 (show ¬ 32 < (Lx.text (s.data.toList.drop p)).length from h) rfl
  rw [hlen] at hword
  clear hTb hT hlen hB hk1 hj
  cases hw : Nm.words.contains (Lx.text (s.data.toList.drop p)) with
  | true =>
    rw [hw] at hres hword
    clear hw
    by_cases h32 : 32 < j - p
    · have HN : Hid (Lx.next (s.data.toList.drop p) = .bad 12) := hlong h32
      clear hlong hword
      go_enter Tryd.func21, Tryd.ntmps21
      go_wp2_with (first | (go_at_call 35; refine (rfLow_any _ _).mono ?_; rintro e w1 ⟨rfl, hw1⟩; rw [hw1]; clear hw1 w1) | (go_at_call 36; refine (rfHigh_any _ _).mono ?_; rintro e w1 ⟨rfl, hw1⟩; rw [hw1]; clear hw1 w1) | (go_at_call 37; refine (hrun _).mono ?_; rintro e w1 ⟨rfl, hw1⟩; rw [hw1]; clear hw1 w1) | (go_at_call 38; refine (refReserved_new _ _).mono ?_; rw [hres]; rintro e w2 ⟨rfl, o, hw2⟩; rw [hw2]; clear hw2 w2))
      refine bodyPost_ret (v := .tuple #[.agg #[.int .i64 3, .string (s.extract p j), .int .i64 0, .int .i64 (p : Int)], .int .i64 12]) (by rw [results_cell_tmp rfl]; simp [go_sem]) rfl ⟨NextAns.bad HN.out _ _ _ _, lxBa (lxBa (lxBa (Below.refl _ _) _) _) _⟩
    · have HN : Hid (Lx.next (s.data.toList.drop p) = .good 3 0) := hword h32
      clear hlong hword
      go_enter Tryd.func21, Tryd.ntmps21
      go_wp2_with (first | (go_at_call 35; refine (rfLow_any _ _).mono ?_; rintro e w1 ⟨rfl, hw1⟩; rw [hw1]; clear hw1 w1) | (go_at_call 36; refine (rfHigh_any _ _).mono ?_; rintro e w1 ⟨rfl, hw1⟩; rw [hw1]; clear hw1 w1) | (go_at_call 37; refine (hrun _).mono ?_; rintro e w1 ⟨rfl, hw1⟩; rw [hw1]; clear hw1 w1) | (go_at_call 38; refine (refReserved_new _ _).mono ?_; rw [hres]; rintro e w2 ⟨rfl, o, hw2⟩; rw [hw2]; clear hw2 w2))
      refine bodyPost_ret (v := .tuple #[.agg #[.int .i64 3, .string (s.extract p j), .int .i64 0, .int .i64 (p : Int)], .int .i64 0]) (by rw [results_cell_tmp rfl]; simp [go_sem]) rfl ⟨by first | exact NextAns.good HN.out | (rw [HN.out]; rfl), lxBa (lxBa (lxBa (Below.refl _ _) _) _) _⟩
  | false =>
    rw [hw] at hres hword
    clear hw
    by_cases h32 : 32 < j - p
    · have HN : Hid (Lx.next (s.data.toList.drop p) = .bad 12) := hlong h32
      clear hlong hword
      go_enter Tryd.func21, Tryd.ntmps21
      go_wp2_with (first | (go_at_call 35; refine (rfLow_any _ _).mono ?_; rintro e w1 ⟨rfl, hw1⟩; rw [hw1]; clear hw1 w1) | (go_at_call 36; refine (rfHigh_any _ _).mono ?_; rintro e w1 ⟨rfl, hw1⟩; rw [hw1]; clear hw1 w1) | (go_at_call 37; refine (hrun _).mono ?_; rintro e w1 ⟨rfl, hw1⟩; rw [hw1]; clear hw1 w1) | (go_at_call 38; refine (refReserved_new _ _).mono ?_; rw [hres]; rintro e w2 ⟨rfl, o, hw2⟩; rw [hw2]; clear hw2 w2))
      refine bodyPost_ret (v := .tuple #[.agg #[.int .i64 1, .string (s.extract p j), .int .i64 0, .int .i64 (p : Int)], .int .i64 12]) (by rw [results_cell_tmp rfl]; simp [go_sem]) rfl ⟨NextAns.bad HN.out _ _ _ _, lxBa (lxBa (lxBa (Below.refl _ _) _) _) _⟩
    · have HN : Hid (Lx.next (s.data.toList.drop p) = .good 1 0) := hword h32
      clear hlong hword
      go_enter Tryd.func21, Tryd.ntmps21
      go_wp2_with (first | (go_at_call 35; refine (rfLow_any _ _).mono ?_; rintro e w1 ⟨rfl, hw1⟩; rw [hw1]; clear hw1 w1) | (go_at_call 36; refine (rfHigh_any _ _).mono ?_; rintro e w1 ⟨rfl, hw1⟩; rw [hw1]; clear hw1 w1) | (go_at_call 37; refine (hrun _).mono ?_; rintro e w1 ⟨rfl, hw1⟩; rw [hw1]; clear hw1 w1) | (go_at_call 38; refine (refReserved_new _ _).mono ?_; rw [hres]; rintro e w2 ⟨rfl, o, hw2⟩; rw [hw2]; clear hw2 w2))
      refine bodyPost_ret (v := .tuple #[.agg #[.int .i64 1, .string (s.extract p j), .int .i64 0, .int .i64 (p : Int)], .int .i64 0]) (by rw [results_cell_tmp rfl]; simp [go_sem]) rfl ⟨by first | exact NextAns.good HN.out | (rw [HN.out]; rfl), lxBa (lxBa (lxBa (Below.refl _ _) _) _) _⟩

set_option maxHeartbeats 2000000 in
theorem rfNext_high (s : ByteArray) (p : Nat) (hp : p < s.size) (hs : s.size ≤ 4096) (hl : Nm.low (Lx.b s p) = false) (hh : Nm.high (Lx.b s p) = true) (w : World) :
    Calls Tryd.prog 21 #[.string s, .int .i64 p] w fun e w' => NextAns (Lx.next (s.data.toList.drop p)) ⟨(Lx.text (s.data.toList.drop p)).toArray⟩ p e ∧ Below w.heap.size w w' := by
  have hB : Lx.begin (s.data.toList.drop p) = (2, 1) := by rw [Lx.begin_at s p hp]; unfold Lx.beginI; rw [if_neg (by rw [hl]; simp), if_pos hh]
  have hrun := rfRun_wide s p hs (by omega)
  have hb := Lx.b_lt hp
  obtain ⟨j, hj⟩ : ∃ j, Lx.runN s 2 (p + 1) = j := ⟨_, rfl⟩
  rw [Lx.runN_on (K := 1) hp (by rw [Lx.goes_1, hb, hh]; simp), show Lx.runN s 1 (p + 1) = j from hj] at hrun
  obtain ⟨hj1, hj2⟩ := (Lx.text_run s p hB hj).resolve_right (by omega)
  have hT := Lx.text_cut s p (by omega) hB hj
  have hlen : (Lx.text (s.data.toList.drop p)).length = j - p := by rw [hT, List.length_take, List.length_drop, Nm.len]; omega
  have hTb : (⟨(Lx.text (s.data.toList.drop p)).toArray⟩ : ByteArray) = s.extract p j := by rw [hT, Lx.cut_bytes]
  rw [hTb]
  have hne : ((j : Int) == (p : Int)) = false := by rw [beq_eq_false_iff_ne]; omega
  have hk1 : (Lx.begin (s.data.toList.drop p)).1 = 2 := by rw [hB]
  have hsz : (s.extract p j).size = j - p := by rw [ByteArray.size_extract]; omega
  have hres : Nm.reserved (s.extract p j) = false := by
    cases hc : Nm.reserved (s.extract p j) with
    | false => rfl
    | true =>
      have h1 : Nm.words.contains (Lx.text (s.data.toList.drop p)) = true := by rw [← hTb] at hc; exact hc
      have h2 := Lx.words_low h1
      rw [hT, Nm.drop_cons s p hp, show j - p = (j - p - 1) + 1 by omega, List.take_succ_cons] at h2
      have h3 : Nm.low (s[p].toNat : Int) = true := h2
      rw [hb, hl] at h3; cases h3
  have hlong : 32 < j - p → Lx.next (s.data.toList.drop p) = .bad 12 := fun h => Lx.next_long hk1 (.inr (.inl rfl)) (by omega)
  have hword : ¬ 32 < j - p → Lx.next (s.data.toList.drop p) = .good 2 0 := fun h => Lx.next_id hk1 (.inl rfl) (by omega)
  clear hTb hT hlen hB hk1 hj
  by_cases h32 : 32 < j - p
  · have HN : Hid (Lx.next (s.data.toList.drop p) = .bad 12) := hlong h32
    clear hlong hword
    go_enter Tryd.func21, Tryd.ntmps21
    go_wp2_with (first | (go_at_call 35; refine (rfLow_any _ _).mono ?_; rintro e w1 ⟨rfl, hw1⟩; rw [hw1]; clear hw1 w1) | (go_at_call 36; refine (rfHigh_any _ _).mono ?_; rintro e w1 ⟨rfl, hw1⟩; rw [hw1]; clear hw1 w1) | (go_at_call 37; refine (hrun _).mono ?_; rintro e w1 ⟨rfl, hw1⟩; rw [hw1]; clear hw1 w1) | (go_at_call 38; refine (refReserved_new _ _).mono ?_; rw [hres]; rintro e w2 ⟨rfl, o, hw2⟩; rw [hw2]; clear hw2 w2))
    refine bodyPost_ret (v := .tuple #[.agg #[.int .i64 2, .string (s.extract p j), .int .i64 0, .int .i64 (p : Int)], .int .i64 12]) (by rw [results_cell_tmp rfl]; simp [go_sem]) rfl ⟨NextAns.bad HN.out _ _ _ _, lxBa (lxBa (lxBa (Below.refl _ _) _) _) _⟩
  · have HN : Hid (Lx.next (s.data.toList.drop p) = .good 2 0) := hword h32
    clear hlong hword
    go_enter Tryd.func21, Tryd.ntmps21
    go_wp2_with (first | (go_at_call 35; refine (rfLow_any _ _).mono ?_; rintro e w1 ⟨rfl, hw1⟩; rw [hw1]; clear hw1 w1) | (go_at_call 36; refine (rfHigh_any _ _).mono ?_; rintro e w1 ⟨rfl, hw1⟩; rw [hw1]; clear hw1 w1) | (go_at_call 37; refine (hrun _).mono ?_; rintro e w1 ⟨rfl, hw1⟩; rw [hw1]; clear hw1 w1) | (go_at_call 38; refine (refReserved_new _ _).mono ?_; rw [hres]; rintro e w2 ⟨rfl, o, hw2⟩; rw [hw2]; clear hw2 w2))
    refine bodyPost_ret (v := .tuple #[.agg #[.int .i64 2, .string (s.extract p j), .int .i64 0, .int .i64 (p : Int)], .int .i64 0]) (by rw [results_cell_tmp rfl]; simp [go_sem]) rfl ⟨by first | exact NextAns.good HN.out | (rw [HN.out]; rfl), lxBa (lxBa (lxBa (Below.refl _ _) _) _) _⟩

set_option maxHeartbeats 2000000 in
theorem rfNext_var (s : ByteArray) (p : Nat) (hp : p + 1 < s.size) (hs : s.size ≤ 4096) (hq : Lx.b s p = 39) (hl1 : Nm.low (Lx.b s (p + 1)) = true) (w : World) :
    Calls Tryd.prog 21 #[.string s, .int .i64 p] w fun e w' => NextAns (Lx.next (s.data.toList.drop p)) ⟨(Lx.text (s.data.toList.drop p)).toArray⟩ p e ∧ Below w.heap.size w w' := by
  have hp0 : p < s.size := by omega
  have hl : Nm.low (Lx.b s p) = false := by rw [hq]; decide
  have hh : Nm.high (Lx.b s p) = false := by rw [hq]; decide
  have hdg : Nm.dig (Lx.b s p) = false := by rw [hq]; decide
  have hB : Lx.begin (s.data.toList.drop p) = (5, 2) := by rw [Lx.begin_at s p hp0]; unfold Lx.beginI; rw [if_neg (by rw [hl]; simp), if_neg (by rw [hh]; simp), if_neg (by rw [hdg]; simp), if_pos ⟨hq, hl1⟩]
  have hb1 := Lx.b_lt hp
  have hrun := rfRun_slim s (p + 1) hs (by omega)
  have hb := Lx.b_lt hp0
  obtain ⟨j, hj⟩ : ∃ j, Lx.runN s 5 (p + 2) = j := ⟨_, rfl⟩
  rw [Lx.runN_on (K := 5) hp (by rw [Lx.goes_5, hb1, hl1]; rfl), hj] at hrun
  obtain ⟨hj1, hj2⟩ := (Lx.text_run s p hB hj).resolve_right (by omega)
  have hT := Lx.text_cut s p (by omega) hB hj
  have hlen : (Lx.text (s.data.toList.drop p)).length = j - p := by rw [hT, List.length_take, List.length_drop, Nm.len]; omega
  have hTb : (⟨(Lx.text (s.data.toList.drop p)).toArray⟩ : ByteArray) = s.extract p j := by rw [hT, Lx.cut_bytes]
  rw [hTb]
  have hne : ((j : Int) == (p : Int)) = false := by rw [beq_eq_false_iff_ne]; omega
  have hk1 : (Lx.begin (s.data.toList.drop p)).1 = 5 := by rw [hB]
  have hsz : (s.extract p j).size = j - p := by rw [ByteArray.size_extract]; omega
  have hcast : ((p + 1 : Nat) : Int) = (p : Int) + 1 := by omega
  rw [hcast] at hrun
  have hlong : 32 < j - p → Lx.next (s.data.toList.drop p) = .bad 12 := fun h => Lx.next_long hk1 (.inr (.inr rfl)) (by omega)
  have hword : ¬ 32 < j - p → Lx.next (s.data.toList.drop p) = .good 5 0 := fun h => Lx.next_id hk1 (.inr rfl) (by omega)
  clear hTb hT hlen hB hk1 hj hcast hdg
  by_cases h32 : 32 < j - p
  · have HN : Hid (Lx.next (s.data.toList.drop p) = .bad 12) := hlong h32
    clear hlong hword
    go_enter Tryd.func21, Tryd.ntmps21
    go_wp2_with (first | (go_at_call 35; refine (rfLow_any _ _).mono ?_; rintro e w1 ⟨rfl, hw1⟩; rw [hw1]; clear hw1 w1) | (go_at_call 36; refine (rfHigh_any _ _).mono ?_; rintro e w1 ⟨rfl, hw1⟩; rw [hw1]; clear hw1 w1) | (go_at_call 37; refine (hrun _).mono ?_; rintro e w1 ⟨rfl, hw1⟩; rw [hw1]; clear hw1 w1))
    refine bodyPost_ret (v := .tuple #[.agg #[.int .i64 5, .string (s.extract p j), .int .i64 0, .int .i64 (p : Int)], .int .i64 12]) (by rw [results_cell_tmp rfl]; simp [go_sem]) rfl ⟨NextAns.bad HN.out _ _ _ _, lxBa (lxBa (Below.refl _ _) _) _⟩
  · have HN : Hid (Lx.next (s.data.toList.drop p) = .good 5 0) := hword h32
    clear hlong hword
    go_enter Tryd.func21, Tryd.ntmps21
    go_wp2_with (first | (go_at_call 35; refine (rfLow_any _ _).mono ?_; rintro e w1 ⟨rfl, hw1⟩; rw [hw1]; clear hw1 w1) | (go_at_call 36; refine (rfHigh_any _ _).mono ?_; rintro e w1 ⟨rfl, hw1⟩; rw [hw1]; clear hw1 w1) | (go_at_call 37; refine (hrun _).mono ?_; rintro e w1 ⟨rfl, hw1⟩; rw [hw1]; clear hw1 w1))
    refine bodyPost_ret (v := .tuple #[.agg #[.int .i64 5, .string (s.extract p j), .int .i64 0, .int .i64 (p : Int)], .int .i64 0]) (by rw [results_cell_tmp rfl]; simp [go_sem]) rfl ⟨by first | exact NextAns.good HN.out | (rw [HN.out]; rfl), lxBa (lxBa (Below.refl _ _) _) _⟩

set_option maxHeartbeats 2000000 in
theorem rfNext_quote (s : ByteArray) (p : Nat) (hp : p < s.size) (hs : s.size ≤ 4096) (hq : Lx.b s p = 39) (hl1 : Nm.low (Lx.b s (p + 1)) = false) (w : World) :
    Calls Tryd.prog 21 #[.string s, .int .i64 p] w fun e w' => NextAns (Lx.next (s.data.toList.drop p)) ⟨(Lx.text (s.data.toList.drop p)).toArray⟩ p e ∧ Below w.heap.size w w' := by
  have hl : Nm.low (Lx.b s p) = false := by rw [hq]; decide
  have hh : Nm.high (Lx.b s p) = false := by rw [hq]; decide
  have hdg : Nm.dig (Lx.b s p) = false := by rw [hq]; decide
  have hB : Lx.begin (s.data.toList.drop p) = (0, 0) := by rw [Lx.begin_at s p hp]; unfold Lx.beginI; rw [if_neg (by rw [hl]; simp), if_neg (by rw [hh]; simp), if_neg (by rw [hdg]; simp), if_neg (fun h => by rw [hl1] at h; cases h.2), if_pos (by rw [hq]; unfold Lx.markI; simp)]
  have HN : Hid (Lx.next (s.data.toList.drop p) = .bad 10) := by show _ = _; unfold Lx.next; simp only [hB]; rfl
  have hb := Lx.b_lt hp
  generalize (⟨(Lx.text (s.data.toList.drop p)).toArray⟩ : ByteArray) = T
  clear hB hdg
  by_cases hp1 : p + 1 < s.size
  · have hb1 := Lx.b_lt hp1
    go_enter Tryd.func21, Tryd.ntmps21
    go_wp2_with (first | (go_at_call 35; refine (rfLow_any _ _).mono ?_; rintro e w1 ⟨rfl, hw1⟩; rw [hw1]; clear hw1 w1) | (go_at_call 36; refine (rfHigh_any _ _).mono ?_; rintro e w1 ⟨rfl, hw1⟩; rw [hw1]; clear hw1 w1))
    refine bodyPost_ret (v := .tuple #[.agg #[.int .i64 0, .string (⟨#[]⟩), .int .i64 0, .int .i64 (p : Int)], .int .i64 10]) (by rw [results_cell_tmp rfl]; simp [go_sem]) rfl ⟨NextAns.bad HN.out _ _ _ _, lxBa (lxBa (Below.refl _ _) _) _⟩
  · clear hl1
    go_enter Tryd.func21, Tryd.ntmps21
    go_wp2_with (first | (go_at_call 35; refine (rfLow_any _ _).mono ?_; rintro e w1 ⟨rfl, hw1⟩; rw [hw1]; clear hw1 w1) | (go_at_call 36; refine (rfHigh_any _ _).mono ?_; rintro e w1 ⟨rfl, hw1⟩; rw [hw1]; clear hw1 w1))
    refine bodyPost_ret (v := .tuple #[.agg #[.int .i64 0, .string (⟨#[]⟩), .int .i64 0, .int .i64 (p : Int)], .int .i64 10]) (by rw [results_cell_tmp rfl]; simp [go_sem]) rfl ⟨NextAns.bad HN.out _ _ _ _, lxBa (lxBa (Below.refl _ _) _) _⟩
end Go.Proofs.YtfjcnncpmhfbnaaDoor
