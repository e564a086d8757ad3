/- The document's Decimal and gen: the walks. -/
import Derived.Test.YtgnmgooljcgfiaaDoorTpDw
namespace Go.Proofs.YtgnmgooljcgfiaaDoor
open Go.RowKit
set_option linter.unusedVariables false
set_option linter.unusedSimpArgs false

def DecOf (n : Int) : Prop := ∀ w : World, Calls Tryd.prog 31 #[.int .i64 n] w fun e w' => e = .returned (.string ⟨(Lib.itoa n).toArray⟩) ∧ Below w.heap.size w w'
theorem wrap64_i (x : Int) : IntKind.i64.wrap x = wrap64 x := by rw [IntKind.wrap_i64]; unfold wrap64; omega
theorem tdiv_wrap {n : Int} (hn : R64 n) : wrap64 (n.tdiv 10) = n.tdiv 10 ∧ R64 (n.tdiv 10) ∧ (n.tdiv 10 ≠ 0 → (n.tdiv 10).natAbs < n.natAbs) := by
  obtain ⟨h1, h2⟩ := hn
  have e : n.tdiv 10 = (if n < 0 then -((n.natAbs / 10 : Nat) : Int) else ((n.natAbs / 10 : Nat) : Int)) := by
    split
    · obtain ⟨m, rfl⟩ : ∃ m : Nat, n = -(m : Int) := ⟨n.natAbs, by omega⟩
      rw [Int.neg_tdiv, Int.natAbs_neg, Int.natAbs_natCast]
      rfl
    · obtain ⟨m, rfl⟩ : ∃ m : Nat, n = (m : Int) := ⟨n.natAbs, by omega⟩
      rw [Int.natAbs_natCast]
      rfl
  rw [e]
  unfold R64 wrap64
  split
  · omega
  · omega
theorem itoa_pos (n : Int) : Lib.itoa n ≠ [] := by
  by_cases h : n.tdiv 10 = 0
  · rw [itoa_less h]; simp
  · rw [itoa_more h]; simp

set_option maxHeartbeats 1000000 in
set_option maxRecDepth 100000 in
theorem decimal_pos1 (n : Int) (h0 : ¬ n < 0) (hq : n.tdiv 10 = 0) : DecOf n := by
  intro w
  have HH : Hid (Lib.itoa n = [] ++ [lastDigit n]) := by have := itoa_less hq; rw [if_neg h0] at this; exact this
  have hx : Hid (wrap64 (48 + n.tmod 10) % 256 = ((lastDigit n).toNat : Int)) := digit_pos h0
  generalize lastDigit n = x at HH hx
  obtain ⟨y, hy⟩ : ∃ y : Int, y = wrap64 (48 + n.tmod 10) := ⟨_, rfl⟩
  rw [← hy] at hx
  have hd : decide (n < 0) = false := decide_eq_false h0
  have hw : IntKind.i64.wrap (48 + n.tmod 10) = y := (wrap64_i _).trans hy.symm
  clear hy h0
  have hcv := fun w => conv_one w x _ hx.out
  go_enter Tryd.func31, Tryd.ntmps31
  go_wp2
  go_ret
  exact ⟨by rw [HH.out]; rfl, bl_alloc (Below.refl _ _) _⟩

set_option maxHeartbeats 1000000 in
set_option maxRecDepth 100000 in
theorem decimal_neg1 (n : Int) (h0 : n < 0) (hq : n.tdiv 10 = 0) : DecOf n := by
  intro w
  have HH : Hid (Lib.itoa n = [45] ++ [lastDigit n]) := by have := itoa_less hq; rw [if_pos h0] at this; exact this
  have hx : Hid (wrap64 (48 + wrap64 (-n.tmod 10)) % 256 = ((lastDigit n).toNat : Int)) := digit_neg h0
  generalize lastDigit n = x at HH hx
  obtain ⟨z, hz⟩ : ∃ z : Int, z = wrap64 (-n.tmod 10) := ⟨_, rfl⟩
  rw [← hz] at hx
  obtain ⟨y, hy⟩ : ∃ y : Int, y = wrap64 (48 + z) := ⟨_, rfl⟩
  rw [← hy] at hx
  have hd : decide (n < 0) = true := decide_eq_true h0
  have hw1 : IntKind.i64.wrap (-n.tmod 10) = z := (wrap64_i _).trans hz.symm
  have hw : IntKind.i64.wrap (48 + z) = y := (wrap64_i _).trans hy.symm
  clear hy h0 hz
  have hcv := fun w => conv_one w x _ hx.out
  go_enter Tryd.func31, Tryd.ntmps31
  go_wp2
  go_ret
  exact ⟨by rw [HH.out]; rfl, bl_alloc (Below.refl _ _) _⟩

set_option maxHeartbeats 1000000 in
set_option maxRecDepth 100000 in
theorem decimal_pos2 (n : Int) (hn : R64 n) (h0 : ¬ n < 0) (hq : ¬ n.tdiv 10 = 0) (ih : DecOf (n.tdiv 10)) : DecOf n := by
  intro w
  have HH : Hid (Lib.itoa n = Lib.itoa (n.tdiv 10) ++ [lastDigit n]) := itoa_more hq
  have hx : Hid (wrap64 (48 + n.tmod 10) % 256 = ((lastDigit n).toNat : Int)) := digit_pos h0
  generalize lastDigit n = x at HH hx
  obtain ⟨y, hy⟩ : ∃ y : Int, y = wrap64 (48 + n.tmod 10) := ⟨_, rfl⟩
  rw [← hy] at hx
  have hd : decide (n < 0) = false := decide_eq_false h0
  have hw : IntKind.i64.wrap (48 + n.tmod 10) = y := (wrap64_i _).trans hy.symm
  clear hy h0
  obtain ⟨t1, t2, -⟩ := tdiv_wrap hn
  have hl : ¬ 9223372036854775807 < (Lib.itoa (n.tdiv 10)).length + 1 := by have := Tp.itoa_len t2; omega
  have HI : Hid (∀ w : World, Calls Tryd.prog 31 #[.int .i64 (n.tdiv 10)] w fun e w' => e = .returned (.string ⟨(Lib.itoa (n.tdiv 10)).toArray⟩) ∧ Below w.heap.size w w') := ih
  clear ih hn
  generalize Lib.itoa (n.tdiv 10) = d at HI HH hl
  have hq2 : (n.tdiv 10 != 0) = true := by simpa using hq
  obtain ⟨q, hqe⟩ : ∃ q : Int, n.tdiv 10 = q := ⟨_, rfl⟩
  have hwq : wrap64 (n.tdiv 10) = q := t1.trans hqe
  rw [hqe] at HI hq2
  clear hqe t1
  have hcv := fun w => conv_one w x _ hx.out
  clear hq t2
  go_enter Tryd.func31, Tryd.ntmps31
  go_wp2_with (go_at_call 31; refine (HI.out _).mono ?_; rintro e w2 ⟨rfl, hb2⟩)
  go_ret
  exact ⟨by rw [HH.out, ← ByteArray.mk_append_mk]; rfl, bl_alloc hb2 _⟩

set_option maxHeartbeats 1000000 in
set_option maxRecDepth 100000 in
theorem decimal_neg2 (n : Int) (hn : R64 n) (h0 : n < 0) (hq : ¬ n.tdiv 10 = 0) (ih : DecOf (n.tdiv 10)) : DecOf n := by
  intro w
  have HH : Hid (Lib.itoa n = Lib.itoa (n.tdiv 10) ++ [lastDigit n]) := itoa_more hq
  have hx : Hid (wrap64 (48 + wrap64 (-n.tmod 10)) % 256 = ((lastDigit n).toNat : Int)) := digit_neg h0
  generalize lastDigit n = x at HH hx
  obtain ⟨z, hz⟩ : ∃ z : Int, z = wrap64 (-n.tmod 10) := ⟨_, rfl⟩
  rw [← hz] at hx
  obtain ⟨y, hy⟩ : ∃ y : Int, y = wrap64 (48 + z) := ⟨_, rfl⟩
  rw [← hy] at hx
  have hd : decide (n < 0) = true := decide_eq_true h0
  have hw1 : IntKind.i64.wrap (-n.tmod 10) = z := (wrap64_i _).trans hz.symm
  have hw : IntKind.i64.wrap (48 + z) = y := (wrap64_i _).trans hy.symm
  clear hy h0 hz
  obtain ⟨t1, t2, -⟩ := tdiv_wrap hn
  have hl : ¬ 9223372036854775807 < (Lib.itoa (n.tdiv 10)).length + 1 := by have := Tp.itoa_len t2; omega
  have hp : (Lib.itoa (n.tdiv 10)).isEmpty = false := by have := itoa_pos (n.tdiv 10); simpa using this
  have HI : Hid (∀ w : World, Calls Tryd.prog 31 #[.int .i64 (n.tdiv 10)] w fun e w' => e = .returned (.string ⟨(Lib.itoa (n.tdiv 10)).toArray⟩) ∧ Below w.heap.size w w') := ih
  clear ih hn
  generalize Lib.itoa (n.tdiv 10) = d at HI HH hl hp
  have hq2 : (n.tdiv 10 != 0) = true := by simpa using hq
  obtain ⟨q, hqe⟩ : ∃ q : Int, n.tdiv 10 = q := ⟨_, rfl⟩
  have hwq : wrap64 (n.tdiv 10) = q := t1.trans hqe
  rw [hqe] at HI hq2
  clear hqe t1
  have hcv := fun w => conv_one w x _ hx.out
  clear hq t2
  go_enter Tryd.func31, Tryd.ntmps31
  go_wp2_with (go_at_call 31; refine (HI.out _).mono ?_; rintro e w2 ⟨rfl, hb2⟩)
  go_ret
  exact ⟨by rw [HH.out, ← ByteArray.mk_append_mk]; rfl, bl_alloc hb2 _⟩
theorem refDecimal_any (k : Nat) : ∀ n : Int, n.natAbs ≤ k → R64 n → DecOf n := by
  induction k with
  | zero => 
    intro n hk hn
    obtain rfl : n = 0 := by omega
    exact decimal_pos1 0 (by decide) (by decide)
  | succ k ih =>
    intro n hk hn
    obtain ⟨-, t2, t3⟩ := tdiv_wrap hn
    by_cases hq : n.tdiv 10 = 0
    · by_cases h0 : n < 0
      · exact decimal_neg1 n h0 hq
      · exact decimal_pos1 n h0 hq
    · have hi := ih (n.tdiv 10) (by have := t3 hq; omega) t2
      by_cases h0 : n < 0
      · exact decimal_neg2 n hn h0 hq hi
      · exact decimal_pos2 n hn h0 hq hi
theorem refDecimal (n : Int) (hn : R64 n) : DecOf n := refDecimal_any _ n (Nat.le_refl _) hn

set_option maxHeartbeats 1000000 in
set_option maxRecDepth 100000 in
theorem refGen_any (n : Int) (hn : R64 n) (w : World) : Calls Tryd.prog 32 #[.int .i64 n] w fun e w' => e = .returned (.string ⟨(Tp.gen n).toArray⟩) ∧ Below w.heap.size w w' := by
  by_cases h0 : n < 0
  · have HH : Hid (Tp.gen n = [39, 63]) := by show _ = _; unfold Tp.gen; rw [if_pos h0]
    have hd : decide (n < 0) = true := decide_eq_true h0
    clear h0 hn
    go_enter Tryd.func32, Tryd.ntmps32
    go_wp2
    go_ret
    exact ⟨by rw [HH.out]; rfl, Below.refl _ _⟩
  · obtain ⟨m, rfl⟩ : ∃ m : Nat, n = (m : Int) := ⟨n.toNat, by omega⟩
    have hx : Hid (((97 + m % 26 : Nat) : Int) % 256 = ((UInt8.ofNat (97 + m % 26)).toNat : Int)) := by show _ = _; rw [UInt8.toNat_ofNat']; omega
    have hd : decide ((m : Int) < 0) = false := decide_eq_false h0
    have hw : IntKind.i64.wrap (97 + (m : Int).tmod 26) = ((97 + m % 26 : Nat) : Int) := by rw [IntKind.wrap_i64, show (m : Int).tmod 26 = ((m % 26 : Nat) : Int) from rfl]; omega
    by_cases h26 : m < 26
    · have HH : Hid (Tp.gen (m : Int) = [39] ++ [UInt8.ofNat (97 + m % 26)]) := by show _ = _; unfold Tp.gen; rw [if_neg h0, if_neg (by omega)]; simp
      have hg : decide ((m : Int) ≥ 26) = false := decide_eq_false (by omega)
      have hg2 : ¬ ((m : Int) ≥ 26) := by omega
      generalize UInt8.ofNat (97 + m % 26) = x at HH hx
      generalize ((97 + m % 26 : Nat) : Int) = y at hx hw
      have hcv := fun w => conv_one w x _ hx.out
      generalize (m : Int) = n at HH hd hw hg hg2
      clear h26 hn h0
      go_enter Tryd.func32, Tryd.ntmps32
      go_wp2
      go_ret
      exact ⟨by rw [HH.out]; rfl, bl_alloc (Below.refl _ _) _⟩
    · have HH : Hid (Tp.gen (m : Int) = [39] ++ [UInt8.ofNat (97 + m % 26)] ++ Lib.itoa ((m / 26 : Nat) : Int)) := by show _ = _; unfold Tp.gen; rw [if_neg h0, if_pos (by omega)]; rfl
      have hg : decide ((m : Int) ≥ 26) = true := decide_eq_true (by omega)
      have hr : R64 ((m / 26 : Nat) : Int) := by unfold R64 at hn ⊢; omega
      have hl : ¬ 9223372036854775807 < 2 + (Lib.itoa ((m / 26 : Nat) : Int)).length := by have := Tp.itoa_len hr; omega
      have HI : Hid (∀ w : World, Calls Tryd.prog 31 #[.int .i64 ((m / 26 : Nat) : Int)] w fun e w' => e = .returned (.string ⟨(Lib.itoa ((m / 26 : Nat) : Int)).toArray⟩) ∧ Below w.heap.size w w') := refDecimal ((m / 26 : Nat) : Int) hr
      have hwq : wrap64 ((m : Int).tdiv 26) = ((m / 26 : Nat) : Int) := by rw [show (m : Int).tdiv 26 = ((m / 26 : Nat) : Int) from rfl]; unfold R64 at hr; unfold wrap64; omega
      generalize Lib.itoa ((m / 26 : Nat) : Int) = d at HH HI hl
      generalize UInt8.ofNat (97 + m % 26) = x at HH hx
      generalize ((97 + m % 26 : Nat) : Int) = y at hx hw
      generalize ((m / 26 : Nat) : Int) = q at hwq HI
      have hcv := fun w => conv_one w x _ hx.out
      clear h26 hn h0 hr
      generalize (m : Int) = n at HH hd hw hg hwq
      go_enter Tryd.func32, Tryd.ntmps32
      go_wp2_with (go_at_call 31; refine (HI.out _).mono ?_; rintro e w2 ⟨rfl, hb2⟩)
      go_ret
      exact ⟨by rw [HH.out, ← ByteArray.mk_append_mk]; rfl, bl_tr (bl_alloc (Below.refl _ _) _) hb2⟩
end Go.Proofs.YtgnmgooljcgfiaaDoor
