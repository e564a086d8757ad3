/- What the document's mark comes to; the text of a token by its places. -/
import Derived.Test.YtfjcnncpmhfbnaaDoorRefB
namespace Go.Proofs.YtfjcnncpmhfbnaaDoor
open Go.RowKit
set_option linter.unusedVariables false

def Lx.marks : List Int := [40, 41, 44, 59, 58, 61, 42, 43, 45, 47, 60, 124, 95, 46]
theorem Lx.markI_two {c d : Int} (h : (c = 58 ∨ c = 61 ∨ c = 45) ∧ d = 62) : Lx.markI c d = 2 := by unfold Lx.markI; rw [if_pos h]
theorem Lx.markI_hit {c d : Int} (h : ¬ ((c = 58 ∨ c = 61 ∨ c = 45) ∧ d = 62)) (hm : c ∈ Lx.marks) : Lx.markI c d = 1 := by
  unfold Lx.markI; rw [if_neg h]
  unfold Lx.marks at hm
  simp only [List.mem_cons, List.not_mem_nil, or_false] at hm
  rw [if_pos hm]
theorem Lx.markI_miss {c d : Int} (h : ¬ ((c = 58 ∨ c = 61 ∨ c = 45) ∧ d = 62)) (hm : c ∉ Lx.marks) : Lx.markI c d = 0 := by
  unfold Lx.markI; rw [if_neg h]
  unfold Lx.marks at hm
  simp only [List.mem_cons, List.not_mem_nil, or_false] at hm
  rw [if_neg hm]
theorem Lx.marks_on {c n : Int} {i : Nat} (h : c ∉ Lx.marks.take i) (hn : Lx.marks[i]? = some n) (hc : ¬ c = n) : c ∉ Lx.marks.take (i + 1) := by
  rw [List.take_add_one, hn]
  intro hm
  rcases List.mem_append.1 hm with hm | hm
  · exact h hm
  · have : c = n := by simpa using hm
    exact hc this

set_option maxHeartbeats 4000000 in
theorem rfMarkLoop (s : ByteArray) (k : Nat) (hk : k < s.size) (hs : s.size ≤ 4096) (hno : ¬ ((Lx.b s k = 58 ∨ Lx.b s k = 61 ∨ Lx.b s k = 45) ∧ Lx.b s (k + 1) = 62)) (w : World) :
    Calls Tryd.prog 41 #[.string s, .int .i64 k] w fun e w' => e = .returned (.int .i64 (Lx.markI (Lx.b s k) (Lx.b s (k + 1)))) ∧ Drawn w w' := by
  have t1 := fun w => rfTwo_58_62 s k hs (by omega) w
  have t2 := fun w => rfTwo_61_62 s k hs (by omega) w
  have t3 := fun w => rfTwo_45_62 s k hs (by omega) w
  rw [Lx.two_false (fun h => hno ⟨.inl h.1, h.2⟩)] at t1
  rw [Lx.two_false (fun h => hno ⟨.inr (.inl h.1), h.2⟩)] at t2
  rw [Lx.two_false (fun h => hno ⟨.inr (.inr h.1), h.2⟩)] at t3
  have hb := Lx.b_lt hk
  have HIT : Hid (∀ c, Lx.b s k = c → c ∈ Lx.marks → Lx.markI (Lx.b s k) (Lx.b s (k + 1)) = 1) := fun c e hm => Lx.markI_hit hno (by rw [e]; exact hm)
  have MISS : Hid (Lx.b s k ∉ Lx.marks → Lx.markI (Lx.b s k) (Lx.b s (k + 1)) = 0) := fun hm => Lx.markI_miss hno hm
  generalize hR : Lx.markI (Lx.b s k) (Lx.b s (k + 1)) = R at *
  generalize hc : Lx.b s k = c at *
  clear hno hR
  go_enter Tryd.func41, Tryd.ntmps41
  go_wp2_with (first | (go_at_call 33; have _ := m2; refine (t3 _).mono ?_; rintro e w1 ⟨rfl, hw1⟩; rw [hw1]; clear hw1 w1) | (go_at_call 33; have _ := m1; refine (t2 _).mono ?_; rintro e w1 ⟨rfl, hw1⟩; rw [hw1]; clear hw1 w1; have m2 := True.intro) | (go_at_call 33; refine (t1 _).mono ?_; rintro e w1 ⟨rfl, hw1⟩; rw [hw1]; clear hw1 w1; have m1 := True.intro))
  clear t1 t2 t3
  go_loopw [6] (fun x wr => ∃ i : Nat, x = .int .i64 i ∧ i ≤ 14 ∧ Hid (c ∉ Lx.marks.take i) ∧ Drawn w wr) (fun x _ => 14 - (intOf x).toNat)
  case atStart => exact ⟨0, rfl, Nat.zero_le _, by simp [Hid], Drawn.refl _⟩
  case round =>
    obtain ⟨i, rfl, hi, hx, hD⟩ := hrel
    have hcs : i = 0 ∨ i = 1 ∨ i = 2 ∨ i = 3 ∨ i = 4 ∨ i = 5 ∨ i = 6 ∨ i = 7 ∨ i = 8 ∨ i = 9 ∨ i = 10 ∨ i = 11 ∨ i = 12 ∨ i = 13 ∨ i = 14 := by omega
    rcases hcs with rfl | rfl | rfl | rfl | rfl | rfl | rfl | rfl | rfl | rfl | rfl | rfl | rfl | rfl | rfl
    · have hidx : (((⟨#[40, 41, 44, 59, 58, 61, 42, 43, 45, 47, 60, 124, 95, 46]⟩ : ByteArray)[0]'(by decide)).toNat : Int) = 40 := rfl
      by_cases hn : c = 40
      · have HX : Hid (R = 1) := HIT.out 40 hn (by decide)
        subst hn
        clear hx HIT MISS
        go_wp2
        go_quiet (fail)
        go_wp2
        go_ret
        exact ⟨ret_int (by rw [HX.out]; rfl), hD.on _⟩
      · have HX : Hid (c ∉ Lx.marks.take 1) := Lx.marks_on hx.out (by rfl) hn
        have hn2 : ((40 : Int) == c) = false := by rw [beq_eq_false_iff_ne]; exact fun h => hn h.symm
        clear hx HIT MISS hc hn
        go_wp2
        go_quiet (fail)
        go_wp2
        go_roundw
        case rel => exact ⟨1, rfl, by decide, HX, hD.on _⟩
        case measure => simp [intOf]
    · have hidx : (((⟨#[40, 41, 44, 59, 58, 61, 42, 43, 45, 47, 60, 124, 95, 46]⟩ : ByteArray)[1]'(by decide)).toNat : Int) = 41 := rfl
      by_cases hn : c = 41
      · have HX : Hid (R = 1) := HIT.out 41 hn (by decide)
        subst hn
        clear hx HIT MISS
        go_wp2
        go_quiet (fail)
        go_wp2
        go_ret
        exact ⟨ret_int (by rw [HX.out]; rfl), hD.on _⟩
      · have HX : Hid (c ∉ Lx.marks.take 2) := Lx.marks_on hx.out (by rfl) hn
        have hn2 : ((41 : Int) == c) = false := by rw [beq_eq_false_iff_ne]; exact fun h => hn h.symm
        clear hx HIT MISS hc hn
        go_wp2
        go_quiet (fail)
        go_wp2
        go_roundw
        case rel => exact ⟨2, rfl, by decide, HX, hD.on _⟩
        case measure => simp [intOf]
    · have hidx : (((⟨#[40, 41, 44, 59, 58, 61, 42, 43, 45, 47, 60, 124, 95, 46]⟩ : ByteArray)[2]'(by decide)).toNat : Int) = 44 := rfl
      by_cases hn : c = 44
      · have HX : Hid (R = 1) := HIT.out 44 hn (by decide)
        subst hn
        clear hx HIT MISS
        go_wp2
        go_quiet (fail)
        go_wp2
        go_ret
        exact ⟨ret_int (by rw [HX.out]; rfl), hD.on _⟩
      · have HX : Hid (c ∉ Lx.marks.take 3) := Lx.marks_on hx.out (by rfl) hn
        have hn2 : ((44 : Int) == c) = false := by rw [beq_eq_false_iff_ne]; exact fun h => hn h.symm
        clear hx HIT MISS hc hn
        go_wp2
        go_quiet (fail)
        go_wp2
        go_roundw
        case rel => exact ⟨3, rfl, by decide, HX, hD.on _⟩
        case measure => simp [intOf]
    · have hidx : (((⟨#[40, 41, 44, 59, 58, 61, 42, 43, 45, 47, 60, 124, 95, 46]⟩ : ByteArray)[3]'(by decide)).toNat : Int) = 59 := rfl
      by_cases hn : c = 59
      · have HX : Hid (R = 1) := HIT.out 59 hn (by decide)
        subst hn
        clear hx HIT MISS
        go_wp2
        go_quiet (fail)
        go_wp2
        go_ret
        exact ⟨ret_int (by rw [HX.out]; rfl), hD.on _⟩
      · have HX : Hid (c ∉ Lx.marks.take 4) := Lx.marks_on hx.out (by rfl) hn
        have hn2 : ((59 : Int) == c) = false := by rw [beq_eq_false_iff_ne]; exact fun h => hn h.symm
        clear hx HIT MISS hc hn
        go_wp2
        go_quiet (fail)
        go_wp2
        go_roundw
        case rel => exact ⟨4, rfl, by decide, HX, hD.on _⟩
        case measure => simp [intOf]
    · have hidx : (((⟨#[40, 41, 44, 59, 58, 61, 42, 43, 45, 47, 60, 124, 95, 46]⟩ : ByteArray)[4]'(by decide)).toNat : Int) = 58 := rfl
      by_cases hn : c = 58
      · have HX : Hid (R = 1) := HIT.out 58 hn (by decide)
        subst hn
        clear hx HIT MISS
        go_wp2
        go_quiet (fail)
        go_wp2
        go_ret
        exact ⟨ret_int (by rw [HX.out]; rfl), hD.on _⟩
      · have HX : Hid (c ∉ Lx.marks.take 5) := Lx.marks_on hx.out (by rfl) hn
        have hn2 : ((58 : Int) == c) = false := by rw [beq_eq_false_iff_ne]; exact fun h => hn h.symm
        clear hx HIT MISS hc hn
        go_wp2
        go_quiet (fail)
        go_wp2
        go_roundw
        case rel => exact ⟨5, rfl, by decide, HX, hD.on _⟩
        case measure => simp [intOf]
    · have hidx : (((⟨#[40, 41, 44, 59, 58, 61, 42, 43, 45, 47, 60, 124, 95, 46]⟩ : ByteArray)[5]'(by decide)).toNat : Int) = 61 := rfl
      by_cases hn : c = 61
      · have HX : Hid (R = 1) := HIT.out 61 hn (by decide)
        subst hn
        clear hx HIT MISS
        go_wp2
        go_quiet (fail)
        go_wp2
        go_ret
        exact ⟨ret_int (by rw [HX.out]; rfl), hD.on _⟩
      · have HX : Hid (c ∉ Lx.marks.take 6) := Lx.marks_on hx.out (by rfl) hn
        have hn2 : ((61 : Int) == c) = false := by rw [beq_eq_false_iff_ne]; exact fun h => hn h.symm
        clear hx HIT MISS hc hn
        go_wp2
        go_quiet (fail)
        go_wp2
        go_roundw
        case rel => exact ⟨6, rfl, by decide, HX, hD.on _⟩
        case measure => simp [intOf]
    · have hidx : (((⟨#[40, 41, 44, 59, 58, 61, 42, 43, 45, 47, 60, 124, 95, 46]⟩ : ByteArray)[6]'(by decide)).toNat : Int) = 42 := rfl
      by_cases hn : c = 42
      · have HX : Hid (R = 1) := HIT.out 42 hn (by decide)
        subst hn
        clear hx HIT MISS
        go_wp2
        go_quiet (fail)
        go_wp2
        go_ret
        exact ⟨ret_int (by rw [HX.out]; rfl), hD.on _⟩
      · have HX : Hid (c ∉ Lx.marks.take 7) := Lx.marks_on hx.out (by rfl) hn
        have hn2 : ((42 : Int) == c) = false := by rw [beq_eq_false_iff_ne]; exact fun h => hn h.symm
        clear hx HIT MISS hc hn
        go_wp2
        go_quiet (fail)
        go_wp2
        go_roundw
        case rel => exact ⟨7, rfl, by decide, HX, hD.on _⟩
        case measure => simp [intOf]
    · have hidx : (((⟨#[40, 41, 44, 59, 58, 61, 42, 43, 45, 47, 60, 124, 95, 46]⟩ : ByteArray)[7]'(by decide)).toNat : Int) = 43 := rfl
      by_cases hn : c = 43
      · have HX : Hid (R = 1) := HIT.out 43 hn (by decide)
        subst hn
        clear hx HIT MISS
        go_wp2
        go_quiet (fail)
        go_wp2
        go_ret
        exact ⟨ret_int (by rw [HX.out]; rfl), hD.on _⟩
      · have HX : Hid (c ∉ Lx.marks.take 8) := Lx.marks_on hx.out (by rfl) hn
        have hn2 : ((43 : Int) == c) = false := by rw [beq_eq_false_iff_ne]; exact fun h => hn h.symm
        clear hx HIT MISS hc hn
        go_wp2
        go_quiet (fail)
        go_wp2
        go_roundw
        case rel => exact ⟨8, rfl, by decide, HX, hD.on _⟩
        case measure => simp [intOf]
    · have hidx : (((⟨#[40, 41, 44, 59, 58, 61, 42, 43, 45, 47, 60, 124, 95, 46]⟩ : ByteArray)[8]'(by decide)).toNat : Int) = 45 := rfl
      by_cases hn : c = 45
      · have HX : Hid (R = 1) := HIT.out 45 hn (by decide)
        subst hn
        clear hx HIT MISS
        go_wp2
        go_quiet (fail)
        go_wp2
        go_ret
        exact ⟨ret_int (by rw [HX.out]; rfl), hD.on _⟩
      · have HX : Hid (c ∉ Lx.marks.take 9) := Lx.marks_on hx.out (by rfl) hn
        have hn2 : ((45 : Int) == c) = false := by rw [beq_eq_false_iff_ne]; exact fun h => hn h.symm
        clear hx HIT MISS hc hn
        go_wp2
        go_quiet (fail)
        go_wp2
        go_roundw
        case rel => exact ⟨9, rfl, by decide, HX, hD.on _⟩
        case measure => simp [intOf]
    · have hidx : (((⟨#[40, 41, 44, 59, 58, 61, 42, 43, 45, 47, 60, 124, 95, 46]⟩ : ByteArray)[9]'(by decide)).toNat : Int) = 47 := rfl
      by_cases hn : c = 47
      · have HX : Hid (R = 1) := HIT.out 47 hn (by decide)
        subst hn
        clear hx HIT MISS
        go_wp2
        go_quiet (fail)
        go_wp2
        go_ret
        exact ⟨ret_int (by rw [HX.out]; rfl), hD.on _⟩
      · have HX : Hid (c ∉ Lx.marks.take 10) := Lx.marks_on hx.out (by rfl) hn
        have hn2 : ((47 : Int) == c) = false := by rw [beq_eq_false_iff_ne]; exact fun h => hn h.symm
        clear hx HIT MISS hc hn
        go_wp2
        go_quiet (fail)
        go_wp2
        go_roundw
        case rel => exact ⟨10, rfl, by decide, HX, hD.on _⟩
        case measure => simp [intOf]
    · have hidx : (((⟨#[40, 41, 44, 59, 58, 61, 42, 43, 45, 47, 60, 124, 95, 46]⟩ : ByteArray)[10]'(by decide)).toNat : Int) = 60 := rfl
      by_cases hn : c = 60
      · have HX : Hid (R = 1) := HIT.out 60 hn (by decide)
        subst hn
        clear hx HIT MISS
        go_wp2
        go_quiet (fail)
        go_wp2
        go_ret
        exact ⟨ret_int (by rw [HX.out]; rfl), hD.on _⟩
      · have HX : Hid (c ∉ Lx.marks.take 11) := Lx.marks_on hx.out (by rfl) hn
        have hn2 : ((60 : Int) == c) = false := by rw [beq_eq_false_iff_ne]; exact fun h => hn h.symm
        clear hx HIT MISS hc hn
        go_wp2
        go_quiet (fail)
        go_wp2
        go_roundw
        case rel => exact ⟨11, rfl, by decide, HX, hD.on _⟩
        case measure => simp [intOf]
    · have hidx : (((⟨#[40, 41, 44, 59, 58, 61, 42, 43, 45, 47, 60, 124, 95, 46]⟩ : ByteArray)[11]'(by decide)).toNat : Int) = 124 := rfl
      by_cases hn : c = 124
      · have HX : Hid (R = 1) := HIT.out 124 hn (by decide)
        subst hn
        clear hx HIT MISS
        go_wp2
        go_quiet (fail)
        go_wp2
        go_ret
        exact ⟨ret_int (by rw [HX.out]; rfl), hD.on _⟩
      · have HX : Hid (c ∉ Lx.marks.take 12) := Lx.marks_on hx.out (by rfl) hn
        have hn2 : ((124 : Int) == c) = false := by rw [beq_eq_false_iff_ne]; exact fun h => hn h.symm
        clear hx HIT MISS hc hn
        go_wp2
        go_quiet (fail)
        go_wp2
        go_roundw
        case rel => exact ⟨12, rfl, by decide, HX, hD.on _⟩
        case measure => simp [intOf]
    · have hidx : (((⟨#[40, 41, 44, 59, 58, 61, 42, 43, 45, 47, 60, 124, 95, 46]⟩ : ByteArray)[12]'(by decide)).toNat : Int) = 95 := rfl
      by_cases hn : c = 95
      · have HX : Hid (R = 1) := HIT.out 95 hn (by decide)
        subst hn
        clear hx HIT MISS
        go_wp2
        go_quiet (fail)
        go_wp2
        go_ret
        exact ⟨ret_int (by rw [HX.out]; rfl), hD.on _⟩
      · have HX : Hid (c ∉ Lx.marks.take 13) := Lx.marks_on hx.out (by rfl) hn
        have hn2 : ((95 : Int) == c) = false := by rw [beq_eq_false_iff_ne]; exact fun h => hn h.symm
        clear hx HIT MISS hc hn
        go_wp2
        go_quiet (fail)
        go_wp2
        go_roundw
        case rel => exact ⟨13, rfl, by decide, HX, hD.on _⟩
        case measure => simp [intOf]
    · have hidx : (((⟨#[40, 41, 44, 59, 58, 61, 42, 43, 45, 47, 60, 124, 95, 46]⟩ : ByteArray)[13]'(by decide)).toNat : Int) = 46 := rfl
      by_cases hn : c = 46
      · have HX : Hid (R = 1) := HIT.out 46 hn (by decide)
        subst hn
        clear hx HIT MISS
        go_wp2
        go_quiet (fail)
        go_wp2
        go_ret
        exact ⟨ret_int (by rw [HX.out]; rfl), hD.on _⟩
      · have HX : Hid (c ∉ Lx.marks.take 14) := Lx.marks_on hx.out (by rfl) hn
        have hn2 : ((46 : Int) == c) = false := by rw [beq_eq_false_iff_ne]; exact fun h => hn h.symm
        clear hx HIT MISS hc hn
        go_wp2
        go_quiet (fail)
        go_wp2
        go_roundw
        case rel => exact ⟨14, rfl, by decide, HX, hD.on _⟩
        case measure => simp [intOf]
    · have HX : Hid (R = 0) := MISS.out (by have := hx.out; rwa [List.take_of_length_le (by decide)] at this)
      clear hx HIT MISS hc
      go_wp2
      go_ret
      exact ⟨ret_int (by rw [HX.out]; rfl), hD⟩

theorem rfMark_any (s : ByteArray) (k : Nat) (hk : k < s.size) (hs : s.size ≤ 4096) (w : World) :
    Calls Tryd.prog 41 #[.string s, .int .i64 k] w fun e w' => e = .returned (.int .i64 (Lx.markI (Lx.b s k) (Lx.b s (k + 1)))) ∧ Drawn w w' := by
  by_cases hno : (Lx.b s k = 58 ∨ Lx.b s k = 61 ∨ Lx.b s k = 45) ∧ Lx.b s (k + 1) = 62
  · have H : Hid (Lx.markI (Lx.b s k) (Lx.b s (k + 1)) = 2) := Lx.markI_two hno
    have t1 := fun w => rfTwo_58_62 s k hs (by omega) w
    have t2 := fun w => rfTwo_61_62 s k hs (by omega) w
    have t3 := fun w => rfTwo_45_62 s k hs (by omega) w
    obtain ⟨h | h | h, h2⟩ := hno
    · rw [Lx.two_true ⟨h, h2⟩] at t1
      clear h h2 t2 t3
      go_enter Tryd.func41, Tryd.ntmps41
      go_wp2_with (go_at_call 33; refine (t1 _).mono ?_; rintro e w1 ⟨rfl, hw1⟩; rw [hw1]; clear hw1 w1)
      go_ret
      exact ⟨ret_int (by rw [H.out]; rfl), Drawn.refl _⟩
    · rw [Lx.two_false (fun hh => by have := hh.1; omega)] at t1
      rw [Lx.two_true ⟨h, h2⟩] at t2
      clear h h2 t3
      go_enter Tryd.func41, Tryd.ntmps41
      go_wp2_with (first | (go_at_call 33; have _ := m1; refine (t2 _).mono ?_; rintro e w1 ⟨rfl, hw1⟩; rw [hw1]; clear hw1 w1) | (go_at_call 33; refine (t1 _).mono ?_; rintro e w1 ⟨rfl, hw1⟩; rw [hw1]; clear hw1 w1; have m1 := True.intro))
      go_ret
      exact ⟨ret_int (by rw [H.out]; rfl), Drawn.refl _⟩
    · rw [Lx.two_false (fun hh => by have := hh.1; omega)] at t1
      rw [Lx.two_false (fun hh => by have := hh.1; omega)] at t2
      rw [Lx.two_true ⟨h, h2⟩] at t3
      clear h h2
      go_enter Tryd.func41, Tryd.ntmps41
      go_wp2_with (first | (go_at_call 33; have _ := m2; refine (t3 _).mono ?_; rintro e w1 ⟨rfl, hw1⟩; rw [hw1]; clear hw1 w1) | (go_at_call 33; have _ := m1; refine (t2 _).mono ?_; rintro e w1 ⟨rfl, hw1⟩; rw [hw1]; clear hw1 w1; have m2 := True.intro) | (go_at_call 33; refine (t1 _).mono ?_; rintro e w1 ⟨rfl, hw1⟩; rw [hw1]; clear hw1 w1; have m1 := True.intro))
      go_ret
      exact ⟨ret_int (by rw [H.out]; rfl), Drawn.refl _⟩
  · exact rfMarkLoop s k hk hs hno w

/-- The text of the token that begins at a place, by the place behind it. -/
theorem Lx.text_run (s : ByteArray) (p : Nat) {K m : Nat} (h : Lx.begin (s.data.toList.drop p) = (K, m)) {j : Nat} (hj : Lx.runN s K (p + m) = j) :
    p + m ≤ j ∧ j ≤ s.size ∨ s.size < p := by
  by_cases hp : s.size < p
  · exact .inr hp
  · left
    have hbl := (Lx.begin_le (s.data.toList.drop p)).1
    rw [h, List.length_drop, Nm.len] at hbl
    have hl := (List.takeWhile_prefix (Lx.goes K) (l := s.data.toList.drop (p + m))).length_le
    rw [List.length_drop, Nm.len] at hl
    unfold Lx.runN at hj
    have hbl' : m ≤ s.size - p := hbl
    omega
theorem Lx.text_cut (s : ByteArray) (p : Nat) (hp : p ≤ s.size) {K m : Nat} (h : Lx.begin (s.data.toList.drop p) = (K, m)) {j : Nat} (hj : Lx.runN s K (p + m) = j) :
    Lx.text (s.data.toList.drop p) = (s.data.toList.drop p).take (j - p) := by
  have h1 := (Lx.text_run s p h hj).resolve_right (by omega)
  unfold Lx.text
  rw [h]
  show (s.data.toList.drop p).take m ++ ((s.data.toList.drop p).drop m).takeWhile (Lx.goes K) = _
  rw [List.drop_drop]
  have hl : ((s.data.toList.drop (p + m)).takeWhile (Lx.goes K)).length = j - (p + m) := by unfold Lx.runN at hj; omega
  have ht : (s.data.toList.drop (p + m)).takeWhile (Lx.goes K) = (s.data.toList.drop (p + m)).take (j - (p + m)) := by
    rw [← hl]; exact (List.prefix_iff_eq_take.1 (List.takeWhile_prefix _))
  rw [ht, show j - p = m + (j - (p + m)) by omega, List.take_add, List.drop_drop]
theorem Lx.cut_bytes (s : ByteArray) (p j : Nat) : (⟨((s.data.toList.drop p).take (j - p)).toArray⟩ : ByteArray) = s.extract p j := by
  have : (s.extract p j).data.toList = (s.data.toList.drop p).take (j - p) := by
    rw [ByteArray.data_extract, Array.toList_extract, List.extract_eq_take_drop]
  rw [← this]
end Go.Proofs.YtfjcnncpmhfbnaaDoor
