/- Pieces: GrTk LexB LexLeaf LexSkip Reserved ShelfNum. -/
import Derived.Test.YtjebepnphoeiaaaGreatDoorQad
import Derived.Test.YtjebepnphoeiaaaGreatDoorQaz
import Derived.Test.YtjebepnphoeiaaaGreatDoorQaa
import Derived.WalkKit
import Derived.WalkSpells
import Derived.Lib.Walk
import Derived.Lib.Strings
import Derived.Lib.Bytealg
import Derived.Deep.QuietTactic
import Derived.BigQuiet
import Derived.Test.YtjebepnphoeiaaaGreatDoorProg
import Derived.WalkMore
import Derived.Shelf.Strconv.ParseIntPublic10
namespace Go.Proofs.YtjebepnphoeiaaaGreatDoor
open Go.RowKit
set_option linter.unusedVariables false

theorem Gr.lexN_ok : ∀ {ts : List Lx.Tok} {c : Nat} {l : List UInt8}, Lx.lexN c l = .good ts → l.length ≤ 4096 → ∀ t, t ∈ ts → Gr.TokOk l.length t
 | [], c, l, h, hl => fun t ht => by cases ht
 | a :: ts, c, l, h, hl => by
  obtain ⟨q, r, c0, rfl, e, -, hleft, ha, h2⟩ := Lx.lexN_uncons h
  have hlen : l.length = q.length + (a.text.length + r.length) := by rw [e, List.length_append, List.length_append]
  have hk := Lx.next_kind ha.next
  rw [List.length_append] at hleft
  intro t ht
  rcases List.mem_cons.1 ht with rfl | ht
  ·
   exact ⟨hk.2.1, hk.2.2.1, by omega, fun _ => ha.pos, hk.2.2.2.2, by omega⟩
  ·
   have h3 := Gr.lexN_ok h2 (by omega) t ht
   exact ⟨h3.k1, h3.k6, h3.len, h3.tyv, h3.num, by have := h3.left; omega⟩
theorem Gr.lex_ok {l : List UInt8} {ts : List Lx.Tok} (h : Lx.lex l = .good ts) : (∀ t, t ∈ ts → Gr.TokOk l.length t) ∧ ts.length ≤ 1024 ∧ l.length ≤ 4096 := by
 unfold Lx.lex at h
 split at h
 ·
  cases h
 ·
  exact ⟨Gr.lexN_ok h (by omega), Lx.lexN_len h, by omega⟩
end Go.Proofs.YtjebepnphoeiaaaGreatDoor
namespace Go.Proofs.YtjebepnphoeiaaaGreatDoor
set_option linter.unusedVariables false

theorem Lx.u8 (c : UInt8) (n : Nat) (hn : n < 256) : c = UInt8.ofNat n ↔ (c.toNat : Int) = (n : Int) := by
 constructor
 ·
  rintro rfl
  rw [UInt8.toNat_ofNat']; omega
 ·
  intro h
  apply UInt8.toNat_inj.1
  rw [UInt8.toNat_ofNat']; omega
def Lx.b (s : ByteArray) (k : Nat) : Int := if h : k < s.size then (s[k].toNat : Int) else -1
theorem Lx.b_lt {s : ByteArray} {k : Nat} (h : k < s.size) : (s[k].toNat : Int) = Lx.b s k := by unfold Lx.b; rw [dif_pos h]
theorem Lx.b_ge {s : ByteArray} {k : Nat} (h : ¬ k < s.size) : Lx.b s k = -1 := by unfold Lx.b; rw [dif_neg h]
theorem Lx.b_head (s : ByteArray) (k : Nat) (n : Nat) (hn : n < 256) : (s.data.toList.drop k).head? = some (UInt8.ofNat n) ↔ Lx.b s k = (n : Int) := by
 by_cases h : k < s.size
 ·
  rw [Nm.drop_cons s k h, ← Lx.b_lt h, List.head?_cons, ← Lx.u8 s[k] n hn]; simp
 ·
  rw [Lx.b_ge h, List.drop_eq_nil_of_le (by rw [Nm.len]; omega)]
  constructor
  ·
   intro h; cases h
  ·
   intro h; omega
theorem Lx.b_any (s : ByteArray) (k : Nat) (f : Int → Bool) (hf : f (-1) = false) : ((s.data.toList.drop k).head?.any fun b => f (b.toNat : Int)) = f (Lx.b s k) := by
 by_cases h : k < s.size
 ·
  rw [Nm.drop_cons s k h, ← Lx.b_lt h]; rfl
 ·
  rw [Lx.b_ge h, List.drop_eq_nil_of_le (by rw [Nm.len]; omega), hf]; rfl

def Lx.markI (c d : Int) : Nat := if (c = 58 ∨ c = 61 ∨ c = 45) ∧ d = 62 then 2
 else if c = 40 ∨ c = 41 ∨ c = 44 ∨ c = 59 ∨ c = 58 ∨ c = 61 ∨ c = 42 ∨ c = 43 ∨ c = 45 ∨ c = 47 ∨ c = 60 ∨ c = 124 ∨ c = 95 ∨ c = 46 then 1 else 0
theorem Lx.mark_at (s : ByteArray) (k : Nat) (h : k < s.size) : Lx.mark (s.data.toList.drop k) = Lx.markI (Lx.b s k) (Lx.b s (k + 1)) := by
 have e := Nm.drop_cons s k h
 rw [e]
 have h1 := Lx.b_head s (k + 1) 62 (by decide)
 have e2 : ∀ n, n < 256 → (s[k] = UInt8.ofNat n ↔ Lx.b s k = (n : Int)) := fun n hn => by rw [← Lx.b_lt h]; exact Lx.u8 s[k] n hn
 have e3 : (([40, 41, 44, 59, 58, 61, 42, 43, 45, 47, 60, 124, 95, 46] : List UInt8).contains s[k] = true) ↔ (Lx.b s k = 40 ∨ Lx.b s k = 41 ∨ Lx.b s k = 44 ∨ Lx.b s k = 59 ∨ Lx.b s k = 58 ∨ Lx.b s k = 61 ∨ Lx.b s k = 42 ∨ Lx.b s k = 43 ∨ Lx.b s k = 45 ∨ Lx.b s k = 47 ∨ Lx.b s k = 60 ∨ Lx.b s k = 124 ∨ Lx.b s k = 95 ∨ Lx.b s k = 46) := by
  rw [List.contains_iff_mem]
  simp only [List.mem_cons, List.not_mem_nil, or_false]
  exact or_congr (e2 40 (by decide)) (or_congr (e2 41 (by decide)) (or_congr (e2 44 (by decide)) (or_congr (e2 59 (by decide)) (or_congr (e2 58 (by decide)) (or_congr (e2 61 (by decide)) (or_congr (e2 42 (by decide)) (or_congr (e2 43 (by decide)) (or_congr (e2 45 (by decide)) (or_congr (e2 47 (by decide)) (or_congr (e2 60 (by decide)) (or_congr (e2 124 (by decide)) (or_congr (e2 95 (by decide)) (e2 46 (by decide))))))))))))))
 have e4 : ((s[k] = 58 ∨ s[k] = 61 ∨ s[k] = 45) ∧ (s.data.toList.drop (k + 1)).head? = some 62) ↔ ((Lx.b s k = 58 ∨ Lx.b s k = 61 ∨ Lx.b s k = 45) ∧ Lx.b s (k + 1) = 62) :=
  and_congr (or_congr (e2 58 (by decide)) (or_congr (e2 61 (by decide)) (e2 45 (by decide)))) h1
 rw [Lx.mark_cons]
 unfold Lx.markI
 simp only [e3, e4]

def Lx.beginI (c d : Int) : Nat × Nat := if Nm.low c = true then (1, 1) else if Nm.high c = true then (2, 1) else if Nm.dig c = true then (4, 1)
 else if c = 39 ∧ Nm.low d = true then (5, 2) else if Lx.markI c d = 0 then (0, 0) else (6, Lx.markI c d)
theorem Lx.begin_at (s : ByteArray) (k : Nat) (h : k < s.size) : Lx.begin (s.data.toList.drop k) = Lx.beginI (Lx.b s k) (Lx.b s (k + 1)) := by
 have hm := Lx.mark_at s k h
 have e := Nm.drop_cons s k h
 rw [e] at hm ⊢
 have h1 := Lx.b_any s (k + 1) Nm.low (by decide)
 have h2 : s[k] = 39 ↔ Lx.b s k = 39 := by rw [← Lx.b_lt h]; exact Lx.u8 s[k] 39 (by decide)
 rw [Lx.begin_cons]
 unfold Lx.beginI
 rw [hm, Lx.b_lt h]
 simp only [h1, h2]
theorem Lx.opens_at (s : ByteArray) (k : Nat) : Lx.opens (s.data.toList.drop k) = (decide (Lx.b s k = 40) && decide (Lx.b s (k + 1) = 42)) := by
 by_cases h : k < s.size
 ·
  rw [Nm.drop_cons s k h]
  have a1 : s[k] = 40 ↔ Lx.b s k = 40 := by rw [← Lx.b_lt h]; exact Lx.u8 s[k] 40 (by decide)
  by_cases h2 : k + 1 < s.size
  ·
   rw [Nm.drop_cons s (k + 1) h2]
   have a2 : s[k + 1] = 42 ↔ Lx.b s (k + 1) = 42 := by rw [← Lx.b_lt h2]; exact Lx.u8 s[k + 1] 42 (by decide)
   unfold Lx.opens
   rw [Bool.eq_iff_iff]
   simp [a1, a2]
  ·
   rw [List.drop_eq_nil_of_le (i := k + 1) (by rw [Nm.len]; omega), Lx.b_ge h2]; simp [Lx.opens]
 ·
  rw [Lx.b_ge h, List.drop_eq_nil_of_le (by rw [Nm.len]; omega)]; rfl
theorem Lx.rem_at (s : ByteArray) (k d : Nat) (h : k + 1 < s.size) : Lx.rem (s.data.toList.drop k) d =
  if Lx.b s k = 40 ∧ Lx.b s (k + 1) = 42 then Lx.rem (s.data.toList.drop (k + 2)) (d + 1)
  else if Lx.b s k = 42 ∧ Lx.b s (k + 1) = 41 then (if d ≤ 1 then some (s.data.toList.drop (k + 2)) else Lx.rem (s.data.toList.drop (k + 2)) (d - 1))
  else Lx.rem (s.data.toList.drop (k + 1)) d := by
 have h0 : k < s.size := by omega
 have a1 : ∀ n, n < 256 → (s[k] = UInt8.ofNat n ↔ Lx.b s k = (n : Int)) := fun n hn => by rw [← Lx.b_lt h0]; exact Lx.u8 s[k] n hn
 have a2 : ∀ n, n < 256 → (s[k + 1] = UInt8.ofNat n ↔ Lx.b s (k + 1) = (n : Int)) := fun n hn => by rw [← Lx.b_lt h]; exact Lx.u8 s[k + 1] n hn
 have e1 : (s[k] = 40 ∧ s[k + 1] = 42) ↔ (Lx.b s k = 40 ∧ Lx.b s (k + 1) = 42) := and_congr (a1 40 (by decide)) (a2 42 (by decide))
 have e2 : (s[k] = 42 ∧ s[k + 1] = 41) ↔ (Lx.b s k = 42 ∧ Lx.b s (k + 1) = 41) := and_congr (a1 42 (by decide)) (a2 41 (by decide))
 rw [Nm.drop_cons s k h0, Nm.drop_cons s (k + 1) h, Lx.rem]
 simp only [e1, e2]
theorem Lx.rem_end (s : ByteArray) (k d : Nat) (h : s.size ≤ k + 1) : Lx.rem (s.data.toList.drop k) d = none := by
 by_cases h0 : k < s.size
 ·
  rw [Nm.drop_cons s k h0, List.drop_eq_nil_of_le (i := k + 1) (by rw [Nm.len]; omega)]; rfl
 ·
  rw [List.drop_eq_nil_of_le (by rw [Nm.len]; omega)]; rfl
theorem Lx.skip_at (s : ByteArray) (k : Nat) (h : k < s.size) : Lx.skip (s.data.toList.drop k) =
  if Lx.blank (Lx.b s k) = true then Lx.skip (s.data.toList.drop (k + 1))
  else if (decide (Lx.b s k = 40) && decide (Lx.b s (k + 1) = 42)) = true then
   (match Lx.rem (s.data.toList.drop k) 0 with
   | none => (s.data.toList.drop k, false)
   | some r => Lx.skip r)
  else (s.data.toList.drop k, true) := by
 have e := Nm.drop_cons s k h
 rw [← Lx.opens_at]
 have hb := Lx.b_lt h
 by_cases h1 : Lx.blank (Lx.b s k) = true
 ·
  rw [if_pos h1, e, Lx.skip_blank (by rw [hb]; exact h1)]
 ·
  rw [if_neg h1]
  by_cases h2 : Lx.opens (s.data.toList.drop k) = true
  ·
   rw [if_pos h2]
   cases hR : Lx.rem (s.data.toList.drop k) 0 with
   | none => exact Lx.skip_open h2 hR
   | some r => exact Lx.skip_rem h2 hR
  ·
   rw [if_neg h2, e, Lx.skip_stop (by rw [hb]; simpa using h1) (by rw [e] at h2; simpa using h2)]

theorem Lx.rest (s : ByteArray) (k : Nat) : (s.extract k s.size).data.toList = s.data.toList.drop k := by
 rw [ByteArray.data_extract, Array.toList_extract, List.extract_eq_take_drop]
 rw [List.take_of_length_le (by rw [List.length_drop, Nm.len]; omega)]
theorem Lx.rest_size (s : ByteArray) (k : Nat) : (s.extract k s.size).size = s.size - k := by rw [ByteArray.size_extract, Nat.min_self]
end Go.Proofs.YtjebepnphoeiaaaGreatDoor
namespace Go.Proofs.YtjebepnphoeiaaaGreatDoor
open Go.RowKit
set_option linter.unusedVariables false

theorem lxSmall_any (c : Int) (w : World) : Calls Tryz.prog 189 #[.int .u8 c] w fun e w' => e = .returned (.bool (Nm.low c)) ∧ w' = w := by
 go_enter Tryz.func189, Tryz.ntmps189
 go_wp2
 all_goals go_ret
 all_goals refine ⟨ret_bool ?_, rfl⟩
 all_goals (unfold Nm.low; first | (simp [*]; done) | (simp; omega))

theorem lxBlank_any (c : Int) (w : World) : Calls Tryz.prog 115 #[.int .u8 c] w fun e w' => e = .returned (.bool (Lx.blank c)) ∧ w' = w := by
 go_enter Tryz.func115, Tryz.ntmps115
 go_wp2
 all_goals go_ret
 all_goals refine ⟨ret_bool ?_, rfl⟩
 all_goals (unfold Lx.blank; first | (simp [*]; done) | (simp_all; done))

def Lx.bits (c : Int) : Int := if Nm.dig c = true then 54 else if Nm.low c = true then 38 else if Nm.body c = true then 6 else 0

theorem lxWithin_any (c : Int) (w : World) : Calls Tryz.prog 119 #[.int .u8 c] w fun e w' => e = .returned (.int .i64 (Lx.bits c)) ∧ w' = w := by
 cases hd : Nm.dig c with
 | true =>
  have h1 : 48 ≤ c ∧ c ≤ 57 := by unfold Nm.dig at hd; simpa using hd
  have H : Hid (Lx.bits c = 54) := by show _ = _; unfold Lx.bits; rw [hd]; rfl
  go_enter Tryz.func119, Tryz.ntmps119
  go_wp2_with (go_at_call 189; refine (lxSmall_any _ _).mono ?_; rintro e w' ⟨rfl, rfl⟩)
  all_goals go_ret
  all_goals exact ⟨ret_int H.out.symm, rfl⟩
 | false =>
  have h1 : ¬ (48 ≤ c ∧ c ≤ 57) := by unfold Nm.dig at hd; simpa using hd
  cases hl : Nm.low c with
  | true =>
   have H : Hid (Lx.bits c = 38) := by show _ = _; unfold Lx.bits; rw [hd, hl]; rfl
   go_enter Tryz.func119, Tryz.ntmps119
   go_wp2_with (go_at_call 189; refine (lxSmall_any _ _).mono ?_; rintro e w' ⟨rfl, rfl⟩)
   all_goals go_ret
   all_goals exact ⟨ret_int H.out.symm, rfl⟩
  | false =>
   cases hh : Nm.high c with
   | true =>
    have h2 : 65 ≤ c ∧ c ≤ 90 := by unfold Nm.high at hh; simpa using hh
    have H : Hid (Lx.bits c = 6) := by show _ = _; unfold Lx.bits; rw [hd, hl]; unfold Nm.body Nm.letter; rw [hd, hl, hh]; rfl
    go_enter Tryz.func119, Tryz.ntmps119
    go_wp2_with (go_at_call 189; refine (lxSmall_any _ _).mono ?_; rintro e w' ⟨rfl, rfl⟩)
    all_goals go_ret
    all_goals exact ⟨ret_int H.out.symm, rfl⟩
   | false =>
    have h2 : ¬ (65 ≤ c ∧ c ≤ 90) := by unfold Nm.high at hh; simpa using hh
    by_cases h3 : c = 95
    ·
     have H : Hid (Lx.bits c = 6) := by show _ = _; unfold Lx.bits; rw [hd, hl]; unfold Nm.body Nm.letter; rw [hd, hl, hh]; simp [h3]
     go_enter Tryz.func119, Tryz.ntmps119
     go_wp2_with (go_at_call 189; refine (lxSmall_any _ _).mono ?_; rintro e w' ⟨rfl, rfl⟩)
     all_goals go_ret
     all_goals exact ⟨ret_int H.out.symm, rfl⟩
    ·
     have H : Hid (Lx.bits c = 0) := by show _ = _; unfold Lx.bits; rw [hd, hl]; unfold Nm.body Nm.letter; rw [hd, hl, hh]; simp [h3]
     go_enter Tryz.func119, Tryz.ntmps119
     go_wp2_with (go_at_call 189; refine (lxSmall_any _ _).mono ?_; rintro e w' ⟨rfl, rfl⟩)
     all_goals go_ret
     all_goals exact ⟨ret_int H.out.symm, rfl⟩

theorem lxMark_any (s : ByteArray) (h0 : 0 < s.size) (w : World) : Calls Tryz.prog 190 #[.string s] w fun e w' => e = .returned (.int .i64 (Lx.markI (Lx.b s 0) (Lx.b s 1))) ∧ w' = w := by
 have hb := Lx.b_lt h0
 by_cases h1 : 1 < s.size
 ·
  have hb1 := Lx.b_lt h1
  generalize Lx.b s 0 = c at *
  generalize Lx.b s 1 = d at *
  go_enter Tryz.func190, Tryz.ntmps190
  go_wp2
  all_goals go_ret
  all_goals (refine ⟨ret_int ?_, rfl⟩; unfold Lx.markI; simp_all)
 ·
  rw [Lx.b_ge h1]
  generalize Lx.b s 0 = c at *
  go_enter Tryz.func190, Tryz.ntmps190
  go_wp2
  all_goals go_ret
  all_goals (refine ⟨ret_int ?_, rfl⟩; unfold Lx.markI; simp_all)

theorem ret_two {a b c d : Int} (h : a = c) (h2 : b = d) : Ending.returned (.tuple #[.int .i64 a, .int .i64 b]) = .returned (.tuple #[.int .i64 c, .int .i64 d]) := by rw [h, h2]

set_option maxHeartbeats 1000000 in
theorem lxBegin_any (s : ByteArray) (h0 : 0 < s.size) (w : World) : Calls Tryz.prog 118 #[.string s] w fun e w' => e = .returned (.tuple #[.int .i64 (Lx.beginI (Lx.b s 0) (Lx.b s 1)).1, .int .i64 (Lx.beginI (Lx.b s 0) (Lx.b s 1)).2]) ∧ w' = w := by
 have hb := Lx.b_lt h0
 cases hl : Nm.low (Lx.b s 0) with
 | true =>
  have H : Hid (Lx.beginI (Lx.b s 0) (Lx.b s 1) = (1, 1)) := by show _ = _; unfold Lx.beginI; rw [if_pos hl]
  go_enter Tryz.func118, Tryz.ntmps118
  go_wp2_with (first | (go_at_call 189; refine (lxSmall_any _ _).mono ?_; rintro e w' ⟨rfl, rfl⟩))
  go_ret2
  exact ⟨by rw [H.out]; rfl, rfl⟩
 | false =>
  cases hh : Nm.high (Lx.b s 0) with
  | true =>
   have H : Hid (Lx.beginI (Lx.b s 0) (Lx.b s 1) = (2, 1)) := by show _ = _; unfold Lx.beginI; rw [if_neg (by rw [hl]; simp), if_pos hh]
   have h1 : 65 ≤ Lx.b s 0 ∧ Lx.b s 0 ≤ 90 := by unfold Nm.high at hh; simpa using hh
   go_enter Tryz.func118, Tryz.ntmps118
   go_wp2_with (first | (go_at_call 189; refine (lxSmall_any _ _).mono ?_; rintro e w' ⟨rfl, rfl⟩))
   all_goals go_ret2
   all_goals exact ⟨by rw [H.out]; rfl, rfl⟩
  | false =>
   have h1 : ¬ (65 ≤ Lx.b s 0 ∧ Lx.b s 0 ≤ 90) := by unfold Nm.high at hh; simpa using hh
   cases hd : Nm.dig (Lx.b s 0) with
   | true =>
    have H : Hid (Lx.beginI (Lx.b s 0) (Lx.b s 1) = (4, 1)) := by show _ = _; unfold Lx.beginI; rw [if_neg (by rw [hl]; simp), if_neg (by rw [hh]; simp), if_pos hd]
    have h2 : 48 ≤ Lx.b s 0 ∧ Lx.b s 0 ≤ 57 := by unfold Nm.dig at hd; simpa using hd
    go_enter Tryz.func118, Tryz.ntmps118
    go_wp2_with (first | (go_at_call 189; refine (lxSmall_any _ _).mono ?_; rintro e w' ⟨rfl, rfl⟩))
    all_goals go_ret2
    all_goals exact ⟨by rw [H.out]; rfl, rfl⟩
   | false =>
    have h2 : ¬ (48 ≤ Lx.b s 0 ∧ Lx.b s 0 ≤ 57) := by unfold Nm.dig at hd; simpa using hd
    have H0 : Lx.beginI (Lx.b s 0) (Lx.b s 1) = if Lx.b s 0 = 39 ∧ Nm.low (Lx.b s 1) = true then (5, 2) else if Lx.markI (Lx.b s 0) (Lx.b s 1) = 0 then (0, 0) else (6, Lx.markI (Lx.b s 0) (Lx.b s 1)) := by
     unfold Lx.beginI; rw [if_neg (by rw [hl]; simp), if_neg (by rw [hh]; simp), if_neg (by rw [hd]; simp)]
    by_cases hq : Lx.b s 0 = 39 ∧ Nm.low (Lx.b s 1) = true
    ·
     have H : Hid (Lx.beginI (Lx.b s 0) (Lx.b s 1) = (5, 2)) := by show _ = _; rw [H0, if_pos hq]
     have hs1 : 1 < s.size := by
      rcases Nat.lt_or_ge 1 s.size with h | h
      ·
       exact h
      ·
       have := hq.2; rw [Lx.b_ge (by omega)] at this; cases this
     have hb1 := Lx.b_lt hs1
     obtain ⟨hq1, hq2⟩ := hq
     clear H0
     go_enter Tryz.func118, Tryz.ntmps118
     go_wp2_with (first | (go_at_call 189; refine (lxSmall_any _ _).mono ?_; rintro e w' ⟨rfl, rfl⟩))
     all_goals go_ret2
     all_goals exact ⟨by rw [H.out]; rfl, rfl⟩
    ·
     rw [if_neg hq] at H0
     by_cases hm : Lx.markI (Lx.b s 0) (Lx.b s 1) = 0
     ·
      have H : Hid (Lx.beginI (Lx.b s 0) (Lx.b s 1) = (0, 0)) := by show _ = _; rw [H0, if_pos hm]
      clear H0
      by_cases hs1 : 1 < s.size
      ·
       have hb1 := Lx.b_lt hs1
       cases hl1 : Nm.low (Lx.b s 1) with
       | true =>
        have hq1 : ¬ Lx.b s 0 = 39 := fun h => hq ⟨h, hl1⟩
        clear hq
        go_enter Tryz.func118, Tryz.ntmps118
        go_wp2_with (first | (go_at_call 189; refine (lxSmall_any _ _).mono ?_; rintro e w' ⟨rfl, rfl⟩) | (go_at_call 190; refine (lxMark_any _ h0 _).mono ?_; rintro e w' ⟨rfl, rfl⟩))
        all_goals go_ret2
        all_goals exact ⟨by rw [H.out]; rfl, rfl⟩
       | false =>
        clear hq
        go_enter Tryz.func118, Tryz.ntmps118
        go_wp2_with (first | (go_at_call 189; refine (lxSmall_any _ _).mono ?_; rintro e w' ⟨rfl, rfl⟩) | (go_at_call 190; refine (lxMark_any _ h0 _).mono ?_; rintro e w' ⟨rfl, rfl⟩))
        all_goals go_ret2
        all_goals exact ⟨by rw [H.out]; rfl, rfl⟩
      ·
       clear hq
       go_enter Tryz.func118, Tryz.ntmps118
       go_wp2_with (first | (go_at_call 189; refine (lxSmall_any _ _).mono ?_; rintro e w' ⟨rfl, rfl⟩) | (go_at_call 190; refine (lxMark_any _ h0 _).mono ?_; rintro e w' ⟨rfl, rfl⟩))
       all_goals go_ret2
       all_goals exact ⟨by rw [H.out]; rfl, rfl⟩
     ·
      have H : Hid (Lx.beginI (Lx.b s 0) (Lx.b s 1) = (6, Lx.markI (Lx.b s 0) (Lx.b s 1))) := by show _ = _; rw [H0, if_neg hm]
      clear H0
      have hm2 : (0 : Int) < (Lx.markI (Lx.b s 0) (Lx.b s 1) : Int) := by omega
      have hq1 : ¬ Lx.b s 0 = 39 := fun h => hm (by rw [h]; unfold Lx.markI; simp)
      clear hm hq
      go_enter Tryz.func118, Tryz.ntmps118
      go_wp2_with (first | (go_at_call 189; refine (lxSmall_any _ _).mono ?_; rintro e w' ⟨rfl, rfl⟩) | (go_at_call 190; refine (lxMark_any _ h0 _).mono ?_; rintro e w' ⟨rfl, rfl⟩))
      all_goals go_ret2
      all_goals exact ⟨by rw [H.out]; rfl, rfl⟩
theorem Lx.two_eq (s : ByteArray) (k : Nat) (h : k + 1 < s.size) (x y : Nat) (hx : x < 256) (hy : y < 256) : ((s.extract k (k + 2)).toList == [UInt8.ofNat x, UInt8.ofNat y]) = (decide (Lx.b s k = x) && decide (Lx.b s (k + 1) = y)) := by
 have h0 : k < s.size := by omega
 have e : (s.extract k (k + 2)).toList = [s[k], s[k + 1]] := by
  rw [Lib.toList_data, ByteArray.data_extract, Array.toList_extract, List.extract_eq_take_drop, Nm.drop_cons s k h0, Nm.drop_cons s (k + 1) h, show k + 2 - k = 2 by omega]
  rfl
 rw [e, ← Lx.b_lt h0, ← Lx.b_lt h, Bool.eq_iff_iff]
 have a1 := Lx.u8 s[k] x hx
 have a2 := Lx.u8 s[k + 1] y hy
 simp [a1, a2]
def Lx.remN (s : ByteArray) : Nat := match Lx.rem s.data.toList 0 with
 | none => 0
 | some r => s.size - r.length

set_option maxHeartbeats 1000000 in
theorem lxRemark_any (s : ByteArray) (ho : Lx.opens s.data.toList = true) (hs : s.size ≤ 4096) (w : World) : Calls Tryz.prog 117 #[.string s] w fun e w' => e = .returned (.int .i64 (Lx.remN s)) ∧ w' = w := by
 have ho2 : Lx.b s 0 = 40 ∧ Lx.b s 1 = 42 := by
  have := Lx.opens_at s 0
  rw [List.drop_zero, ho] at this
  simpa using this.symm
 have h12 : 1 < s.size := by
  rcases Nat.lt_or_ge 1 s.size with h | h
  ·
   exact h
  ·
   have := ho2.2; rw [Lx.b_ge (by omega)] at this; omega
 have hn0 : Hid (∀ k d, Lx.rem s.data.toList 0 = Lx.rem (s.data.toList.drop k) d → s.size ≤ k + 1 → Lx.remN s = 0) := by
  intro k d h h2
  unfold Lx.remN; rw [h, Lx.rem_end s k d h2]
 go_enter Tryz.func117, Tryz.ntmps117
 go_wp2
 go_step3
 go_wp2
 go_step3
 go_wp2
 go_loop [3, 4, 5] (fun u v x => ∃ k d : Nat, u = .int .i64 0 ∧ v = .int .i64 d ∧ x = .int .i64 k ∧ k ≤ s.size ∧ d ≤ k ∧ (k = 0 ∨ 1 ≤ d) ∧ Hid (Lx.rem s.data.toList 0 = Lx.rem (s.data.toList.drop k) d)) (fun u v x => s.size - (intOf x).toNat)
 case atStart => exact ⟨0, 0, rfl, rfl, rfl, Nat.zero_le _, Nat.zero_le _, .inl rfl, rfl⟩
 case round =>
  obtain ⟨k, d, rfl, rfl, rfl, hk, hdk, hd, hx⟩ := hrel
  by_cases hlt : k + 1 < s.size
  ·
   have hx2 := hx.out
   rw [Lx.rem_at s k d hlt] at hx2
   have t1 := Lx.two_eq s k hlt 40 42 (by decide) (by decide)
   have t2 := Lx.two_eq s k hlt 42 41 (by decide) (by decide)
   by_cases c1 : Lx.b s k = 40 ∧ Lx.b s (k + 1) = 42
   ·
    rw [if_pos c1] at hx2
    have HX : Hid (Lx.rem s.data.toList 0 = Lx.rem (s.data.toList.drop (k + 2)) (d + 1)) := hx2
    have t3 : ((s.extract k (k + 2)).toList == [40, 42]) = true := by rw [show ((s.extract k (k + 2)).toList == [40, 42]) = _ from t1, c1.1, c1.2]; rfl
    clear hx hx2 t1 t2 c1 hn0 ho2 ho
    go_wp2
    go_round
    case rel => exact ⟨k + 2, d + 1, rfl, by go_num, by go_num, by omega, by omega, by omega, HX⟩
    case measure => simp [intOf]; omega
   ·
    have t3 : ((s.extract k (k + 2)).toList == [40, 42]) = false := by
     rw [show ((s.extract k (k + 2)).toList == [40, 42]) = _ from t1]
     cases h : (decide (Lx.b s k = ((40 : Nat) : Int)) && decide (Lx.b s (k + 1) = ((42 : Nat) : Int))) with
     | false => rfl
     | true => exact absurd (by simpa using h) c1
    rw [if_neg c1] at hx2
    by_cases c2 : Lx.b s k = 42 ∧ Lx.b s (k + 1) = 41
    ·
     have t4 : ((s.extract k (k + 2)).toList == [42, 41]) = true := by rw [show ((s.extract k (k + 2)).toList == [42, 41]) = _ from t2, c2.1, c2.2]; rfl
     rw [if_pos c2] at hx2
     have hd1 : 1 ≤ d := by
      rcases hd with rfl | hd
      ·
       exact absurd ho2 c1
      ·
       exact hd
     by_cases hd2 : d ≤ 1
     ·
      rw [if_pos hd2] at hx2
      obtain rfl : d = 1 := by omega
      have HX : Hid (Lx.remN s = k + 2) := by
       show _ = _; unfold Lx.remN; rw [hx2]
       show s.size - (s.data.toList.drop (k + 2)).length = _
       rw [List.length_drop, Nm.len]; omega
      clear hx hx2 t1 t2 c1 c2 hn0 ho2 ho hd hd1 hd2
      go_wp2
      go_ret
      exact ⟨ret_int (by rw [HX.out]; go_num), rfl⟩
     ·
      rw [if_neg hd2] at hx2
      have HX : Hid (Lx.rem s.data.toList 0 = Lx.rem (s.data.toList.drop (k + 2)) (d - 1)) := hx2
      have hd3 : (d : Int) - 1 = ((d - 1 : Nat) : Int) := by omega
      have hd4 : 1 ≤ d - 1 := by omega
      have hd5 : d - 1 ≤ k := by omega
      clear hx hx2 t1 t2 c1 c2 hn0 ho2 ho hd hd1 hd2
      generalize d - 1 = r at *
      go_wp2
      go_round
      case rel => exact ⟨k + 2, r, rfl, by rw [← hd3], by go_num, by omega, by omega, by omega, HX⟩
      case measure => simp [intOf]; omega
    ·
     have t4 : ((s.extract k (k + 2)).toList == [42, 41]) = false := by
      rw [show ((s.extract k (k + 2)).toList == [42, 41]) = _ from t2]
      cases h : (decide (Lx.b s k = ((42 : Nat) : Int)) && decide (Lx.b s (k + 1) = ((41 : Nat) : Int))) with
      | false => rfl
      | true => exact absurd (by simpa using h) c2
     rw [if_neg c2] at hx2
     have HX : Hid (Lx.rem s.data.toList 0 = Lx.rem (s.data.toList.drop (k + 1)) d) := hx2
     have hd1 : 1 ≤ d := by
      rcases hd with rfl | hd
      ·
       exact absurd ho2 c1
      ·
       exact hd
     clear hx hx2 t1 t2 c1 c2 hn0 ho2 ho hd
     go_wp2
     go_round
     case rel => exact ⟨k + 1, d, rfl, rfl, by go_num, by omega, by omega, by omega, HX⟩
     case measure => simp [intOf]; omega
  ·
   have HX : Hid (Lx.remN s = 0) := hn0.out k d hx.out (by omega)
   clear hn0 hx ho2 ho
   go_wp2
   try rw [Exit.noGoto_ret]
   go_ret
   exact ⟨ret_int (by rw [HX.out]; rfl), rfl⟩

theorem lxPrefix0_any (s : ByteArray) (hs : s.size ≤ maxLen) (w : World) : Calls Tryz.prog 188 #[.string s, .string ⟨#[40, 42]⟩] w fun e w' => e = .returned (.bool (Lx.opens s.data.toList)) ∧ w' = w := by
 unfold maxLen at hs
 have ho := Lx.opens_at s 0
 rw [List.drop_zero] at ho
 by_cases h1 : 1 < s.size
 ·
  have t := Lx.two_eq s 0 (by omega) 40 42 (by decide) (by decide)
  have H : Hid (Lx.opens s.data.toList = ((s.extract 0 2).toList == [40, 42])) := by
   show _ = _; rw [ho]; exact t.symm
  clear ho t
  have h2 : 2 ≤ s.size := by omega
  cases hc : ((s.extract 0 2).toList == [40, 42]) with
  | true =>
   go_enter Tryz.func188, Tryz.ntmps188
   go_wp2
   go_ret
   exact ⟨ret_bool (by rw [H.out]; exact hc.symm), rfl⟩
  | false =>
   go_enter Tryz.func188, Tryz.ntmps188
   go_wp2
   go_ret
   exact ⟨ret_bool (by rw [H.out]; exact hc.symm), rfl⟩
 ·
  have H : Hid (Lx.opens s.data.toList = false) := by show _ = _; rw [ho, Lx.b_ge (k := 0 + 1) (by omega)]; simp
  clear ho
  go_enter Tryz.func188, Tryz.ntmps188
  go_wp2
  go_ret
  exact ⟨ret_bool H.out.symm, rfl⟩

theorem lxPrefix_any (s : ByteArray) (hs : s.size ≤ maxLen) (w : World) : Calls Tryz.prog 116 #[.string s, .string ⟨#[40, 42]⟩] w fun e w' => e = .returned (.bool (Lx.opens s.data.toList)) ∧ w' = w := by
 go_enter Tryz.func116, Tryz.ntmps116
 go_wp2_with (go_at_call 188; refine (lxPrefix0_any _ hs _).mono ?_; rintro e w' ⟨rfl, rfl⟩)
 go_ret
 exact ⟨rfl, rfl⟩

theorem Lx.rem_drop {l r : List UInt8} {d : Nat} (h : Lx.rem l d = some r) : r = l.drop (l.length - r.length) := by
 obtain ⟨q, e, -, -⟩ := Lx.rem_cut l d r h
 have : l.length - r.length = q.length := by rw [e, List.length_append]; omega
 rw [this, e, List.drop_left]

set_option maxHeartbeats 1000000 in
theorem lxSkip_any (s : ByteArray) (hs : s.size ≤ 4096) (w : World) : Calls Tryz.prog 68 #[.string s] w fun e w' => e = .returned (.tuple #[.int .i64 ((s.size - (Lx.skip s.data.toList).1.length : Nat) : Int), .bool (Lx.skip s.data.toList).2]) ∧ w' = w := by
 go_enter Tryz.func68, Tryz.ntmps68
 go_wp2
 go_loop [4] (fun x => ∃ k : Nat, x = .int .i64 k ∧ k ≤ s.size ∧ Hid (Lx.skip s.data.toList = Lx.skip (s.data.toList.drop k))) (fun x => s.size - (intOf x).toNat)
 case atStart => exact ⟨0, rfl, Nat.zero_le _, rfl⟩
 case round =>
  obtain ⟨k, rfl, hk, hx⟩ := hrel
  by_cases hlt : k < s.size
  ·
   have hx2 := hx.out
   rw [Lx.skip_at s k hlt] at hx2
   have hb := Lx.b_lt hlt
   cases hbl : Lx.blank (Lx.b s k) with
   | true =>
    rw [if_pos hbl] at hx2
    have HX : Hid (Lx.skip s.data.toList = Lx.skip (s.data.toList.drop (k + 1))) := hx2
    clear hx hx2
    go_wp2_with (go_at_call 115; refine (lxBlank_any _ _).mono ?_; rintro e w' ⟨rfl, rfl⟩)
    go_round
    case rel => exact ⟨k + 1, by go_num, by omega, HX⟩
    case measure => simp [intOf]; omega
   | false =>
    rw [if_neg (by rw [hbl]; simp), ← Lx.opens_at] at hx2
    have hsz := Lx.rest_size s k
    have hso : Lx.opens (s.extract k s.size).data.toList = Lx.opens (s.data.toList.drop k) := by rw [Lx.rest]
    have hs4 : (s.extract k s.size).size ≤ 4096 := by rw [hsz]; omega
    have hsm : (s.extract k s.size).size ≤ maxLen := by rw [hsz]; unfold maxLen; omega
    cases ho : Lx.opens (s.data.toList.drop k) with
    | false =>
     rw [if_neg (by rw [ho]; simp)] at hx2
     have HX : Hid (Lx.skip s.data.toList = (s.data.toList.drop k, true)) := hx2
     rw [ho] at hso
     clear hx hx2 ho hsz
     go_wp2_with (first | (go_at_call 115; refine (lxBlank_any _ _).mono ?_; rintro e w' ⟨rfl, rfl⟩) | (go_at_call 116; refine (lxPrefix_any _ hsm _).mono ?_; rw [hso]; rintro e w' ⟨rfl, rfl⟩))
     go_ret2
     refine ⟨?_, rfl⟩
     rw [HX.out]
     show _ = Ending.returned (.tuple #[.int .i64 ((s.size - (s.data.toList.drop k).length : Nat) : Int), .bool true])
     rw [List.length_drop, Nm.len, show s.size - (s.size - k) = k by omega]; rfl
    | true =>
     rw [if_pos ho] at hx2
     rw [ho] at hso
     cases hR : Lx.rem (s.data.toList.drop k) 0 with
     | none =>
      rw [hR] at hx2
      have HX : Hid (Lx.skip s.data.toList = (s.data.toList.drop k, false)) := hx2
      have hn : Lx.remN (s.extract k s.size) = 0 := by unfold Lx.remN; rw [Lx.rest, hR]
      clear hx hx2 ho hsz hR
      go_wp2_with (first | (go_at_call 115; refine (lxBlank_any _ _).mono ?_; rintro e w' ⟨rfl, rfl⟩) | (go_at_call 116; refine (lxPrefix_any _ hsm _).mono ?_; rw [hso]; rintro e w' ⟨rfl, rfl⟩) | (go_at_call 117; refine (lxRemark_any _ hso hs4 _).mono ?_; rw [hn]; rintro e w' ⟨rfl, rfl⟩))
      go_ret2
      refine ⟨?_, rfl⟩
      rw [HX.out]
      show _ = Ending.returned (.tuple #[.int .i64 ((s.size - (s.data.toList.drop k).length : Nat) : Int), .bool false])
      rw [List.length_drop, Nm.len, show s.size - (s.size - k) = k by omega]; rfl
     | some r =>
      rw [hR] at hx2
      have hlen := Lx.rem_lt _ _ _ hR
      rw [List.length_drop, Nm.len] at hlen
      have hr := Lx.rem_drop hR
      rw [List.length_drop, Nm.len, List.drop_drop, show k + (s.size - k - r.length) = s.size - r.length by omega] at hr
      have hn : Lx.remN (s.extract k s.size) = s.size - r.length - k := by unfold Lx.remN; rw [Lx.rest, hR]; show _ - r.length = _; rw [hsz]; omega
      have HX : Hid (Lx.skip s.data.toList = Lx.skip (s.data.toList.drop (s.size - r.length))) := by show _ = _; rw [← hr]; exact hx2
      have hj1 : k + 2 ≤ s.size - r.length := by omega
      have hj2 : s.size - r.length ≤ s.size := by omega
      clear hx hx2 ho hsz hR hr hlen
      generalize s.size - r.length = j at *
      have hj3 : ¬ (((j - k : Nat) : Int) = 0) := by omega
      go_wp2_with (first | (go_at_call 115; refine (lxBlank_any _ _).mono ?_; rintro e w' ⟨rfl, rfl⟩) | (go_at_call 116; refine (lxPrefix_any _ hsm _).mono ?_; rw [hso]; rintro e w' ⟨rfl, rfl⟩) | (go_at_call 117; refine (lxRemark_any _ hso hs4 _).mono ?_; rw [hn]; rintro e w' ⟨rfl, rfl⟩))
      go_round
      case rel => exact ⟨j, by go_num, hj2, HX⟩
      case measure => simp [intOf]; omega
  ·
   have HX : Hid (Lx.skip s.data.toList = ([], true)) := by
    show _ = _
    rw [hx.out, List.drop_eq_nil_of_le (by rw [Nm.len]; omega)]; exact Lx.skip_nil
   clear hx
   go_wp2
   go_ret2
   refine ⟨?_, rfl⟩
   rw [HX.out]; rfl
set_option maxRecDepth 100000 in
set_option maxHeartbeats 2000000 in
theorem reserved_any (s : ByteArray) (w : World) : Calls Tryz.prog 121 #[.string s] w fun e w' => e = .returned (.bool (Nm.reserved s)) ∧ w' = w := by
 go_enter Tryz.func121, Tryz.ntmps121
 go_wp2
 all_goals go_ret
 all_goals refine ⟨ret_bool ?_, rfl⟩
 all_goals (unfold Nm.reserved; simp only [Lib.toList_data] at *)
 all_goals (first | (simp_all [Nm.words]; done) | skip)
end Go.Proofs.YtjebepnphoeiaaaGreatDoor
namespace Go.Proofs
open Go.Shelf
def Tryz.laysC174_ren : Go.Shelf.Ren := ⟨fun | 174 => 120 | 247 => 191 | 245 => 192 | 287 => 233 | 279 => 234 | 280 => 235 | 281 => 236 | 282 => 237 | 321 => 254 | 322 => 255 | 316 => 256 | 171 => 258 | 205 => 257 | 243 => 265 | 246 => 275 | 283 => 278 | 284 => 279 | 285 => 280 | 286 => 281 | 129 => 283 | 317 => 282 | 318 => 284 | 319 => 285 | 320 => 286 | 337 => 287 | 338 => 288 | n => n, fun | 9 => 9 | 3 => 3 | 2 => 2 | 75 => 149 | 85 => 150 | 4 => 4 | 167 => 228 | 5 => 5 | 53 => 227 | 175 => 229 | 46 => 231 | 168 => 232 | 37 => 153 | 0 => 0 | 210 => 255 | 21 => 21 | 127 => 200 | 145 => 266 | 143 => 264 | 171 => 274 | 173 => 277 | 212 => 281 | 51 => 282 | 20 => 20 | 213 => 283 | 232 => 286 | 233 => 287 | 80 => 92 | n => n, fun | 15 => 0 | 16 => 1 | 17 => 3 | 18 => 4 | 19 => 5 | n => n⟩
theorem Tryz.laysC174 : Go.Proofs.LaysC.n174 Tryz.prog Tryz.laysC174_ren := {
 mixed := by kernel_rfl
 f129 := Tryz.func283.trans (congrArg some (by kernel_rfl))
 f171 := Tryz.func258.trans (congrArg some (by kernel_rfl))
 f174 := Tryz.func120.trans (congrArg some (by kernel_rfl))
 f205 := Tryz.func257.trans (congrArg some (by kernel_rfl))
 f243 := Tryz.func265.trans (congrArg some (by kernel_rfl))
 f245 := Tryz.func192.trans (congrArg some (by kernel_rfl))
 f246 := Tryz.func275.trans (congrArg some (by kernel_rfl))
 f247 := Tryz.func191.trans (congrArg some (by kernel_rfl))
 f279 := Tryz.func234.trans (congrArg some (by kernel_rfl))
 f280 := Tryz.func235.trans (congrArg some (by kernel_rfl))
 f281 := Tryz.func236.trans (congrArg some (by kernel_rfl))
 f282 := Tryz.func237.trans (congrArg some (by kernel_rfl))
 f283 := Tryz.func278.trans (congrArg some (by kernel_rfl))
 f284 := Tryz.func279.trans (congrArg some (by kernel_rfl))
 f285 := Tryz.func280.trans (congrArg some (by kernel_rfl))
 f286 := Tryz.func281.trans (congrArg some (by kernel_rfl))
 f287 := Tryz.func233.trans (congrArg some (by kernel_rfl))
 f316 := Tryz.func256.trans (congrArg some (by kernel_rfl))
 f317 := Tryz.func282.trans (congrArg some (by kernel_rfl))
 f318 := Tryz.func284.trans (congrArg some (by kernel_rfl))
 f319 := Tryz.func285.trans (congrArg some (by kernel_rfl))
 f320 := Tryz.func286.trans (congrArg some (by kernel_rfl))
 f321 := Tryz.func254.trans (congrArg some (by kernel_rfl))
 f322 := Tryz.func255.trans (congrArg some (by kernel_rfl))
 f337 := Tryz.func287.trans (congrArg some (by kernel_rfl))
 f338 := Tryz.func288.trans (congrArg some (by kernel_rfl))
 t0 := Tryz.underlying0
 a0 := Tryz.isAgg0
 z0 := Tryz.sizeOf0
 v0 := Tryz.zeroValue0
 t2 := Tryz.underlying2
 a2 := Tryz.isAgg2
 z2 := Tryz.sizeOf2
 v2 := Tryz.zeroValue2
 t3 := Tryz.underlying3
 a3 := Tryz.isAgg3
 z3 := Tryz.sizeOf3
 v3 := Tryz.zeroValue3
 t4 := Tryz.underlying4
 a4 := Tryz.isAgg4
 z4 := Tryz.sizeOf4
 v4 := Tryz.zeroValue4
 t5 := Tryz.underlying5
 a5 := Tryz.isAgg5
 z5 := Tryz.sizeOf5
 v5 := Tryz.zeroValue5
 t9 := Tryz.underlying9
 a9 := Tryz.isAgg9
 z9 := Tryz.sizeOf9
 v9 := Tryz.zeroValue9
 t20 := Tryz.underlying20
 a20 := Tryz.isAgg20
 z20 := Tryz.sizeOf20
 v20 := Tryz.zeroValue20
 t21 := Tryz.underlying21
 a21 := Tryz.isAgg21
 z21 := Tryz.sizeOf21
 v21 := Tryz.zeroValue21
 t37 := Tryz.underlying153
 a37 := Tryz.isAgg153
 z37 := Tryz.sizeOf153
 v37 := Tryz.zeroValue153
 t46 := Tryz.underlying231
 a46 := Tryz.isAgg231
 z46 := Tryz.sizeOf231
 v46 := Tryz.zeroValue231
 t51 := Tryz.underlying282
 a51 := Tryz.isAgg282
 z51 := Tryz.sizeOf282
 v51 := Tryz.zeroValue282
 t53 := Tryz.underlying227
 a53 := Tryz.isAgg227
 z53 := Tryz.sizeOf227
 v53 := Tryz.zeroValue227
 t75 := Tryz.underlying149
 a75 := Tryz.isAgg149
 z75 := Tryz.sizeOf149
 v75 := Tryz.zeroValue149
 t85 := Tryz.underlying150
 a85 := Tryz.isAgg150
 z85 := Tryz.sizeOf150
 v85 := Tryz.zeroValue150
 t127 := Tryz.underlying200
 a127 := Tryz.isAgg200
 z127 := Tryz.sizeOf200
 v127 := Tryz.zeroValue200
 t143 := Tryz.underlying264
 a143 := Tryz.isAgg264
 z143 := Tryz.sizeOf264
 v143 := Tryz.zeroValue264
 t145 := Tryz.underlying266
 a145 := Tryz.isAgg266
 z145 := Tryz.sizeOf266
 v145 := Tryz.zeroValue266
 t167 := Tryz.underlying228
 a167 := Tryz.isAgg228
 z167 := Tryz.sizeOf228
 v167 := Tryz.zeroValue228
 t168 := Tryz.underlying232
 a168 := Tryz.isAgg232
 z168 := Tryz.sizeOf232
 v168 := Tryz.zeroValue232
 t171 := Tryz.underlying274
 a171 := Tryz.isAgg274
 z171 := Tryz.sizeOf274
 v171 := Tryz.zeroValue274
 t173 := Tryz.underlying277
 a173 := Tryz.isAgg277
 z173 := Tryz.sizeOf277
 v173 := Tryz.zeroValue277
 t175 := Tryz.underlying229
 a175 := Tryz.isAgg229
 z175 := Tryz.sizeOf229
 v175 := Tryz.zeroValue229
 t210 := Tryz.underlying255
 a210 := Tryz.isAgg255
 z210 := Tryz.sizeOf255
 v210 := Tryz.zeroValue255
 t212 := Tryz.underlying281
 a212 := Tryz.isAgg281
 z212 := Tryz.sizeOf281
 v212 := Tryz.zeroValue281
 t213 := Tryz.underlying283
 a213 := Tryz.isAgg283
 z213 := Tryz.sizeOf283
 t232 := Tryz.underlying286
 a232 := Tryz.isAgg286
 z232 := Tryz.sizeOf286
 v232 := Tryz.zeroValue286
 t233 := Tryz.underlying287
 a233 := Tryz.isAgg287
 z233 := Tryz.sizeOf287
 v233 := Tryz.zeroValue287
 g15 := by kernel_rfl
 g16 := by kernel_rfl
 g17 := by kernel_rfl
 g18 := by kernel_rfl
 g19 := by kernel_rfl
 t80 := Tryz.underlying92
 a80 := Tryz.isAgg92
 z80 := Tryz.sizeOf92
 v80 := Tryz.zeroValue92
 i0 := by kernel_rfl
 i2 := by kernel_rfl
 i3 := by kernel_rfl
 i4 := by kernel_rfl
 i5 := by kernel_rfl
 i9 := by kernel_rfl
 i20 := by kernel_rfl
 i21 := by kernel_rfl
 i37 := by kernel_rfl
 i46 := by kernel_rfl
 i51 := by kernel_rfl
 i53 := by kernel_rfl
 i75 := by kernel_rfl
 i80 := by kernel_rfl
 i85 := by kernel_rfl
 i127 := by kernel_rfl
 i143 := by kernel_rfl
 i145 := by kernel_rfl
 i167 := by kernel_rfl
 i168 := by kernel_rfl
 i171 := by kernel_rfl
 i173 := by kernel_rfl
 i175 := by kernel_rfl
 i210 := by kernel_rfl
 i212 := by kernel_rfl
 i232 := by kernel_rfl
 i233 := by kernel_rfl
 m15 := by kernel_rfl
 m16 := by kernel_rfl
 m17 := by kernel_rfl
 m18 := by kernel_rfl
 m19 := by kernel_rfl
 c0 := by kernel_rfl
 c2 := by kernel_rfl
 c3 := by kernel_rfl
 c4 := by kernel_rfl
 c5 := by kernel_rfl
 c9 := by kernel_rfl
 c20 := by kernel_rfl
 c21 := by kernel_rfl
 c37 := by kernel_rfl
 c46 := by kernel_rfl
 c51 := by kernel_rfl
 c53 := by kernel_rfl
 c75 := by kernel_rfl
 c80 := by kernel_rfl
 c85 := by kernel_rfl
 c127 := by kernel_rfl
 c143 := by kernel_rfl
 c145 := by kernel_rfl
 c167 := by kernel_rfl
 c168 := by kernel_rfl
 c171 := by kernel_rfl
 c173 := by kernel_rfl
 c175 := by kernel_rfl
 c210 := by kernel_rfl
 c212 := by kernel_rfl
 c213 := by kernel_rfl
 c232 := by kernel_rfl
 c233 := by kernel_rfl }
open Go.RowKit in
theorem Tryz.strconv_ParseInt_10_at64_ok (s : ByteArray) (hmax : s.size ≤ 9223372036854775806) (v : Int) (h : Lib.parseIntB 64 s.data.toList = .ok v) (w : World) :
  Calls Tryz.prog 120 #[.string s, .int .i64 10, .int .i64 64] w fun e w' => e = .returned (.tuple #[.int .i64 v, .nilIface]) ∧ (w' = w ∨ ∃ t, w' = Lib.bytesWorld w 5 t) := Any.strconv_ParseInt_10_at64_ok Tryz.laysC174 s hmax v h w
open Go.RowKit in
theorem Tryz.strconv_ParseInt_10_at64_range (s : ByteArray) (hlim : s.size ≤ 281474976710656) (h : Lib.parseIntB 64 s.data.toList = .range) (ev : Value) (w : World) (hv : w.cell? ⟨1, 0, none⟩ = some ev) (hev : ev = .nilIface ∨ ∃ te pe, ev = .iface te pe) :
  Calls Tryz.prog 120 #[.string s, .int .i64 10, .int .i64 64] w fun e w' => ∃ N, e = .returned (.tuple #[.int .i64 (Lib.intSat 64 s.data.toList), .iface 232 (.pointer (some ⟨N, 0, none⟩))]) ∧ w.heap.size ≤ N ∧ w'.heap[N]? = some (.cells #[.string ⟨#[80, 97, 114, 115, 101, 73, 110, 116]⟩, .string s, ev] 255 (0, 0)) ∧ Below w.heap.size w w' := Any.strconv_ParseInt_10_at64_range Tryz.laysC174 s hlim h ev w hv hev
end Go.Proofs
