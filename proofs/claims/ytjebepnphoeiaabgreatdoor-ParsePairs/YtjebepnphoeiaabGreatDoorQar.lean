/- Pieces: NdN NdF0 Spelt Right Path Tyvar NdF. -/
import Derived.Test.YtjebepnphoeiaabGreatDoorQaq
import Derived.Laws.StructEq
import Derived.Test.YtjebepnphoeiaabGreatDoorQaa
import Derived.Test.YtjebepnphoeiaabGreatDoorQad
namespace Go.Proofs.YtjebepnphoeiaabGreatDoor
open Go.RowKit
set_option linter.unusedVariables false

def Nd.meter (l : List Nd) : Mst := Nd.runL l ⟨0, 0, 0⟩
theorem Mt.start (w : World) (o : Obj) : Mt ((w.alloc o).alloc (.cells #[.int .i64 0, .int .i64 0, .int .i64 0] 86)) (w.heap.size + 1) ⟨0, 0, 0⟩ := by
 refine ⟨?_, ?_, ?_, ?_, ?_, ?_⟩
 all_goals simp [go_sem]
theorem Save.frozen {M : Nat} {w w' : World} (h : Save M w w') {p : Addr} (hp : p.block ≠ M) : w'.frozen? p = w.frozen? p := World.frozen?_of_block (w := w) (h.block p.block hp)





structure Sh where
 op : Int := 0
 n : Int := 0
 name : ByteArray := ⟨#[]⟩
 path : Int := 0
 params : Int := 0
 pats : Int := 0
 kids : Int := 0
 decs : Int := 0
 tys : Int := 0
 exps : Int := 0
 cons : Int := 0
 mods : Int := 0
 sigs : Int := 0
 specs : Int := 0
deriving DecidableEq
def Sh.val (h : Sh) : Value := .agg #[.int .i64 h.op, .int .i64 h.n, .string h.name, .int .i64 h.path, .int .i64 h.params, .int .i64 h.pats, .int .i64 h.kids, .int .i64 h.decs, .int .i64 h.tys, .int .i64 h.exps, .int .i64 h.cons, .int .i64 h.mods, .int .i64 h.sigs, .int .i64 h.specs]

def outc (e : Int) : Ending := if e = 0 then .returned (.tuple #[]) else .panicked [{ v := .iface 29 (.int .i64 e), recovered := false }]

theorem outc_zero : outc 0 = .returned (.tuple #[]) := rfl
theorem outc_err {e : Int} (h : e ≠ 0) : outc e = .panicked [{ v := .iface 29 (.int .i64 e), recovered := false }] := by unfold outc; rw [if_neg h]
theorem pn_any (T : TypeId) (v : Value) (w : World) : (Instr.panic (.iface T v)).run Tryz.prog w = .halt (.panic (.iface T v)) w := rfl

set_option maxHeartbeats 1000000 in
set_option maxRecDepth 100000 in
theorem fit_ok (h : Sh) (w : World) : Calls Tryz.prog 76 #[h.val, h.val] w fun e w' => e = .returned (.tuple #[]) ∧ Below w.heap.size w w' := by
 unfold Sh.val
 go_enter Tryz.func76, Tryz.ntmps76
 go_wp2
 go_end0
 exact ⟨rfl, bl_alloc (bl_alloc (Below.refl _ _) _) _⟩

theorem Sh.of_eqs {h g : Sh} (e0 : h.op = g.op) (e1 : h.n = g.n) (e2 : h.name.toList = g.name.toList) (e3 : h.path = g.path) (e4 : h.params = g.params) (e5 : h.pats = g.pats) (e6 : h.kids = g.kids) (e7 : h.decs = g.decs) (e8 : h.tys = g.tys) (e9 : h.exps = g.exps) (e10 : h.cons = g.cons) (e11 : h.mods = g.mods) (e12 : h.sigs = g.sigs) (e13 : h.specs = g.specs) : h = g := by
 have e2' : h.name = g.name := by
  have := Nm.str_eq h.name g.name
  rw [e2, beq_self_eq_true] at this
  exact of_decide_eq_true this.symm
 obtain ⟨a0, a1, a2, a3, a4, a5, a6, a7, a8, a9, a10, a11, a12, a13⟩ := h
 obtain ⟨b0, b1, b2, b3, b4, b5, b6, b7, b8, b9, b10, b11, b12, b13⟩ := g
 simp only at *
 subst e0; subst e1; subst e2'; subst e3; subst e4; subst e5; subst e6; subst e7; subst e8; subst e9; subst e10; subst e11; subst e12; subst e13
 rfl

set_option maxHeartbeats 1000000 in
set_option maxRecDepth 100000 in
theorem fit_bad (hh gg : Sh) (hne : hh ≠ gg) (w : World) : Calls Tryz.prog 76 #[hh.val, gg.val] w fun e w' => e = outc 1 ∧ Below w.heap.size w w' := by
 have H : Hid (hh ≠ gg) := hne
 clear hne
 have hp := pn_any
 unfold Sh.val
 go_enter Tryz.func76, Tryz.ntmps76
 go_wp2
 all_goals first | exact ⟨rfl, rfl, bl_alloc (bl_alloc (Below.refl _ _) _) _⟩ | exact (H.out (Sh.of_eqs (by assumption) (by assumption) (by assumption) (by assumption) (by assumption) (by assumption) (by assumption) (by assumption) (by assumption) (by assumption) (by assumption) (by assumption) (by assumption) (by assumption))).elim

theorem Nm.empty_of {s : ByteArray} (h : s.size = 0) : s = ⟨#[]⟩ := by
 have e : s.data.toList = [] := List.eq_nil_of_length_eq_zero (by rw [Nm.len]; exact h)
 rw [show s = ⟨s.data⟩ from rfl]; congr 1; exact Array.toList_inj.1 e
theorem Nm.not_empty {s : ByteArray} (h : 0 < s.size) : (s.toList == []) = false := by
 rw [beq_eq_false_iff_ne, Lib.toList_data]
 intro e
 have := Nm.len s
 rw [e] at this
 simp at this; omega

set_option maxHeartbeats 1000000 in
theorem spelt_any (s : ByteArray) (hs : s.size ≤ maxLen) (w : World) : Calls Tryz.prog 119 #[.string s] w fun e w' => e = .returned (.bool (Nm.spelt s)) ∧ w' = w := by
 unfold maxLen at hs
 rcases Nat.eq_zero_or_pos s.size with h0 | h0
 ·
  obtain rfl := Nm.empty_of h0
  go_enter Tryz.func119, Tryz.ntmps119
  go_wp2
  go_ret
  exact ⟨rfl, rfl⟩
 ·
  have he := Nm.not_empty h0
  cases hl0 : Nm.letter (s[0].toNat : Int) with
  | false =>
   have H : Hid (Nm.spelt s = false) := Nm.spelt_head h0 hl0
   go_enter Tryz.func119, Tryz.ntmps119
   go_wp2_with (go_at_call 129; refine (letter_any _ _).mono ?_; rintro e w' ⟨rfl, rfl⟩)
   go_ret
   exact ⟨ret_bool H.out.symm, rfl⟩
  | true =>
   have H : Hid (Nm.spelt s = (s.data.toList.drop 1).all fun b => Nm.body (b.toNat : Int)) := by show _ = _; rw [Nm.spelt_eq s h0, hl0]; rfl
   go_enter Tryz.func119, Tryz.ntmps119
   go_wp2_with (go_at_call 129; refine (letter_any _ _).mono ?_; rintro e w' ⟨rfl, rfl⟩)
   go_loop [3] (fun v => ∃ k : Nat, v = .int .i64 k ∧ 1 ≤ k ∧ k ≤ s.size ∧ Hid (Nm.spelt s = (s.data.toList.drop k).all fun b => Nm.body (b.toNat : Int))) (fun v => s.size - (intOf v).toNat)
   case atStart => exact ⟨1, rfl, Nat.le_refl _, h0, H⟩
   case round =>
    obtain ⟨k, rfl, hk1, hk, hx⟩ := hrel
    clear hl0 H
    by_cases hlt : k < s.size
    ·
     have hx2 := hx.out
     rw [Nm.all_at s _ k hlt] at hx2
     have hbd : Nm.body (s[k].toNat : Int) = (Nm.letter (s[k].toNat : Int) || Nm.dig (s[k].toNat : Int) || decide ((s[k].toNat : Int) = 95)) := rfl
     cases hl : Nm.letter (s[k].toNat : Int) with
     | true =>
      have HX : Hid (Nm.spelt s = (s.data.toList.drop (k + 1)).all fun b => Nm.body (b.toNat : Int)) := by show _ = _; rw [hx2, hbd, hl]; simp
      clear hx hx2 hbd
      go_wp2_with (first | (go_at_call 129; refine (letter_any _ _).mono ?_; rintro e w' ⟨rfl, rfl⟩) | (go_at_call 109; refine (digit_any _ _).mono ?_; rintro e w' ⟨rfl, rfl⟩))
      go_round
      case rel => exact ⟨k + 1, by go_num, by omega, by omega, HX⟩
      case measure => simp [intOf]; omega
     | false =>
      cases hd : Nm.dig (s[k].toNat : Int) with
      | true =>
       have HX : Hid (Nm.spelt s = (s.data.toList.drop (k + 1)).all fun b => Nm.body (b.toNat : Int)) := by show _ = _; rw [hx2, hbd, hl, hd]; simp
       clear hx hx2 hbd
       go_wp2_with (first | (go_at_call 129; refine (letter_any _ _).mono ?_; rintro e w' ⟨rfl, rfl⟩) | (go_at_call 109; refine (digit_any _ _).mono ?_; rintro e w' ⟨rfl, rfl⟩))
       go_round
       case rel => exact ⟨k + 1, by go_num, by omega, by omega, HX⟩
       case measure => simp [intOf]; omega
      | false =>
       by_cases h95 : (s[k].toNat : Int) = 95
       ·
        have HX : Hid (Nm.spelt s = (s.data.toList.drop (k + 1)).all fun b => Nm.body (b.toNat : Int)) := by show _ = _; rw [hx2, hbd, hl, hd]; simp [h95]
        have h95' : ((s[k].toNat : Int) == 95) = true := by rw [h95]; rfl
        clear hx hx2 hbd h95
        go_wp2_with (first | (go_at_call 129; refine (letter_any _ _).mono ?_; rintro e w' ⟨rfl, rfl⟩) | (go_at_call 109; refine (digit_any _ _).mono ?_; rintro e w' ⟨rfl, rfl⟩))
        go_round
        case rel => exact ⟨k + 1, by go_num, by omega, by omega, HX⟩
        case measure => simp [intOf]; omega
       ·
        have HX : Hid (Nm.spelt s = false) := by show _ = _; rw [hx2, hbd, hl, hd]; simp [h95]
        have h95' : ((s[k].toNat : Int) == 95) = false := by rw [beq_eq_false_iff_ne]; exact h95
        clear hx hx2 hbd h95
        go_wp2_with (first | (go_at_call 129; refine (letter_any _ _).mono ?_; rintro e w' ⟨rfl, rfl⟩) | (go_at_call 109; refine (digit_any _ _).mono ?_; rintro e w' ⟨rfl, rfl⟩))
        go_ret
        exact ⟨ret_bool HX.out.symm, rfl⟩
    ·
     have HX : Hid (Nm.spelt s = true) := by show _ = _; rw [hx.out, Nm.all_end s _ k (by omega)]
     clear hx
     go_wp2
     go_ret
     exact ⟨ret_bool HX.out.symm, rfl⟩
theorem Nm.right_spelt {s : ByteArray} (h : Nm.spelt s = false) : Nm.right s = 12 := by unfold Nm.right; rw [if_pos h]
theorem Nm.right_big {s : ByteArray} (h : Nm.spelt s = true) (hb : 32 < s.size) : Nm.right s = 3 := by unfold Nm.right; rw [if_neg (by simp [h]), if_pos hb]
theorem Nm.right_word {s : ByteArray} (h : Nm.spelt s = true) (hb : ¬ 32 < s.size) (hr : Nm.reserved s = true) : Nm.right s = 12 := by unfold Nm.right; rw [if_neg (by simp [h]), if_neg hb, if_pos hr]
theorem Nm.right_ok {s : ByteArray} (h : Nm.spelt s = true) (hb : ¬ 32 < s.size) (hr : Nm.reserved s = false) : Nm.right s = 0 := by unfold Nm.right; rw [if_neg (by simp [h]), if_neg hb, if_neg (by simp [hr])]
theorem Nm.right_zero {s : ByteArray} (h : Nm.right s = 0) : Nm.spelt s = true ∧ s.size ≤ 32 ∧ Nm.reserved s = false := by
 cases h1 : Nm.spelt s with
 | false => rw [Nm.right_spelt h1] at h; omega
 | true =>
  by_cases h2 : 32 < s.size
  ·
   rw [Nm.right_big h1 h2] at h; omega
  ·
   cases h3 : Nm.reserved s with
   | true => rw [Nm.right_word h1 h2 h3] at h; omega
   | false => exact ⟨rfl, by omega, rfl⟩

theorem right_any (s : ByteArray) (hs : s.size ≤ maxLen) (w : World) : Calls Tryz.prog 105 #[.string s] w fun e w' => e = .returned (.int .i64 (Nm.right s)) ∧ w' = w := by
 have hs' := hs
 unfold maxLen at hs'
 cases h1 : Nm.spelt s with
 | false =>
  have H : Hid (Nm.right s = 12) := Nm.right_spelt h1
  go_enter Tryz.func105, Tryz.ntmps105
  go_wp2_with (go_at_call 119; refine (spelt_any _ hs _).mono ?_; rintro e w' ⟨rfl, rfl⟩)
  go_ret
  exact ⟨ret_int H.out.symm, rfl⟩
 | true =>
  by_cases h2 : 32 < s.size
  ·
   have H : Hid (Nm.right s = 3) := Nm.right_big h1 h2
   go_enter Tryz.func105, Tryz.ntmps105
   go_wp2_with (go_at_call 119; refine (spelt_any _ hs _).mono ?_; rintro e w' ⟨rfl, rfl⟩)
   go_ret
   exact ⟨ret_int H.out.symm, rfl⟩
  ·
   cases h3 : Nm.reserved s with
   | true =>
    have H : Hid (Nm.right s = 12) := Nm.right_word h1 h2 h3
    go_enter Tryz.func105, Tryz.ntmps105
    go_wp2_with (first | (go_at_call 119; refine (spelt_any _ hs _).mono ?_; rintro e w' ⟨rfl, rfl⟩) | (go_at_call 98; refine (reserved_any _ _).mono ?_; rintro e w' ⟨rfl, rfl⟩))
    go_ret
    exact ⟨ret_int H.out.symm, rfl⟩
   | false =>
    have H : Hid (Nm.right s = 0) := Nm.right_ok h1 h2 h3
    go_enter Tryz.func105, Tryz.ntmps105
    go_wp2_with (first | (go_at_call 119; refine (spelt_any _ hs _).mono ?_; rintro e w' ⟨rfl, rfl⟩) | (go_at_call 98; refine (reserved_any _ _).mono ?_; rintro e w' ⟨rfl, rfl⟩))
    go_ret
    exact ⟨ret_int H.out.symm, rfl⟩

theorem lower_any (s : ByteArray) (hs : s.size ≤ maxLen) (w : World) : Calls Tryz.prog 78 #[.string s] w fun e w' => e = .returned (.bool (Nm.lower s)) ∧ w' = w := by
 by_cases h : Nm.right s = 0
 ·
  have h0 := Nm.spelt_pos (Nm.right_zero h).1
  have hs' := hs
  unfold maxLen at hs'
  have H : Hid (Nm.lower s = Nm.low (s[0].toNat : Int)) := by show _ = _; unfold Nm.lower; rw [Nm.head_eq s h0, decide_eq_true h]; rfl
  have hr : (Nm.right s == 0) = true := by rw [h]; rfl
  clear h
  go_enter Tryz.func78, Tryz.ntmps78
  go_wp2_with (first | (go_at_call 105; refine (right_any _ hs _).mono ?_; rintro e w' ⟨rfl, rfl⟩) | (go_at_call 106; refine (small_any _ _).mono ?_; rintro e w' ⟨rfl, rfl⟩))
  go_ret
  exact ⟨ret_bool H.out.symm, rfl⟩
 ·
  have H : Hid (Nm.lower s = false) := by show _ = _; unfold Nm.lower; rw [decide_eq_false h]; rfl
  have hr : (Nm.right s == 0) = false := by rw [beq_eq_false_iff_ne]; exact h
  clear h
  go_enter Tryz.func78, Tryz.ntmps78
  go_wp2_with (first | (go_at_call 105; refine (right_any _ hs _).mono ?_; rintro e w' ⟨rfl, rfl⟩) | (go_at_call 106; refine (small_any _ _).mono ?_; rintro e w' ⟨rfl, rfl⟩))
  go_ret
  exact ⟨ret_bool H.out.symm, rfl⟩

theorem upper_any (s : ByteArray) (hs : s.size ≤ maxLen) (w : World) : Calls Tryz.prog 79 #[.string s] w fun e w' => e = .returned (.bool (Nm.upper s)) ∧ w' = w := by
 by_cases h : Nm.right s = 0
 ·
  have h0 := Nm.spelt_pos (Nm.right_zero h).1
  have hs' := hs
  unfold maxLen at hs'
  have H : Hid (Nm.upper s = Nm.high (s[0].toNat : Int)) := by show _ = _; unfold Nm.upper; rw [Nm.head_eq s h0, decide_eq_true h]; rfl
  have hr : (Nm.right s == 0) = true := by rw [h]; rfl
  clear h
  go_enter Tryz.func79, Tryz.ntmps79
  go_wp2_with (first | (go_at_call 105; refine (right_any _ hs _).mono ?_; rintro e w' ⟨rfl, rfl⟩) | (go_at_call 107; refine (capital_any _ _).mono ?_; rintro e w' ⟨rfl, rfl⟩))
  go_ret
  exact ⟨ret_bool H.out.symm, rfl⟩
 ·
  have H : Hid (Nm.upper s = false) := by show _ = _; unfold Nm.upper; rw [decide_eq_false h]; rfl
  have hr : (Nm.right s == 0) = false := by rw [beq_eq_false_iff_ne]; exact h
  clear h
  go_enter Tryz.func79, Tryz.ntmps79
  go_wp2_with (first | (go_at_call 105; refine (right_any _ hs _).mono ?_; rintro e w' ⟨rfl, rfl⟩) | (go_at_call 107; refine (capital_any _ _).mono ?_; rintro e w' ⟨rfl, rfl⟩))
  go_ret
  exact ⟨ret_bool H.out.symm, rfl⟩

def Nm.pathL : List ByteArray → Int
 | [] => 0
 | x :: r => if Nm.right x ≠ 0 then Nm.right x else if r ≠ [] ∧ Nm.high (Nm.head x) = false then 12 else Nm.pathL r
def Nm.path (xs : List ByteArray) : Int := if xs.length = 0 then 1 else if 8 < xs.length then 3 else Nm.pathL xs

theorem Nm.drop_at {α : Type} {xs : List α} {k : Nat} {x : α} (h : xs[k]? = some x) : xs.drop k = x :: xs.drop (k + 1) := by
 obtain ⟨h1, h2⟩ := List.getElem?_eq_some_iff.1 h
 rw [List.drop_eq_getElem_cons h1, h2]

set_option maxHeartbeats 1000000 in
theorem path_any (v : Value) (xs : List ByteArray) (w : World) (hv : Strs w v xs) (hx : ∀ x, x ∈ xs → x.size ≤ maxLen) (hl : xs.length ≤ maxLen) :
  Calls Tryz.prog 104 #[v] w fun e w' => e = .returned (.int .i64 (Nm.path xs)) ∧ w' = w := by
 unfold maxLen at hl
 by_cases h0 : xs.length = 0
 ·
  obtain ⟨p1, c1, rfl⟩ : ∃ p1 c1, v = .slice p1 0 c1 := by
   rcases hv with ⟨b2, o2, c2, rfl, hc2⟩ | ⟨rfl, p, c, rfl⟩
   ·
    exact ⟨_, _, by rw [h0]⟩
   ·
    exact ⟨_, _, rfl⟩
  have H : Hid (Nm.path xs = 1) := by show _ = _; unfold Nm.path; rw [if_pos h0]
  clear hx hv
  go_enter Tryz.func104, Tryz.ntmps104
  go_wp2
  go_ret
  exact ⟨ret_int H.out.symm, rfl⟩
 ·
  obtain ⟨b, o, c, rfl, hc⟩ : ∃ b o c, v = .slice (some ⟨b, o, none⟩) xs.length c ∧ ∀ (j : Nat) x, xs[j]? = some x → w.cell? ⟨b, o + j, none⟩ = some (.string x) := by
   rcases hv with h | ⟨rfl, _⟩
   ·
    exact h
   ·
    exact absurd rfl h0
  have h0' : ((xs.length : Int) == 0) = false := by rw [beq_eq_false_iff_ne]; omega
  by_cases h8 : 8 < xs.length
  ·
   have H : Hid (Nm.path xs = 3) := by show _ = _; unfold Nm.path; rw [if_neg h0, if_pos h8]
   clear hx hc h0
   go_enter Tryz.func104, Tryz.ntmps104
   go_wp2
   go_ret
   exact ⟨ret_int H.out.symm, rfl⟩
  ·
   have H : Hid (Nm.path xs = Nm.pathL (xs.drop 0)) := by show _ = _; unfold Nm.path; rw [if_neg h0, if_neg h8]; rfl
   go_enter Tryz.func104, Tryz.ntmps104
   go_wp2
   go_loop [20] (fun v => ∃ k : Nat, v = .int .i64 k ∧ k ≤ xs.length ∧ Hid (Nm.path xs = Nm.pathL (xs.drop k))) (fun v => xs.length - (intOf v).toNat)
   case atStart => exact ⟨0, rfl, Nat.zero_le _, H⟩
   case round =>
    obtain ⟨k, rfl, hk, hp⟩ := hrel
    clear H
    by_cases hlt : k < xs.length
    ·
     obtain ⟨x, hxk⟩ : ∃ x, xs[k]? = some x := ⟨_, List.getElem?_eq_getElem hlt⟩
     have hxm : x.size ≤ maxLen := hx x (List.mem_of_getElem? hxk)
     have d := hc k x hxk
     have hp2 := hp.out
     rw [Nm.drop_at hxk, Nm.pathL] at hp2
     by_cases hr : Nm.right x = 0
     ·
      have hpos := Nm.spelt_pos (Nm.right_zero hr).1
      have hhd := Nm.head_eq x hpos
      have hr' : (Nm.right x == 0) = true := by rw [hr]; rfl
      rw [if_neg (by simpa using hr), hhd] at hp2
      by_cases hla : k + 1 < xs.length
      ·
       have hne : xs.drop (k + 1) ≠ [] := by intro e; have := congrArg List.length e; simp at this; omega
       cases hh : Nm.high (x[0].toNat : Int) with
       | true =>
        have HX : Hid (Nm.path xs = Nm.pathL (xs.drop (k + 1))) := by show _ = _; rw [hp2, if_neg (by simp [hh])]
        clear hp hp2 hc hx hne hxk hhd hr h0
        go_wp2_with (first | (go_at_call 105; refine (right_any _ hxm _).mono ?_; rintro e w' ⟨rfl, rfl⟩) | (go_at_call 107; refine (capital_any _ _).mono ?_; rintro e w' ⟨rfl, rfl⟩))
        go_round
        case rel => exact ⟨k + 1, by go_num, by omega, HX⟩
        case measure => simp [intOf]; omega
       | false =>
        have HX : Hid (Nm.path xs = 12) := by show _ = _; rw [hp2, if_pos ⟨hne, hh⟩]
        clear hp hp2 hc hx hne hxk hhd hr h0
        go_wp2_with (first | (go_at_call 105; refine (right_any _ hxm _).mono ?_; rintro e w' ⟨rfl, rfl⟩) | (go_at_call 107; refine (capital_any _ _).mono ?_; rintro e w' ⟨rfl, rfl⟩))
        go_ret
        exact ⟨ret_int HX.out.symm, rfl⟩
      ·
       have he : xs.drop (k + 1) = [] := List.drop_eq_nil_of_le (by omega)
       have HX : Hid (Nm.path xs = Nm.pathL (xs.drop (k + 1))) := by show _ = _; rw [hp2, if_neg (by simp [he])]
       have hlast : ¬ ((k : Int) < (xs.length : Int) - 1) := by omega
       clear hp hp2 hc hx hxk hhd hr h0 he
       go_wp2_with (go_at_call 105; refine (right_any _ hxm _).mono ?_; rintro e w' ⟨rfl, rfl⟩)
       go_round
       case rel => exact ⟨k + 1, by go_num, by omega, HX⟩
       case measure => simp [intOf]; omega
     ·
      have HX : Hid (Nm.path xs = Nm.right x) := by show _ = _; rw [hp2, if_pos hr]
      have hr' : (Nm.right x == 0) = false := by rw [beq_eq_false_iff_ne]; exact hr
      clear hp hp2 hc hx hxk hr h0
      go_wp2_with (go_at_call 105; refine (right_any _ hxm _).mono ?_; rintro e w' ⟨rfl, rfl⟩)
      go_ret
      exact ⟨ret_int HX.out.symm, rfl⟩
    ·
     have HX : Hid (Nm.path xs = 0) := by show _ = _; rw [hp.out, List.drop_eq_nil_of_le (by omega)]; rfl
     clear hp hc hx h0
     go_wp2
     go_ret
     exact ⟨ret_int HX.out.symm, rfl⟩
set_option maxHeartbeats 1000000 in
theorem tyvar_any (s : ByteArray) (hs : s.size ≤ maxLen) (w : World) : Calls Tryz.prog 86 #[.string s] w fun e w' => e = .returned (.bool (Nm.tyvar s)) ∧ w' = w := by
 unfold maxLen at hs
 rcases Nat.eq_zero_or_pos s.size with h0 | h0
 ·
  obtain rfl := Nm.empty_of h0
  go_enter Tryz.func86, Tryz.ntmps86
  go_wp2
  go_ret
  exact ⟨rfl, rfl⟩
 ·
  have he := Nm.not_empty h0
  by_cases h31 : 31 < s.size
  ·
   have H : Hid (Nm.tyvar s = false) := by show _ = _; rw [Nm.tyvar_eq s h0, decide_eq_false (by omega)]; rfl
   go_enter Tryz.func86, Tryz.ntmps86
   go_wp2
   go_ret
   exact ⟨ret_bool H.out.symm, rfl⟩
  cases hl0 : Nm.low (s[0].toNat : Int) with
  | false =>
   have H : Hid (Nm.tyvar s = false) := by show _ = _; rw [Nm.tyvar_eq s h0, hl0]; simp
   go_enter Tryz.func86, Tryz.ntmps86
   go_wp2_with (first | (go_at_call 106; refine (small_any _ _).mono ?_; rintro e w' ⟨rfl, rfl⟩) | (go_at_call 109; refine (digit_any _ _).mono ?_; rintro e w' ⟨rfl, rfl⟩))
   go_ret
   exact ⟨ret_bool H.out.symm, rfl⟩
  | true =>
   have H : Hid (Nm.tyvar s = (s.data.toList.drop 1).all fun b => Nm.low (b.toNat : Int) || Nm.dig (b.toNat : Int)) := by show _ = _; rw [Nm.tyvar_eq s h0, hl0, decide_eq_true (by omega)]; rfl
   go_enter Tryz.func86, Tryz.ntmps86
   go_wp2_with (first | (go_at_call 106; refine (small_any _ _).mono ?_; rintro e w' ⟨rfl, rfl⟩) | (go_at_call 109; refine (digit_any _ _).mono ?_; rintro e w' ⟨rfl, rfl⟩))
   go_loop [3] (fun v => ∃ k : Nat, v = .int .i64 k ∧ 1 ≤ k ∧ k ≤ s.size ∧ Hid (Nm.tyvar s = (s.data.toList.drop k).all fun b => Nm.low (b.toNat : Int) || Nm.dig (b.toNat : Int))) (fun v => s.size - (intOf v).toNat)
   case atStart => exact ⟨1, rfl, Nat.le_refl _, h0, H⟩
   case round =>
    obtain ⟨k, rfl, hk1, hk, hx⟩ := hrel
    clear hl0 H
    by_cases hlt : k < s.size
    ·
     have hx2 := hx.out
     rw [Nm.all_at s _ k hlt] at hx2
     cases hl : Nm.low (s[k].toNat : Int) with
     | true =>
      have HX : Hid (Nm.tyvar s = (s.data.toList.drop (k + 1)).all fun b => Nm.low (b.toNat : Int) || Nm.dig (b.toNat : Int)) := by show _ = _; rw [hx2, hl]; simp
      clear hx hx2
      go_wp2_with (first | (go_at_call 106; refine (small_any _ _).mono ?_; rintro e w' ⟨rfl, rfl⟩) | (go_at_call 109; refine (digit_any _ _).mono ?_; rintro e w' ⟨rfl, rfl⟩))
      go_round
      case rel => exact ⟨k + 1, by go_num, by omega, by omega, HX⟩
      case measure => simp [intOf]; omega
     | false =>
      cases hd : Nm.dig (s[k].toNat : Int) with
      | true =>
       have HX : Hid (Nm.tyvar s = (s.data.toList.drop (k + 1)).all fun b => Nm.low (b.toNat : Int) || Nm.dig (b.toNat : Int)) := by show _ = _; rw [hx2, hl, hd]; simp
       clear hx hx2
       go_wp2_with (first | (go_at_call 106; refine (small_any _ _).mono ?_; rintro e w' ⟨rfl, rfl⟩) | (go_at_call 109; refine (digit_any _ _).mono ?_; rintro e w' ⟨rfl, rfl⟩))
       go_round
       case rel => exact ⟨k + 1, by go_num, by omega, by omega, HX⟩
       case measure => simp [intOf]; omega
      | false =>
       have HX : Hid (Nm.tyvar s = false) := by show _ = _; rw [hx2, hl, hd]; simp
       clear hx hx2
       go_wp2_with (first | (go_at_call 106; refine (small_any _ _).mono ?_; rintro e w' ⟨rfl, rfl⟩) | (go_at_call 109; refine (digit_any _ _).mono ?_; rintro e w' ⟨rfl, rfl⟩))
       go_ret
       exact ⟨ret_bool HX.out.symm, rfl⟩
    ·
     have HX : Hid (Nm.tyvar s = true) := by show _ = _; rw [hx.out, Nm.all_end s _ k (by omega)]
     clear hx
     go_wp2
     go_ret
     exact ⟨ret_bool HX.out.symm, rfl⟩
def Nd.nameE (s : ByteArray) (b : Bool) : Int := if b = true then 0 else if Nm.right s = 0 then 12 else Nm.right s
def Nd.last (xs : List ByteArray) : ByteArray := xs.getD (xs.length - 1) ⟨#[]⟩
def Nd.pathE (xs : List ByteArray) (f : ByteArray → Bool) : Int := if Nm.path xs = 0 then Nd.nameE (Nd.last xs) (f (Nd.last xs)) else Nm.path xs
def Nd.given (xs : List ByteArray) : Bool := decide (xs = [⟨#[105, 110, 116]⟩]) || decide (xs = [⟨#[98, 111, 111, 108]⟩]) || decide (xs = [⟨#[117, 110, 105, 116]⟩])
def Enters (f : FuncId) : Prop := ∀ (args : Array Value) (w : World), (callFunc f args).run Tryz.prog w = .ok (.enter f args) w
theorem enters_of {f : FuncId} {fn : Func} {c : Code} (hf : Tryz.prog.funcs[f]? = some fn) (hname : (fn.name == "runtime.NumGoroutine") = false) (hb : fn.body = some c) : Enters f := by
 intro args w
 have h1 : fn.name ≠ "runtime.NumGoroutine" := by simpa using hname
 simp [callFunc, hf, h1, hb]
def SortOf (f : FuncId) (g : ByteArray → Bool) : Prop := Enters f ∧ ∀ (s : ByteArray) (w : World), s.size ≤ maxLen → Calls Tryz.prog f #[.string s] w fun e w' => e = .returned (.bool (g s)) ∧ w' = w

theorem named_any (s : ByteArray) (hs : s.size ≤ maxLen) (f : FuncId) (g : ByteArray → Bool) (hf : SortOf f g) (w : World) :
  Calls Tryz.prog 81 #[.string s, .func (.func f) #[] #[]] w fun e w' => e = outc (Nd.nameE s (g s)) ∧ w' = w := by
 have q := hf.2 s w hs
 have en := hf.1
 unfold Enters at en
 have r := right_any s hs w
 have hp := pn_any
 clear hf hs
 cases hg : g s with
 | true =>
  have H : Hid (outc (Nd.nameE s true) = .returned (.tuple #[])) := rfl
  rw [hg] at q
  clear r
  go_enter Tryz.func81, Tryz.ntmps81
  go_wp2_with (refine q.mono ?_; rintro e w1 ⟨rfl, hw⟩; rw [hw]; clear hw w1)
  refine bodyPost_ret (results_none rfl _ _ _) rfl ?_
  exact ⟨H.out.symm, rfl⟩
 | false =>
  rw [hg] at q
  by_cases h0 : Nm.right s = 0
  ·
   have H : Hid (outc (Nd.nameE s false) = .panicked [{ v := .iface 29 (.int .i64 12), recovered := false }]) := by
    show _ = _
    unfold Nd.nameE
    rw [if_neg (by simp), if_pos h0]
    exact outc_err (by decide)
   rw [h0] at r
   clear h0
   go_enter Tryz.func81, Tryz.ntmps81
   go_wp2_with (first | (go_at_call 105; refine r.mono ?_; rintro e w1 ⟨rfl, hw⟩; rw [hw]; clear hw w1) | (refine q.mono ?_; rintro e w1 ⟨rfl, hw⟩; rw [hw]; clear hw w1))
   exact ⟨rfl, H.out.symm, rfl⟩
  ·
   have H : Hid (outc (Nd.nameE s false) = .panicked [{ v := .iface 29 (.int .i64 (Nm.right s)), recovered := false }]) := by
    show _ = _
    unfold Nd.nameE
    rw [if_neg (by simp), if_neg h0]
    exact outc_err h0
   go_enter Tryz.func81, Tryz.ntmps81
   go_wp2_with (first | (go_at_call 105; refine r.mono ?_; rintro e w1 ⟨rfl, hw⟩; rw [hw]; clear hw w1) | (refine q.mono ?_; rintro e w1 ⟨rfl, hw⟩; rw [hw]; clear hw w1))
   exact ⟨rfl, H.out.symm, rfl⟩

theorem Nm.path_pos {xs : List ByteArray} (h : Nm.path xs = 0) : 0 < xs.length := by
 unfold Nm.path at h
 by_cases h0 : xs.length = 0
 ·
  rw [if_pos h0] at h; exact absurd h (by decide)
 ·
  omega

theorem pathed_any (v : Value) (xs : List ByteArray) (w : World) (hv : Strs w v xs) (hx : ∀ x, x ∈ xs → x.size ≤ maxLen) (hl : xs.length ≤ maxLen) (f : FuncId) (g : ByteArray → Bool) (hf : SortOf f g) :
  Calls Tryz.prog 77 #[v, .func (.func f) #[] #[]] w fun e w' => e = outc (Nd.pathE xs g) ∧ w' = w := by
 have r := path_any v xs w hv hx hl
 have hp := pn_any
 by_cases h0 : Nm.path xs = 0
 ·
  have hpos := Nm.path_pos h0
  obtain ⟨b, o, c, rfl, hc⟩ : ∃ b o c, v = .slice (some ⟨b, o, none⟩) xs.length c ∧ ∀ (j : Nat) x, xs[j]? = some x → w.cell? ⟨b, o + j, none⟩ = some (.string x) := by
   rcases hv with h | ⟨rfl, _⟩
   ·
    exact h
   ·
    exact absurd hpos (by simp)
  have hlast : xs[xs.length - 1]? = some (Nd.last xs) := by
   unfold Nd.last
   rw [List.getD_eq_getElem?_getD, List.getElem?_eq_getElem (by omega)]
   rfl
  have hm := hx _ (List.mem_of_getElem? hlast)
  have hcell := hc _ _ hlast
  have q := named_any (Nd.last xs) hm f g hf w
  have H : Hid (Nd.pathE xs g = Nd.nameE (Nd.last xs) (g (Nd.last xs))) := by
   show _ = _
   unfold Nd.pathE
   rw [if_pos h0]
  rw [h0] at r
  unfold maxLen at hl
  obtain ⟨k, hk⟩ : ∃ k, k = xs.length - 1 := ⟨_, rfl⟩
  rw [← hk] at hcell
  have hk1 : (xs.length : Int) - 1 = (k : Int) := by omega
  have hk2 : k < xs.length := by omega
  have HK : Hid (k = xs.length - 1) := hk
  clear hk hlast hm hc hx hv h0 hf
  by_cases he : Nd.nameE (Nd.last xs) (g (Nd.last xs)) = 0
  ·
   rw [he, outc_zero] at q
   have H2 : Hid (outc (Nd.pathE xs g) = .returned (.tuple #[])) := by show _ = _; rw [H.out, he]; rfl
   clear he H
   go_enter Tryz.func77, Tryz.ntmps77
   go_wp2_with (first | (go_at_call 104; refine r.mono ?_; rintro e w1 ⟨rfl, hw⟩; rw [hw]; clear hw w1) | (go_at_call 81; refine q.mono ?_; rintro e w1 ⟨rfl, hw⟩; rw [hw]; clear hw w1))
   go_end0
   exact ⟨H2.out.symm, rfl⟩
  ·
   rw [outc_err he] at q
   have H2 : Hid (outc (Nd.pathE xs g) = .panicked [{ v := .iface 29 (.int .i64 (Nd.nameE (Nd.last xs) (g (Nd.last xs)))), recovered := false }]) := by show _ = _; rw [H.out]; exact outc_err he
   clear he H
   go_enter Tryz.func77, Tryz.ntmps77
   go_wp2_with (first | (go_at_call 104; refine r.mono ?_; rintro e w1 ⟨rfl, hw⟩; rw [hw]; clear hw w1) | (go_at_call 81; refine q.mono ?_; rintro e w1 ⟨rfl, hw⟩; rw [hw]; clear hw w1))
   exact ⟨rfl, H2.out.symm, rfl⟩
 ·
  have H : Hid (outc (Nd.pathE xs g) = .panicked [{ v := .iface 29 (.int .i64 (Nm.path xs)), recovered := false }]) := by
   show _ = _
   unfold Nd.pathE
   rw [if_neg h0]
   exact outc_err h0
  clear hx hv hf
  go_enter Tryz.func77, Tryz.ntmps77
  go_wp2_with (go_at_call 104; refine r.mono ?_; rintro e w1 ⟨rfl, hw⟩; rw [hw]; clear hw w1)
  exact ⟨rfl, H.out.symm, rfl⟩

theorem given_any (v : Value) (xs : List ByteArray) (w : World) (hv : Strs w v xs) (hl : xs.length ≤ maxLen) :
  Calls Tryz.prog 87 #[v] w fun e w' => e = .returned (.bool (Nd.given xs)) ∧ w' = w := by
 unfold maxLen at hl
 by_cases h1 : xs.length = 1
 ·
  match xs, h1 with
  | [x], _ =>
   obtain ⟨b, o, c, rfl, hc⟩ : ∃ b o c, v = .slice (some ⟨b, o, none⟩) 1 c ∧ ∀ (j : Nat) y, [x][j]? = some y → w.cell? ⟨b, o + j, none⟩ = some (.string y) := by
    rcases hv with h | ⟨h, _⟩
    ·
     exact h
    ·
     cases h
   have h0 : w.cell? ⟨b, o, none⟩ = some (.string x) := hc 0 x rfl
   have e1 := Nm.str_eq x ⟨#[105, 110, 116]⟩
   have e2 := Nm.str_eq x ⟨#[98, 111, 111, 108]⟩
   have e3 := Nm.str_eq x ⟨#[117, 110, 105, 116]⟩
   clear hc hv hl
   by_cases g1 : x = ⟨#[105, 110, 116]⟩
   ·
    subst g1
    go_enter Tryz.func87, Tryz.ntmps87
    go_wp2
    go_ret
    exact ⟨rfl, rfl⟩
   ·
    by_cases g2 : x = ⟨#[98, 111, 111, 108]⟩
    ·
     subst g2
     go_enter Tryz.func87, Tryz.ntmps87
     go_wp2
     go_ret
     exact ⟨rfl, rfl⟩
    ·
     by_cases g3 : x = ⟨#[117, 110, 105, 116]⟩
     ·
      subst g3
      go_enter Tryz.func87, Tryz.ntmps87
      go_wp2
      go_ret
      exact ⟨rfl, rfl⟩
     ·
      rw [decide_eq_false g1, show (⟨#[105, 110, 116]⟩ : ByteArray).toList = [105, 110, 116] by rw [Lib.toList_data]] at e1
      rw [decide_eq_false g2, show (⟨#[98, 111, 111, 108]⟩ : ByteArray).toList = [98, 111, 111, 108] by rw [Lib.toList_data]] at e2
      rw [decide_eq_false g3, show (⟨#[117, 110, 105, 116]⟩ : ByteArray).toList = [117, 110, 105, 116] by rw [Lib.toList_data]] at e3
      have H : Hid (Nd.given [x] = false) := by show _ = _; unfold Nd.given; simp [g1, g2, g3]
      clear g1 g2 g3
      go_enter Tryz.func87, Tryz.ntmps87
      go_wp2
      go_ret
      exact ⟨ret_bool H.out.symm, rfl⟩
 ·
  have H : Hid (Nd.given xs = false) := by
   show _ = _
   unfold Nd.given
   have a1 : ∀ y : ByteArray, ¬ xs = [y] := fun y e => h1 (by rw [e]; rfl)
   rw [decide_eq_false (a1 _), decide_eq_false (a1 _), decide_eq_false (a1 _)]
   rfl
  obtain ⟨p1, c1, rfl⟩ : ∃ p1 c1, v = .slice p1 xs.length c1 := by
   rcases hv with ⟨b2, o2, c2, rfl, hc2⟩ | ⟨rfl, p, c, rfl⟩
   ·
    exact ⟨_, _, rfl⟩
   ·
    exact ⟨_, _, rfl⟩
  have h2 : ((xs.length : Int) == 1) = false := by rw [beq_eq_false_iff_ne]; omega
  clear hv h1
  go_enter Tryz.func87, Tryz.ntmps87
  go_wp2
  go_ret
  exact ⟨ret_bool H.out.symm, rfl⟩
end Go.Proofs.YtjebepnphoeiaabGreatDoor
