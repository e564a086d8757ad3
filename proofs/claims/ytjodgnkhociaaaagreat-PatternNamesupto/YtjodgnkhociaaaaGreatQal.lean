/- What Path comes to. tree.RightPat of (x, 1) and of (x, x). -/
import Derived.BigRegion
import Derived.Defers
import Derived.Recover
import Derived.Test.YtjodgnkhociaaaaGreatQai
import Derived.Test.YtjodgnkhociaaaaGreatQak
import Derived.Test.YtjodgnkhociaaaaGreatQah
import Derived.Test.YtjodgnkhociaaaaGreatQaa
namespace Go.Proofs.YtjodgnkhociaaaaGreat.Tre
open Go.RowKit
set_option linter.unusedVariables false

def Nm.pathL : List ByteArray → Int
  | [] => 0
  | x :: r => if Nm.right x ≠ 0 then Nm.right x else if r ≠ [] ∧ Nm.high (Nm.head x) = false then 12 else Nm.pathL r
def Nm.path (xs : List ByteArray) : Int := if xs.length = 0 then 1 else if 8 < xs.length then 3 else Nm.pathL xs

theorem Nm.drop_at {α : Type} {xs : List α} {k : Nat} {x : α} (h : xs[k]? = some x) : xs.drop k = x :: xs.drop (k + 1) := by
  obtain ⟨h1, h2⟩ := List.getElem?_eq_some_iff.1 h
  rw [List.drop_eq_getElem_cons h1, h2]

set_option maxHeartbeats 1000000 in
theorem path_any (v : Value) (xs : List ByteArray) (w : World) (hv : Strs w v xs) (hx : ∀ x, x ∈ xs → x.size ≤ maxLen) (hl : xs.length ≤ maxLen) :
    Calls Tryz.prog 72 #[v] w fun e w' => e = .returned (.int .i64 (Nm.path xs)) ∧ w' = w := by
  unfold maxLen at hl
  by_cases h0 : xs.length = 0
  · obtain ⟨p1, c1, rfl⟩ : ∃ p1 c1, v = .slice p1 0 c1 := by
      rcases hv with ⟨b2, o2, c2, rfl, hc2⟩ | ⟨rfl, p, c, rfl⟩
      · exact ⟨_, _, by rw [h0]⟩
      · exact ⟨_, _, rfl⟩
    have H : Hid (Nm.path xs = 1) := by show _ = _; unfold Nm.path; rw [if_pos h0]
    clear hx hv
    go_enter Tryz.func72, Tryz.ntmps72
    go_wp2
    go_ret
    exact ⟨ret_int H.out.symm, rfl⟩
  · obtain ⟨b, o, c, rfl, hc⟩ : ∃ b o c, v = .slice (some ⟨b, o, none⟩) xs.length c ∧ ∀ (j : Nat) x, xs[j]? = some x → w.cell? ⟨b, o + j, none⟩ = some (.string x) := by
      rcases hv with h | ⟨rfl, _⟩
      · exact h
      · exact absurd rfl h0
    have h0' : ((xs.length : Int) == 0) = false := by rw [beq_eq_false_iff_ne]; omega
    by_cases h8 : 8 < xs.length
    · have H : Hid (Nm.path xs = 3) := by show _ = _; unfold Nm.path; rw [if_neg h0, if_pos h8]
      clear hx hc h0
      go_enter Tryz.func72, Tryz.ntmps72
      go_wp2
      go_ret
      exact ⟨ret_int H.out.symm, rfl⟩
    · have H : Hid (Nm.path xs = Nm.pathL (xs.drop 0)) := by show _ = _; unfold Nm.path; rw [if_neg h0, if_neg h8]; rfl
      go_enter Tryz.func72, Tryz.ntmps72
      go_wp2
      go_loop [20] (fun v => ∃ k : Nat, v = .int .i64 k ∧ k ≤ xs.length ∧ Hid (Nm.path xs = Nm.pathL (xs.drop k))) (fun v => xs.length - (intOf v).toNat)
      case atStart => exact ⟨0, rfl, Nat.zero_le _, H⟩
      case round =>
        obtain ⟨k, rfl, hk, hp⟩ := hrel
        clear H
        by_cases hlt : k < xs.length
        · obtain ⟨x, hxk⟩ : ∃ x, xs[k]? = some x := ⟨_, List.getElem?_eq_getElem hlt⟩
          have hxm : x.size ≤ maxLen := hx x (List.mem_of_getElem? hxk)
          have d := hc k x hxk
          have hp2 := hp.out
          rw [Nm.drop_at hxk, Nm.pathL] at hp2
          by_cases hr : Nm.right x = 0
          · have hpos := Nm.spelt_pos (Nm.right_zero hr).1
            have hhd := Nm.head_eq x hpos
            have hr' : (Nm.right x == 0) = true := by rw [hr]; rfl
            rw [if_neg (by simpa using hr), hhd] at hp2
            by_cases hla : k + 1 < xs.length
            · have hne : xs.drop (k + 1) ≠ [] := by intro e; have := congrArg List.length e; simp at this; omega
              cases hh : Nm.high (x[0].toNat : Int) with
              | true =>
                have HX : Hid (Nm.path xs = Nm.pathL (xs.drop (k + 1))) := by show _ = _; rw [hp2, if_neg (by simp [hh])]
                clear hp hp2 hc hx hne hxk hhd hr h0
                go_wp2_with (first | (go_at_call 70; refine (right_any _ hxm _).mono ?_; rintro e w' ⟨rfl, rfl⟩) | (go_at_call 73; refine (capital_any _ _).mono ?_; rintro e w' ⟨rfl, rfl⟩))
                go_round
                case rel => exact ⟨k + 1, by go_num, by omega, HX⟩
                case measure => simp [intOf]; omega
              | false =>
                have HX : Hid (Nm.path xs = 12) := by show _ = _; rw [hp2, if_pos ⟨hne, hh⟩]
                clear hp hp2 hc hx hne hxk hhd hr h0
                go_wp2_with (first | (go_at_call 70; refine (right_any _ hxm _).mono ?_; rintro e w' ⟨rfl, rfl⟩) | (go_at_call 73; refine (capital_any _ _).mono ?_; rintro e w' ⟨rfl, rfl⟩))
                go_ret
                exact ⟨ret_int HX.out.symm, rfl⟩
            · have he : xs.drop (k + 1) = [] := List.drop_eq_nil_of_le (by omega)
              have HX : Hid (Nm.path xs = Nm.pathL (xs.drop (k + 1))) := by show _ = _; rw [hp2, if_neg (by simp [he])]
              have hlast : ¬ ((k : Int) < (xs.length : Int) - 1) := by omega
              clear hp hp2 hc hx hxk hhd hr h0 he
              go_wp2_with (go_at_call 70; refine (right_any _ hxm _).mono ?_; rintro e w' ⟨rfl, rfl⟩)
              go_round
              case rel => exact ⟨k + 1, by go_num, by omega, HX⟩
              case measure => simp [intOf]; omega
          · have HX : Hid (Nm.path xs = Nm.right x) := by show _ = _; rw [hp2, if_pos hr]
            have hr' : (Nm.right x == 0) = false := by rw [beq_eq_false_iff_ne]; exact hr
            clear hp hp2 hc hx hxk hr h0
            go_wp2_with (go_at_call 70; refine (right_any _ hxm _).mono ?_; rintro e w' ⟨rfl, rfl⟩)
            go_ret
            exact ⟨ret_int HX.out.symm, rfl⟩
        · have HX : Hid (Nm.path xs = 0) := by show _ = _; rw [hp.out, List.drop_eq_nil_of_le (by omega)]; rfl
          clear hp hc hx h0
          go_wp2
          go_ret
          exact ⟨ret_int HX.out.symm, rfl⟩
end Go.Proofs.YtjodgnkhociaaaaGreat.Tre

namespace Go.Proofs.YtjodgnkhociaaaaGreat
open Go.RowKit
set_option linter.unusedVariables false
set_option linter.unusedSimpArgs false

abbrev PT5 : TypeId := 25
def bx : ByteArray := ⟨#[120]⟩
theorem fitS (op n : Int) (name : ByteArray) (path params pats kids decs tys exps cons mods sigs specs : Int) (w : World) : Calls Tryz.prog 55 #[.agg #[.int .i64 op, .int .i64 n, .string name, .int .i64 path, .int .i64 params, .int .i64 pats, .int .i64 kids, .int .i64 decs, .int .i64 tys, .int .i64 exps, .int .i64 cons, .int .i64 mods, .int .i64 sigs, .int .i64 specs], .agg #[.int .i64 op, .int .i64 n, .string name, .int .i64 path, .int .i64 params, .int .i64 pats, .int .i64 kids, .int .i64 decs, .int .i64 tys, .int .i64 exps, .int .i64 cons, .int .i64 mods, .int .i64 sigs, .int .i64 specs]] w fun e w' => e = .returned (.tuple #[]) ∧ Below w.heap.size w w' := Tre.fit_ok ⟨op, n, name, path, params, pats, kids, decs, tys, exps, cons, mods, sigs, specs⟩ w
theorem lower_x (w : World) : Calls Tryz.prog 57 #[.string bx] w fun e w' => e = .returned (.bool true) ∧ w' = w := Tre.lower_any bx (by decide) w
theorem enters_lower : Enters 57 := enters_of Tryz.func57 (by kernel_rfl) rfl
set_option maxRecDepth 100000 in
theorem named_x (w : World) : Calls Tryz.prog 56 #[.string bx, .func (.func 57) #[] #[]] w fun e w' => e = .returned (.tuple #[]) ∧ w' = w := by
  have en := enters_lower
  unfold Enters at en
  go_enter Tryz.func56, Tryz.ntmps56
  go_wp2_with (go_at_call 57; refine (lower_x _).mono ?_; rintro e w' ⟨rfl, rfl⟩)
  first | go_end0 | refine bodyPost_end (results_none rfl _ _ _) rfl ?_ | refine bodyPost_ret (results_none rfl _ _ _) rfl ?_
  exact ⟨rfl, rfl⟩
set_option maxRecDepth 100000 in
theorem each_none (w : World) (g : FuncId) (fs bs : Array Value) (p : Option Addr) (c : Nat) : Calls Tryz.prog 43 #[.slice p 0 c, .func (.func g) fs bs] w fun e w' => e = .returned (.tuple #[]) ∧ w' = w := by
  go_enter Tryz.func43, Tryz.ntmps43
  go_wp2
  refine wp_loop_rounds 1 ?_
  rw [rounds_succ]
  go_wp2
  first | refine bodyPost_end (results_none rfl _ _ _) rfl ?_ | refine bodyPost_ret (results_none rfl _ _ _) rfl ?_
  exact ⟨rfl, rfl⟩
set_option maxRecDepth 100000 in
theorem each_two (w : World) (g : FuncId) (fs bs : Array Value) (en : Enters g) (K : Nat) (Q1 Q2 : World → Prop) (R1 : Calls Tryz.prog g (fs.push (.pointer (some ⟨K, 0, none⟩)) ++ bs) w fun e w' => e = .returned (.tuple #[]) ∧ Q1 w') (R2 : ∀ w1, Q1 w1 → Calls Tryz.prog g (fs.push (.pointer (some ⟨K, 5, none⟩)) ++ bs) w1 fun e w' => e = .returned (.tuple #[]) ∧ Q2 w') :
    Calls Tryz.prog 43 #[.slice (some ⟨K, 0, none⟩) 2 2, .func (.func g) fs bs] w fun e w' => e = .returned (.tuple #[]) ∧ Q2 w' := by
  unfold Enters at en
  have H1 := hid R1
  have H2 := hid R2
  clear R1 R2
  go_enter Tryz.func43, Tryz.ntmps43
  go_wp2
  refine wp_loop_rounds 3 ?_
  rw [rounds_succ]
  go_wp2_with (refine H1.out.mono ?_; rintro e w1 ⟨rfl, q1⟩; have J1 := hid q1; clear q1)
  rw [rounds_succ]
  go_wp2_with (refine (H2.out _ J1.out).mono ?_; rintro e w2 ⟨rfl, q2⟩; have J2 := hid q2; clear q2)
  rw [rounds_succ]
  go_wp2
  first | refine bodyPost_end (results_none rfl _ _ _) rfl ?_ | refine bodyPost_ret (results_none rfl _ _ _) rfl ?_
  exact ⟨rfl, J2.out⟩
/-- A leaf: its cells. -/
def Leaf5 (w : World) (b o : Nat) (k : Int) (s : ByteArray) (n : Int) : Prop := Cells w b o [.int .i64 k, .string s, .slice none 0 0, .int .i64 n, .slice none 0 0] ∧ b < w.heap.size
theorem Leaf5.stays {w w' : World} {b o : Nat} {k : Int} {s : ByteArray} {n : Int} (h : Leaf5 w b o k s n) (hb : Below w.heap.size w w') : Leaf5 w' b o k s n := ⟨fun j v hv => (hb.cell h.2).trans (h.1 j v hv), Nat.lt_of_lt_of_le h.2 hb.size⟩
set_option maxHeartbeats 4000000 in
set_option maxRecDepth 100000 in
theorem right_var (w : World) (b o : Nat) (h : Leaf5 w b o 2 bx 0) : Calls Tryz.prog 39 #[.pointer (some ⟨b, o, none⟩)] w fun e w' => e = .returned (.tuple #[]) ∧ Below w.heap.size w w' := by
  have hb := h.2
  have d0 : w.cell? ⟨b, o, none⟩ = some (.int .i64 2) := h.1 0 _ rfl
  have d1 := h.1 1 _ rfl
  have d2 := h.1 2 _ rfl
  have d3 := h.1 3 _ rfl
  have d4 := h.1 4 _ rfl
  have D : Hid (∀ w', Below w.heap.size w w' → Leaf5 w' b o 2 bx 0) := fun w' hw => h.stays hw
  clear h
  go_enter Tryz.func39, Tryz.ntmps39
  go_wp2
  go_region
  have B1 : Below w.heap.size w (w.alloc (.cells #[.int .i64 0, .int .i64 0, .string bx, .int .i64 0, .int .i64 0, .int .i64 0, .int .i64 0, .int .i64 0, .int .i64 0, .int .i64 0, .int .i64 0, .int .i64 0, .int .i64 0, .int .i64 0] 165)).drew := (bl_alloc (Below.refl _ _) _).drew
  have X1 : Arr (w.alloc (.cells #[.int .i64 0, .int .i64 0, .string bx, .int .i64 0, .int .i64 0, .int .i64 0, .int .i64 0, .int .i64 0, .int .i64 0, .int .i64 0, .int .i64 0, .int .i64 0, .int .i64 0, .int .i64 0] 165)).drew w.heap.size 165 [.int .i64 0, .int .i64 0, .string bx, .int .i64 0, .int .i64 0, .int .i64 0, .int .i64 0, .int .i64 0, .int .i64 0, .int .i64 0, .int .i64 0, .int .i64 0, .int .i64 0, .int .i64 0] := Arr.stays (w := w.alloc (.cells #[.int .i64 0, .int .i64 0, .string bx, .int .i64 0, .int .i64 0, .int .i64 0, .int .i64 0, .int .i64 0, .int .i64 0, .int .i64 0, .int .i64 0, .int .i64 0, .int .i64 0, .int .i64 0] 165)) ⟨heap_alloc_at _ _⟩ (Below.refl _ _).drew
  generalize (w.alloc (.cells #[.int .i64 0, .int .i64 0, .string bx, .int .i64 0, .int .i64 0, .int .i64 0, .int .i64 0, .int .i64 0, .int .i64 0, .int .i64 0, .int .i64 0, .int .i64 0, .int .i64 0, .int .i64 0] 165)).drew = w1 at B1 X1 ⊢
  have z1 := X1.cell
  have y0 : w1.cell? ⟨b, o, none⟩ = _ := (D.out _ B1).1 0 _ rfl
  have y1 := (D.out _ B1).1 1 _ rfl
  have y4 := (D.out _ B1).1 4 _ rfl
  have BB := hid B1
  clear B1 X1
  go_wp2_with (first
    | (go_at_call 55; refine (fitS 0 0 bx 0 0 0 0 0 0 0 0 0 0 0 _).mono ?_; rintro e w2 ⟨rfl, h2⟩; have B2 := hid (bl_tr BB.out h2); have y0' := (D.out _ B2.out).1 0 _ rfl; have y1' := (D.out _ B2.out).1 1 _ rfl; have y4' := (D.out _ B2.out).1 4 _ rfl; clear h2)
    | (go_at_call 56; refine (named_x _).mono ?_; rintro e w3 ⟨rfl, hw⟩; rw [hw]; clear hw w3)
    | (go_at_call 43; refine (each_none _ _ _ _ _ _).mono ?_; rintro e w4 ⟨rfl, hw⟩; rw [hw]; clear hw w4))
  first | go_end0 | refine bodyPost_end (results_none rfl _ _ _) rfl ?_ | refine bodyPost_ret (results_none rfl _ _ _) rfl ?_
  exact ⟨rfl, B2.out⟩
set_option maxHeartbeats 4000000 in
set_option maxRecDepth 100000 in
theorem right_int (w : World) (b o : Nat) (h : Leaf5 w b o 3 (⟨#[]⟩ : ByteArray) 1) : Calls Tryz.prog 39 #[.pointer (some ⟨b, o, none⟩)] w fun e w' => e = .returned (.tuple #[]) ∧ Below w.heap.size w w' := by
  have hb := h.2
  have d0 : w.cell? ⟨b, o, none⟩ = some (.int .i64 3) := h.1 0 _ rfl
  have d1 := h.1 1 _ rfl
  have d2 := h.1 2 _ rfl
  have d3 := h.1 3 _ rfl
  have d4 := h.1 4 _ rfl
  have D : Hid (∀ w', Below w.heap.size w w' → Leaf5 w' b o 3 (⟨#[]⟩ : ByteArray) 1) := fun w' hw => h.stays hw
  clear h
  go_enter Tryz.func39, Tryz.ntmps39
  go_wp2
  go_region
  have B1 : Below w.heap.size w (w.alloc (.cells #[.int .i64 0, .int .i64 1, .string (⟨#[]⟩ : ByteArray), .int .i64 0, .int .i64 0, .int .i64 0, .int .i64 0, .int .i64 0, .int .i64 0, .int .i64 0, .int .i64 0, .int .i64 0, .int .i64 0, .int .i64 0] 165)).drew := (bl_alloc (Below.refl _ _) _).drew
  have X1 : Arr (w.alloc (.cells #[.int .i64 0, .int .i64 1, .string (⟨#[]⟩ : ByteArray), .int .i64 0, .int .i64 0, .int .i64 0, .int .i64 0, .int .i64 0, .int .i64 0, .int .i64 0, .int .i64 0, .int .i64 0, .int .i64 0, .int .i64 0] 165)).drew w.heap.size 165 [.int .i64 0, .int .i64 1, .string (⟨#[]⟩ : ByteArray), .int .i64 0, .int .i64 0, .int .i64 0, .int .i64 0, .int .i64 0, .int .i64 0, .int .i64 0, .int .i64 0, .int .i64 0, .int .i64 0, .int .i64 0] := Arr.stays (w := w.alloc (.cells #[.int .i64 0, .int .i64 1, .string (⟨#[]⟩ : ByteArray), .int .i64 0, .int .i64 0, .int .i64 0, .int .i64 0, .int .i64 0, .int .i64 0, .int .i64 0, .int .i64 0, .int .i64 0, .int .i64 0, .int .i64 0] 165)) ⟨heap_alloc_at _ _⟩ (Below.refl _ _).drew
  generalize (w.alloc (.cells #[.int .i64 0, .int .i64 1, .string (⟨#[]⟩ : ByteArray), .int .i64 0, .int .i64 0, .int .i64 0, .int .i64 0, .int .i64 0, .int .i64 0, .int .i64 0, .int .i64 0, .int .i64 0, .int .i64 0, .int .i64 0] 165)).drew = w1 at B1 X1 ⊢
  have z1 := X1.cell
  have y0 : w1.cell? ⟨b, o, none⟩ = _ := (D.out _ B1).1 0 _ rfl
  have y1 := (D.out _ B1).1 1 _ rfl
  have y4 := (D.out _ B1).1 4 _ rfl
  have BB := hid B1
  clear B1 X1
  go_wp2_with (first
    | (go_at_call 55; refine (fitS 0 1 (⟨#[]⟩ : ByteArray) 0 0 0 0 0 0 0 0 0 0 0 _).mono ?_; rintro e w2 ⟨rfl, h2⟩; have B2 := hid (bl_tr BB.out h2); have y0' := (D.out _ B2.out).1 0 _ rfl; have y1' := (D.out _ B2.out).1 1 _ rfl; have y4' := (D.out _ B2.out).1 4 _ rfl; clear h2)
    | (go_at_call 43; refine (each_none _ _ _ _ _ _).mono ?_; rintro e w4 ⟨rfl, hw⟩; rw [hw]; clear hw w4))
  first | go_end0 | refine bodyPost_end (results_none rfl _ _ _) rfl ?_ | refine bodyPost_ret (results_none rfl _ _ _) rfl ?_
  exact ⟨rfl, B2.out⟩
/-- A pair of a name x and a second leaf: P its cells, K those of its Kids. -/
structure Pair5 (w : World) (P K : Nat) (k : Int) (s : ByteArray) (n : Int) : Prop where
  p : Cells w P 0 [.int .i64 7, .string (⟨#[]⟩ : ByteArray), .slice none 0 0, .int .i64 0, .slice (some ⟨K, 0, none⟩) 2 2]
  pl : P < w.heap.size
  a : Leaf5 w K 0 2 bx 0
  b : Leaf5 w K 5 k s n
theorem Pair5.stays {w w' : World} {P K : Nat} {k : Int} {s : ByteArray} {n : Int} (h : Pair5 w P K k s n) (hb : Below w.heap.size w w') : Pair5 w' P K k s n := ⟨fun j v hv => (hb.cell h.pl).trans (h.p j v hv), Nat.lt_of_lt_of_le h.pl hb.size, h.a.stays hb, h.b.stays hb⟩
theorem enters_right : Enters 39 := enters_of Tryz.func39 (by kernel_rfl) rfl
set_option maxHeartbeats 4000000 in
set_option maxRecDepth 100000 in
theorem right_pair (w : World) (P K : Nat) (k : Int) (s : ByteArray) (n : Int) (h : Pair5 w P K k s n) (h2 : ∀ w', Leaf5 w' K 5 k s n → Calls Tryz.prog 39 #[.pointer (some ⟨K, 5, none⟩)] w' fun e w'' => e = .returned (.tuple #[]) ∧ Below w'.heap.size w' w'') : Calls Tryz.prog 39 #[.pointer (some ⟨P, 0, none⟩)] w fun e w' => e = .returned (.tuple #[]) ∧ Below w.heap.size w w' := by
  have hb := h.pl
  have d0 : w.cell? ⟨P, 0, none⟩ = some (.int .i64 7) := h.p 0 _ rfl
  have d1 : w.cell? ⟨P, 1, none⟩ = _ := h.p 1 _ rfl
  have d2 : w.cell? ⟨P, 2, none⟩ = _ := h.p 2 _ rfl
  have d3 : w.cell? ⟨P, 3, none⟩ = _ := h.p 3 _ rfl
  have d4 : w.cell? ⟨P, 4, none⟩ = _ := h.p 4 _ rfl
  have D : Hid (∀ w', Below w.heap.size w w' → Pair5 w' P K k s n) := fun w' hw => h.stays hw
  have HE : Hid (∀ w', Below w.heap.size w w' → Calls Tryz.prog 43 #[.slice (some ⟨K, 0, none⟩) 2 2, .func (.func 39) #[] #[]] w' fun e w'' => e = .returned (.tuple #[]) ∧ Below w.heap.size w w'') := fun w' hw => by
    refine each_two w' _ #[] #[] enters_right K (fun w'' => Below w.heap.size w w'') (fun w'' => Below w.heap.size w w'') ?_ ?_
    · refine (right_var w' K 0 (D.out w' hw).a).mono ?_
      rintro e w'' ⟨h1, h2⟩
      exact ⟨h1, bl_tr hw h2⟩
    · intro w1 q1
      refine (h2 w1 (D.out w1 q1).b).mono ?_
      rintro e w'' ⟨h1, h2⟩
      exact ⟨h1, bl_tr q1 h2⟩
  clear h h2
  go_enter Tryz.func39, Tryz.ntmps39
  go_wp2
  go_region
  have B1 : Below w.heap.size w (w.alloc (.cells #[.int .i64 0, .int .i64 0, .string (⟨#[]⟩ : ByteArray), .int .i64 0, .int .i64 0, .int .i64 0, .int .i64 2, .int .i64 0, .int .i64 0, .int .i64 0, .int .i64 0, .int .i64 0, .int .i64 0, .int .i64 0] 165)).drew := (bl_alloc (Below.refl _ _) _).drew
  have X1 : Arr (w.alloc (.cells #[.int .i64 0, .int .i64 0, .string (⟨#[]⟩ : ByteArray), .int .i64 0, .int .i64 0, .int .i64 0, .int .i64 2, .int .i64 0, .int .i64 0, .int .i64 0, .int .i64 0, .int .i64 0, .int .i64 0, .int .i64 0] 165)).drew w.heap.size 165 [.int .i64 0, .int .i64 0, .string (⟨#[]⟩ : ByteArray), .int .i64 0, .int .i64 0, .int .i64 0, .int .i64 2, .int .i64 0, .int .i64 0, .int .i64 0, .int .i64 0, .int .i64 0, .int .i64 0, .int .i64 0] := Arr.stays (w := w.alloc (.cells #[.int .i64 0, .int .i64 0, .string (⟨#[]⟩ : ByteArray), .int .i64 0, .int .i64 0, .int .i64 0, .int .i64 2, .int .i64 0, .int .i64 0, .int .i64 0, .int .i64 0, .int .i64 0, .int .i64 0, .int .i64 0] 165)) ⟨heap_alloc_at _ _⟩ (Below.refl _ _).drew
  generalize (w.alloc (.cells #[.int .i64 0, .int .i64 0, .string (⟨#[]⟩ : ByteArray), .int .i64 0, .int .i64 0, .int .i64 0, .int .i64 2, .int .i64 0, .int .i64 0, .int .i64 0, .int .i64 0, .int .i64 0, .int .i64 0, .int .i64 0] 165)).drew = w1 at B1 X1 ⊢
  have z1 := X1.cell
  have y0 : w1.cell? ⟨P, 0, none⟩ = _ := (D.out _ B1).p 0 _ rfl
  have y1 := (D.out _ B1).p 1 _ rfl
  have y4 := (D.out _ B1).p 4 _ rfl
  have BB := hid B1
  clear B1 X1
  go_wp2_with (first
    | (go_at_call 55; refine (fitS 0 0 (⟨#[]⟩ : ByteArray) 0 0 0 2 0 0 0 0 0 0 0 _).mono ?_; rintro e w2 ⟨rfl, h2⟩; have B2 := hid (bl_tr BB.out h2); have y0' := (D.out _ B2.out).p 0 _ rfl; have y1' := (D.out _ B2.out).p 1 _ rfl; have y4' := (D.out _ B2.out).p 4 _ rfl; clear h2)
    | (go_at_call 43; refine (HE.out _ B2.out).mono ?_; rintro e w4 ⟨rfl, h4⟩; have B4 := hid h4; clear h4))
  first | go_end0 | refine bodyPost_end (results_none rfl _ _ _) rfl ?_ | refine bodyPost_ret (results_none rfl _ _ _) rfl ?_
  exact ⟨rfl, B4.out⟩
end Go.Proofs.YtjodgnkhociaaaaGreat
