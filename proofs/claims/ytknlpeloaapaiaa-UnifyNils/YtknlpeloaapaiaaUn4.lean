/- size and has, of types without metas. -/
import Derived.Test.YtknlpeloaapaiaaUn5
namespace Go.Proofs.Ytknlpeloaapaiaa
open Go.RowKit
set_option linter.unusedVariables false
set_option linter.unusedSimpArgs false

theorem cntL_snoc : ∀ (l : List Tp) (x : Tp), Tp.cntL (l ++ [x]) = Tp.cntL l + x.cnt
  | [], x => by simp [Tp.cntL]
  | y :: r, x => by rw [List.cons_append, Tp.cntL, Tp.cntL, cntL_snoc r x]; omega
theorem cntL_take_le : ∀ (l : List Tp) (k : Nat), Tp.cntL (l.take k) ≤ Tp.cntL l
  | [], k => by simp
  | y :: r, 0 => by simp [Tp.cntL]
  | y :: r, k + 1 => by rw [List.take_succ_cons, Tp.cntL, Tp.cntL]; have := cntL_take_le r k; omega
theorem cnt_ks (t : Tp) : t.cnt = 1 + Tp.cntL t.ks := by obtain ⟨k, n, ks⟩ := t; rw [Tp.cnt]; simp only [Tp.ks]; omega
def USizeOf (S : Nat) (n : Nat) : Prop := ∀ (w : World) (vs : List Value) (t : Tp), TAt w Any n vs t → t.cnt ≤ 1000 → NoM t → Calls Try.prog 24 #[.pointer (some ⟨S, 0, none⟩), .agg vs.toArray] w fun e w' => e = .returned (.int .i64 (t.cnt : Int)) ∧ Below w.heap.size w w'
set_option maxHeartbeats 2000000 in
set_option maxRecDepth 100000 in
theorem usize_step (S n : Nat) (ih : USizeOf S n) : USizeOf S (n + 1) := by
  intro w vs t hT hcnt hM
  obtain ⟨v, rfl, -, -, hL⟩ := hT.open_
  obtain ⟨a0, c0, e0, hml⟩ := hL.form
  subst e0
  unfold maxLen at hml
  have HL : Hid (TAtL w Any n (.slice a0 t.ks.length c0) t.ks) := hL
  have HI : Hid (USizeOf S n) := ih
  have HM := hid hM
  have hct : t.cnt = 1 + Tp.cntL t.ks := cnt_ks t
  have hcl : 1 + Tp.cntL t.ks ≤ 1000 := by omega
  have HCT := hid hct
  have HC : Hid (∀ o, Calls Try.prog 53 #[.pointer (some ⟨S, 0, none⟩), .agg #[.int .i64 t.k, .int .i64 t.n, .slice a0 t.ks.length c0]] (w.alloc o) fun e w' => e = .returned (.tuple #[.int .i64 0, .bool false]) ∧ Below (w.alloc o).heap.size (w.alloc o) w') := fun o => class_no (w.alloc o) S t.k t.n (.bool true) hM.kind a0 t.ks.length c0
  have hB0 : Hid (Arr (w.alloc (.cells #[.int .i64 t.k, .int .i64 t.n, .slice a0 t.ks.length c0] 24)) w.heap.size 24 [.int .i64 t.k, .int .i64 t.n, .slice a0 t.ks.length c0]) := ⟨heap_alloc_at _ _⟩
  have HBB : Hid (∀ o, Below w.heap.size w (w.alloc o)) := fun o => bl_alloc (Below.refl _ _) _
  clear hT hL ih hcnt hM hct
  go_enter Try.func24, Try.ntmps24
  go_wp2_with (go_at_call 53; refine (HC.out _).mono ?_; rintro e w3 ⟨rfl, hb3⟩; have q1 := (hB0.out.stays hb3).cell)
  have HB3 : Hid (Below w.heap.size w w3) := bl_tr (HBB.out _) hb3
  clear HC hB0 HBB hb3 q1
  go_loopw [7, 24] (fun nd v wr => ∃ k : Nat, v = .int .i64 k ∧ k ≤ t.ks.length ∧ nd = .int .i64 ((1 + Tp.cntL (t.ks.take k) : Nat) : Int) ∧ Hid (Below w.heap.size w wr)) (fun _ v _ => t.ks.length - (intOf v).toNat)
  case atStart => exact ⟨0, rfl, Nat.zero_le _, by simp [Tp.cntL], HB3⟩
  case round =>
    obtain ⟨k, rfl, hkl, rfl, hR⟩ := hrel
    clear HB3
    by_cases hlt : k < t.ks.length
    · obtain ⟨b, o, rfl⟩ : ∃ b o, a0 = some ⟨b, o, none⟩ := by
        rcases HL.out with ⟨b, o, c, hv, -⟩ | ⟨h0, -⟩
        · injection hv with e1 e2 e3; exact ⟨b, o, e1⟩
        · rw [h0] at hlt; exact absurd hlt (Nat.not_lt_zero _)
      obtain ⟨x, hxk⟩ : ∃ x, t.ks[k]? = some x := ⟨_, List.getElem?_eq_getElem hlt⟩
      obtain ⟨vx, tx, x0, x1, x2, -, hb⟩ := HL.out.elem hxk
      have y0 := (hR.out.cell (p := ⟨b, o + k * 3, none⟩) hb).trans x0
      have y1 := (hR.out.cell (p := ⟨b, o + k * 3 + 1, none⟩) hb).trans x1
      have y2 := (hR.out.cell (p := ⟨b, o + k * 3 + 2, none⟩) hb).trans x2
      obtain ⟨ax, cx, ex⟩ := tx.form
      simp only [List.cons.injEq, and_true, true_and] at ex
      subst ex
      have hmem := List.mem_of_getElem? hxk
      have htk : t.ks.take (k + 1) = t.ks.take k ++ [x] := by
        rw [List.take_add_one, hxk]; rfl
      have hsum : Tp.cntL (t.ks.take (k + 1)) = Tp.cntL (t.ks.take k) + x.cnt := by rw [htk, cntL_snoc]
      have hle := cntL_take_le t.ks (k + 1)
      have hQ : Hid (∀ oo, Calls Try.prog 24 #[.pointer (some ⟨S, 0, none⟩), .agg #[.int .i64 x.k, .int .i64 x.n, .slice ax x.ks.length cx]] (wr.alloc oo) fun e w' => e = .returned (.int .i64 (x.cnt : Int)) ∧ Below wr.heap.size wr w') := fun oo => (HI.out (wr.alloc oo) _ x (tx.below (bl_alloc hR.out _)) (by omega) (HM.out.kid hmem)).mono fun e w' ⟨h1, h2⟩ => ⟨h1, bl_tr (bl_alloc (Below.refl _ _) _) h2⟩
      obtain ⟨p, hp⟩ : ∃ p, p = Tp.cntL (t.ks.take k) := ⟨_, rfl⟩
      obtain ⟨q, hq⟩ : ∃ q, q = x.cnt := ⟨_, rfl⟩
      rw [← hp, ← hq] at hsum
      rw [← hq] at hQ
      have hpq : (1 + p + q : Nat) ≤ 1000 := by omega
      have hd : decide ((1 : Int) + (p : Int) + (q : Int) > 1000) = false := by simp; omega
      have hd2 : ¬ ((1000 : Int) < (1 : Int) + (p : Int) + (q : Int)) := by omega
      have HSM : Hid (Tp.cntL (t.ks.take (k + 1)) = p + q) := hsum
      have hpp : ((1 + Tp.cntL (t.ks.take k) : Nat) : Int) = 1 + (p : Int) := by rw [← hp]; omega
      rw [hpp]
      clear tx x0 x1 x2 hb hxk hmem htk hsum hle hp hq hpp
      go_wp2_with (go_at_call 24; refine (hQ.out _).mono ?_; rintro e w5 ⟨rfl, hb5⟩; have HB5 := hid hb5; clear hb5)
      go_roundw
      case rel => exact ⟨k + 1, by go_num, by omega, by rw [HSM.out]; congr 1; omega, bl_tr hR.out HB5.out⟩
      case measure => simp [intOf]; omega
    · obtain rfl : k = t.ks.length := by omega
      have HE := hid (show 1 + Tp.cntL (t.ks.take t.ks.length) = t.cnt by rw [List.take_length, HCT.out])
      go_wp2
      go_ret
      exact ⟨congrArg (fun z => Ending.returned (.int .i64 z)) (by have := HE.out; omega), hR.out⟩
theorem usize_any (S : Nat) : ∀ n, USizeOf S n
  | 0 => fun w vs t hT => hT.elim
  | n + 1 => usize_step S n (usize_any S n)
def UHasOf (S : Nat) (n : Nat) : Prop := ∀ (w : World) (vs : List Value) (t : Tp) (cl : Int), TAt w Any n vs t → NoM t → Calls Try.prog 81 #[.pointer (some ⟨S, 0, none⟩), .agg vs.toArray, .int .i64 cl] w fun e w' => e = .returned (.bool false) ∧ Below w.heap.size w w'
set_option maxHeartbeats 2000000 in
set_option maxRecDepth 100000 in
theorem uhas_step (S n : Nat) (ih : UHasOf S n) : UHasOf S (n + 1) := by
  intro w vs t cl hT hM
  obtain ⟨v, rfl, -, -, hL⟩ := hT.open_
  obtain ⟨a0, c0, e0, hml⟩ := hL.form
  subst e0
  unfold maxLen at hml
  have HL : Hid (TAtL w Any n (.slice a0 t.ks.length c0) t.ks) := hL
  have HI : Hid (UHasOf S n) := ih
  have HM := hid hM
  have HC : Hid (∀ o, Calls Try.prog 53 #[.pointer (some ⟨S, 0, none⟩), .agg #[.int .i64 t.k, .int .i64 t.n, .slice a0 t.ks.length c0]] (w.alloc o) fun e w' => e = .returned (.tuple #[.int .i64 0, .bool false]) ∧ Below (w.alloc o).heap.size (w.alloc o) w') := fun o => class_no (w.alloc o) S t.k t.n (.bool true) hM.kind a0 t.ks.length c0
  have hB0 : Hid (Arr (w.alloc (.cells #[.int .i64 t.k, .int .i64 t.n, .slice a0 t.ks.length c0] 24)) w.heap.size 24 [.int .i64 t.k, .int .i64 t.n, .slice a0 t.ks.length c0]) := ⟨heap_alloc_at _ _⟩
  have HBB : Hid (∀ o, Below w.heap.size w (w.alloc o)) := fun o => bl_alloc (Below.refl _ _) _
  clear hT hL ih hM
  go_enter Try.func81, Try.ntmps81
  go_wp2_with (go_at_call 53; refine (HC.out _).mono ?_; rintro e w3 ⟨rfl, hb3⟩; have q1 := (hB0.out.stays hb3).cell)
  have HB3 : Hid (Below w.heap.size w w3) := bl_tr (HBB.out _) hb3
  clear HC hB0 HBB hb3 q1
  go_loopw [41] (fun v wr => ∃ k : Nat, v = .int .i64 k ∧ k ≤ t.ks.length ∧ Hid (Below w.heap.size w wr)) (fun v _ => t.ks.length - (intOf v).toNat)
  case atStart => exact ⟨0, rfl, Nat.zero_le _, HB3⟩
  case round =>
    obtain ⟨k, rfl, hkl, hR⟩ := hrel
    clear HB3
    by_cases hlt : k < t.ks.length
    · obtain ⟨b, o, rfl⟩ : ∃ b o, a0 = some ⟨b, o, none⟩ := by
        rcases HL.out with ⟨b, o, c, hv, -⟩ | ⟨h0, -⟩
        · injection hv with e1 e2 e3; exact ⟨b, o, e1⟩
        · rw [h0] at hlt; exact absurd hlt (Nat.not_lt_zero _)
      obtain ⟨x, hxk⟩ : ∃ x, t.ks[k]? = some x := ⟨_, List.getElem?_eq_getElem hlt⟩
      obtain ⟨vx, tx, x0, x1, x2, -, hb⟩ := HL.out.elem hxk
      have y0 := (hR.out.cell (p := ⟨b, o + k * 3, none⟩) hb).trans x0
      have y1 := (hR.out.cell (p := ⟨b, o + k * 3 + 1, none⟩) hb).trans x1
      have y2 := (hR.out.cell (p := ⟨b, o + k * 3 + 2, none⟩) hb).trans x2
      obtain ⟨ax, cx, ex⟩ := tx.form
      simp only [List.cons.injEq, and_true, true_and] at ex
      subst ex
      have hmem := List.mem_of_getElem? hxk
      have hQ : Hid (∀ oo, Calls Try.prog 81 #[.pointer (some ⟨S, 0, none⟩), .agg #[.int .i64 x.k, .int .i64 x.n, .slice ax x.ks.length cx], .int .i64 cl] (wr.alloc oo) fun e w' => e = .returned (.bool false) ∧ Below wr.heap.size wr w') := fun oo => (HI.out (wr.alloc oo) _ x cl (tx.below (bl_alloc hR.out _)) (HM.out.kid hmem)).mono fun e w' ⟨h1, h2⟩ => ⟨h1, bl_tr (bl_alloc (Below.refl _ _) _) h2⟩
      clear tx x0 x1 x2 hb hxk hmem
      go_wp2_with (go_at_call 81; refine (hQ.out _).mono ?_; rintro e w5 ⟨rfl, hb5⟩; have HB5 := hid hb5; clear hb5)
      go_roundw
      case rel => exact ⟨k + 1, by go_num, by omega, bl_tr hR.out HB5.out⟩
      case measure => simp [intOf]; omega
    · obtain rfl : k = t.ks.length := by omega
      go_wp2
      go_ret
      exact ⟨rfl, hR.out⟩
theorem uhas_any (S : Nat) : ∀ n, UHasOf S n
  | 0 => fun w vs t cl hT => hT.elim
  | n + 1 => uhas_step S n (uhas_any S n)
end Go.Proofs.Ytknlpeloaapaiaa
