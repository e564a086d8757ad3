/- TypesTwice: the walk. -/
import Derived.Test.YtbdohoebpaiecabDoorTpS3
import Derived.Test.YtbdohoebpaiecabDoorTpTw
import Derived.Test.YtbdohoebpaiecabDoorTpZ
import Derived.Test.YtbdohoebpaiecabDoorTpL
import Derived.Test.YtbdohoebpaiecabDoorTpY
import Derived.Test.YtbdohoebpaiecabDoorTpO
import Derived.Test.YtbdohoebpaiecabDoorTpG
namespace Go.Proofs.YtbdohoebpaiecabDoor
open Go.RowKit
set_option linter.unusedVariables false
set_option linter.unusedSimpArgs false

theorem Ls.row (w : World) (l : List Int) (hl : l.length ≤ maxLen) (E : TypeId) : Ls (w.alloc (.cells (l.map (.int .i64)).toArray E)) Any (.slice (some ⟨w.heap.size, 0, none⟩) l.length l.length) l := by
  refine .inl ⟨w.heap.size, 0, l.length, rfl, trivial, Nat.le_refl _, hl, fun j x hx => ?_⟩
  rw [cell_at (heap_alloc_at _ _), Nat.zero_add]
  simp [hx]
theorem TAtL.row (w : World) (n : Nat) (l : List Tp) (cs : List Value) (E : TypeId) (hl : l.length ≤ maxLen) (h : ∀ (i : Nat) x, l[i]? = some x → ∃ vs, TAt w Any n vs x ∧ Seg cs (i * 3) vs) : TAtL (w.alloc (.cells cs.toArray E)) Any n (.slice (some ⟨w.heap.size, 0, none⟩) l.length l.length) l := by
  refine .inl ⟨w.heap.size, 0, l.length, rfl, trivial, Nat.le_refl _, hl, fun i x hx => ?_⟩
  obtain ⟨vs, h1, h2⟩ := h i x hx
  refine ⟨vs, fun j y hy => ?_, h1.below (bl_alloc (Below.refl _ _) _)⟩
  rw [cell_at (heap_alloc_at _ _), Nat.zero_add]
  have := h2 j y hy
  simpa using this
theorem seg_one (a b c : Value) : Seg [a, b, c] 0 [a, b, c] := fun j x hx => by rw [Nat.zero_add]; exact hx
theorem seg_two0 (a b c d e f : Value) : Seg [a, b, c, d, e, f] 0 [a, b, c] := fun j x hx => by
  match j, hx with
  | 0, hx => exact hx
  | 1, hx => exact hx
  | 2, hx => exact hx
  | j + 3, hx => simp at hx
theorem seg_two1 (a b c d e f : Value) : Seg [a, b, c, d, e, f] 3 [d, e, f] := fun j x hx => by
  match j, hx with
  | 0, hx => exact hx
  | 1, hx => exact hx
  | 2, hx => exact hx
  | j + 3, hx => simp at hx
theorem Tp.repl_cases (kind : Int) (fr : List Int) (to : List Tp) (t : Tp) (h : fr.length = to.length) : (Tp.repl kind fr to t = (Tp.put kind fr to t, 0)) ∨ Tp.repl kind fr to t = (Tp.zero, 3) := by
  unfold Tp.repl
  rw [if_neg (by simp [h])]
  split
  · exact .inr rfl
  · exact .inl rfl

set_option maxHeartbeats 3000000 in
set_option maxRecDepth 100000 in
theorem twice_walk (w : World) (hW : Tab w) (n0 n1 n2 : Nat) (us0 us1 us2 : List Value) (t u v : Tp) (h0 : TAt w Any n0 us0 t) (h1 : TAt w Any n1 us1 u) (h2 : TAt w Any n2 us2 v) (n m : Int) (hn : R64 n) (hm : R64 m) (hc : u.cnt ≤ 1048576) :
    Calls Tryd.prog 3 #[.agg us0.toArray, .agg us1.toArray, .agg us2.toArray, .int .i64 n, .int .i64 m] w fun e w' => e = .returned (.bool true) ∧ Below w.heap.size w w' := by
  obtain ⟨a0, c0, rfl⟩ := h0.form
  obtain ⟨a1, c1, rfl⟩ := h1.form
  obtain ⟨a2, c2, rfl⟩ := h2.form
  have H0 : Hid (TAt w Any n0 [.int .i64 t.k, .int .i64 t.n, .slice a0 t.ks.length c0] t) := h0
  have H1 : Hid (TAt w Any n1 [.int .i64 u.k, .int .i64 u.n, .slice a1 u.ks.length c1] u) := h1
  have H2 : Hid (TAt w Any n2 [.int .i64 v.k, .int .i64 v.n, .slice a2 v.ks.length c2] v) := h2
  have HW : Hid (Tab w) := hW
  have hA : Hid (∀ (wz : World), Below w.heap.size w wz → Calls Tryd.prog 8 #[] wz fun e w' => e = .returned (.bool true) ∧ Below wz.heap.size wz w') := fun wz hz => alive_any wz (HW.out.stays hz)
  have hSt : Hid (∀ (wz : World), Below w.heap.size w wz → Calls Tryd.prog 7 #[.agg #[.int .i64 u.k, .int .i64 u.n, .slice a1 u.ks.length c1]] wz fun e w' => ∃ y, e = .returned y ∧ Ls w' Any y (Tp.found 6 u []) ∧ Below wz.heap.size wz w') := fun wz hz => Stamps_any wz n1 _ u (H1.out.below hz) hc
  have hIn : Hid (∀ (wz : World) (y : Value), Ls wz Any y (Tp.found 6 u []) → Calls Tryd.prog 6 #[y, .int .i64 m] wz fun e w' => e = .returned (.bool (Tp.has m (Tp.found 6 u []))) ∧ w' = wz) := fun wz y h => lawIn_any wz y _ m h
  have X0 : Hid (Arr (((w.alloc (.cells #[.int .i64 t.k, .int .i64 t.n, .slice a0 t.ks.length c0] 24)).alloc (.cells #[.int .i64 u.k, .int .i64 u.n, .slice a1 u.ks.length c1] 24)).alloc (.cells #[.int .i64 v.k, .int .i64 v.n, .slice a2 v.ks.length c2] 24)) w.heap.size 24 [.int .i64 t.k, .int .i64 t.n, .slice a0 t.ks.length c0]) := Arr.stays (Arr.stays ⟨heap_alloc_at _ _⟩ (bl_alloc (Below.refl _ _) _)) (bl_alloc (Below.refl _ _) _)
  have X1 : Hid (Arr (((w.alloc (.cells #[.int .i64 t.k, .int .i64 t.n, .slice a0 t.ks.length c0] 24)).alloc (.cells #[.int .i64 u.k, .int .i64 u.n, .slice a1 u.ks.length c1] 24)).alloc (.cells #[.int .i64 v.k, .int .i64 v.n, .slice a2 v.ks.length c2] 24)) (w.heap.size + 1) 24 [.int .i64 u.k, .int .i64 u.n, .slice a1 u.ks.length c1]) := Arr.stays ⟨by have := heap_alloc_at (w.alloc (.cells #[.int .i64 t.k, .int .i64 t.n, .slice a0 t.ks.length c0] 24)) (.cells #[.int .i64 u.k, .int .i64 u.n, .slice a1 u.ks.length c1] 24); rw [size_alloc] at this; exact this⟩ (bl_alloc (Below.refl _ _) _)
  have X2 : Hid (Arr (((w.alloc (.cells #[.int .i64 t.k, .int .i64 t.n, .slice a0 t.ks.length c0] 24)).alloc (.cells #[.int .i64 u.k, .int .i64 u.n, .slice a1 u.ks.length c1] 24)).alloc (.cells #[.int .i64 v.k, .int .i64 v.n, .slice a2 v.ks.length c2] 24)) (w.heap.size + 2) 24 [.int .i64 v.k, .int .i64 v.n, .slice a2 v.ks.length c2]) := ⟨by have := heap_alloc_at ((w.alloc (.cells #[.int .i64 t.k, .int .i64 t.n, .slice a0 t.ks.length c0] 24)).alloc (.cells #[.int .i64 u.k, .int .i64 u.n, .slice a1 u.ks.length c1] 24)) (.cells #[.int .i64 v.k, .int .i64 v.n, .slice a2 v.ks.length c2] 24); rw [size_alloc, size_alloc] at this; exact this⟩
  have B1 : Hid (Below w.heap.size w (((w.alloc (.cells #[.int .i64 t.k, .int .i64 t.n, .slice a0 t.ks.length c0] 24)).alloc (.cells #[.int .i64 u.k, .int .i64 u.n, .slice a1 u.ks.length c1] 24)).alloc (.cells #[.int .i64 v.k, .int .i64 v.n, .slice a2 v.ks.length c2] 24))) := bl_alloc (bl_alloc (bl_alloc (Below.refl _ _) _) _) _
  by_cases hnm : n = m
  · have hq : (n == m) = true := by rw [beq_iff_eq]; exact hnm
    clear h0 h1 h2 hW hnm hSt hIn hc hn hm X0 X1 X2
    go_enter Tryd.func3, Tryd.ntmps3
    go_wp2_with (go_at_call 8; refine (hA.out _ B1.out).mono ?_; rintro e w2 ⟨rfl, hb2⟩)
    go_ret
    exact ⟨rfl, bl_tr B1.out hb2⟩
  have hq : (n == m) = false := by rw [beq_eq_false_iff_ne]; exact hnm
  cases hhas : Tp.has m (Tp.found 6 u []) with
  | true =>
    rw [hhas] at hIn
    clear h0 h1 h2 hW hnm hc hn hm X0 X2 hhas
    go_enter Tryd.func3, Tryd.ntmps3
    go_wp2_with (first
      | (go_at_call 7; refine (hSt.out _ B1.out).mono ?_; rintro e w2 ⟨y2, rfl, hL2, hb2⟩; obtain ⟨p2, k2, rfl, -⟩ := hL2.form; have HL2 : Hid (Ls w2 Any _ _) := hL2; have B2 : Hid (Below w.heap.size w w2) := bl_tr B1.out hb2; clear hL2 hb2)
      | (go_at_call 6; refine (hIn.out _ _ HL2.out).mono ?_; rintro e w3 ⟨rfl, hw⟩; rw [hw]; clear hw w3)
      | (go_at_call 8; refine (hA.out _ B2.out).mono ?_; rintro e w4 ⟨rfl, hb4⟩))
    go_ret
    exact ⟨rfl, bl_tr B2.out hb4⟩
  | false =>
    rw [hhas] at hIn
    have hput : Tp.put 6 [m] [v] u = u := Tp.put_not 6 m v u [] (fun h => by rw [Tp.has_mem, decide_eq_false_iff_not] at hhas; exact hhas h)
    have HEQ : Hid (Tp.put 6 [m] [v] (Tp.put 6 [n] [u] t) = Tp.put 6 [n, m] [u, v] t) := Tp.put_twice 6 n m u v hnm hput t
    have hP2 : Hid (∀ (wz : World), Below w.heap.size w wz → Calls Tryd.prog 9 #[.agg #[.int .i64 t.k, .int .i64 t.n, .slice a0 t.ks.length c0], .int .i64 6, .slice (some ⟨wz.heap.size, 0, none⟩) 2 2, .slice (some ⟨wz.heap.size + 1, 0, none⟩) 2 2] ((wz.alloc (.cells #[.int .i64 n, .int .i64 m] 3)).alloc (.cells #[.int .i64 u.k, .int .i64 u.n, .slice a1 u.ks.length c1, .int .i64 v.k, .int .i64 v.n, .slice a2 v.ks.length c2] 24)) fun e w' => ∃ vs' n', e = .returned (.tuple #[.agg vs'.toArray, .int .i64 (Tp.repl 6 [n, m] [u, v] t).2]) ∧ TAt w' Any n' vs' (Tp.repl 6 [n, m] [u, v] t).1 ∧ Below wz.heap.size wz w') := by
      intro wz hz
      have k1 : Below wz.heap.size wz ((wz.alloc (.cells #[.int .i64 n, .int .i64 m] 3)).alloc (.cells #[.int .i64 u.k, .int .i64 u.n, .slice a1 u.ks.length c1, .int .i64 v.k, .int .i64 v.n, .slice a2 v.ks.length c2] 24)) := bl_alloc (bl_alloc (Below.refl _ _) _) _
      have l1 : Ls ((wz.alloc (.cells #[.int .i64 n, .int .i64 m] 3)).alloc (.cells #[.int .i64 u.k, .int .i64 u.n, .slice a1 u.ks.length c1, .int .i64 v.k, .int .i64 v.n, .slice a2 v.ks.length c2] 24)) Any (.slice (some ⟨wz.heap.size, 0, none⟩) 2 2) [n, m] := (Ls.row wz [n, m] (by simp [maxLen]) 3).below (bl_alloc (Below.refl _ _) _)
      have l2 := TAtL.row (wz.alloc (.cells #[.int .i64 n, .int .i64 m] 3)) (max n1 n2) [u, v] [.int .i64 u.k, .int .i64 u.n, .slice a1 u.ks.length c1, .int .i64 v.k, .int .i64 v.n, .slice a2 v.ks.length c2] 24 (by simp [maxLen]) (fun i x hx => by
        match i, hx with
        | 0, hx => obtain rfl : u = x := by simpa using hx
                   exact ⟨_, ((H1.out.below hz).below (bl_alloc (Below.refl _ _) _)).le (Nat.le_max_left _ _), seg_two0 _ _ _ _ _ _⟩
        | 1, hx => obtain rfl : v = x := by simpa using hx
                   exact ⟨_, ((H2.out.below hz).below (bl_alloc (Below.refl _ _) _)).le (Nat.le_max_right _ _), seg_two1 _ _ _ _ _ _⟩
        | i + 2, hx => simp at hx)
      rw [size_alloc] at l2
      refine (Replace_any _ n0 (max n1 n2) _ t 6 _ _ [n, m] [u, v] ((H0.out.below hz).below k1) l1 l2).mono ?_
      rintro e w' ⟨vs', n', e1, e2, e3⟩
      exact ⟨vs', n', e1, e2.any, bl_tr k1 e3⟩
    have hP1 : Hid (∀ (wz : World) (nx : Nat) (vx : List Value) (x : Tp) (i : Int) (na : Nat) (va0 va1 va2 : Value) (by_ : Tp) (z : Nat), wz.heap.size = z → Below w.heap.size w wz → TAt wz Any nx vx x → TAt wz Any na [va0, va1, va2] by_ → Calls Tryd.prog 9 #[.agg vx.toArray, .int .i64 6, .slice (some ⟨z, 0, none⟩) 1 1, .slice (some ⟨z + 1, 0, none⟩) 1 1] ((wz.alloc (.cells #[.int .i64 i] 3)).alloc (.cells #[va0, va1, va2] 24)) fun e w' => ∃ vs' n', e = .returned (.tuple #[.agg vs'.toArray, .int .i64 (Tp.repl 6 [i] [by_] x).2]) ∧ TAt w' (fun b => wz.heap.size ≤ b) n' vs' (Tp.repl 6 [i] [by_] x).1 ∧ Below wz.heap.size wz w') := by
      intro wz nx vx x i na va0 va1 va2 by_ z hzz hz hx hy
      subst hzz
      have k1 : Below wz.heap.size wz ((wz.alloc (.cells #[.int .i64 i] 3)).alloc (.cells #[va0, va1, va2] 24)) := bl_alloc (bl_alloc (Below.refl _ _) _) _
      have l1 : Ls ((wz.alloc (.cells #[.int .i64 i] 3)).alloc (.cells #[va0, va1, va2] 24)) Any (.slice (some ⟨wz.heap.size, 0, none⟩) 1 1) [i] := (Ls.row wz [i] (by simp [maxLen]) 3).below (bl_alloc (Below.refl _ _) _)
      have l2 := TAtL.row (wz.alloc (.cells #[.int .i64 i] 3)) na [by_] [va0, va1, va2] 24 (by simp [maxLen]) (fun j y hy2 => by
        match j, hy2 with
        | 0, hy2 => obtain rfl : by_ = y := by simpa using hy2
                    exact ⟨_, hy.below (bl_alloc (Below.refl _ _) _), seg_one _ _ _⟩
        | j + 1, hy2 => simp at hy2)
      rw [size_alloc] at l2
      refine (Replace_any _ nx na _ x 6 _ _ [i] [by_] (hx.below k1) l1 l2).mono ?_
      rintro e w' ⟨vs', n', e1, e2, e3⟩
      exact ⟨vs', n', e1, e2.move (Keeps.refl _ _) (fun b hb => by have := k1.size; omega), bl_tr k1 e3⟩
    have hSm : Hid (∀ (wz : World) (nx ny : Nat) (vx vy : List Value) (x : Tp), TAt wz Any nx vx x → TAt wz Any ny vy x → Calls Tryd.prog 10 #[.agg vx.toArray, .agg vy.toArray] wz fun e w' => e = .returned (.bool true) ∧ Below wz.heap.size wz w') := fun wz nx ny vx vy x hx hy => (Same_any wz nx ny vx vy x x hx hy).mono fun e w' h => by rw [show (Tp.cmp x x == 0) = true by rw [beq_iff_eq]; exact (Tp.cmp_eq _ _).2 rfl] at h; exact h
    clear h0 h1 h2 hW hnm hc hn hm hhas hput
    rcases Tp.repl_cases 6 [n] [u] t rfl with hr1 | hr1
    · have HR1 : Hid (Tp.repl 6 [n] [u] t = (Tp.put 6 [n] [u] t, 0)) := hr1
      clear hr1
      rcases Tp.repl_cases 6 [n, m] [u, v] t rfl with hr2 | hr2
      · rw [hr2] at hP2
        clear hr2
        rcases Tp.repl_cases 6 [m] [v] (Tp.put 6 [n] [u] t) rfl with hr3 | hr3
        · have HR3 : Hid (Tp.repl 6 [m] [v] (Tp.put 6 [n] [u] t) = (Tp.put 6 [n, m] [u, v] t, 0)) := by show _ = _; rw [hr3, HEQ.out]
          clear hr3 HEQ
          simp only at hP2
          generalize Tp.put 6 [n, m] [u, v] t = ra at hP2 HR3
          generalize Tp.put 6 [n] [u] t = rb at HR1 HR3
          have m0 := True.intro
          go_enter Tryd.func3, Tryd.ntmps3
          go_wp2_with (first
            | (go_at_call 7; refine (hSt.out _ B1.out).mono ?_; rintro e w2 ⟨y2, rfl, hL2, hb2⟩; obtain ⟨p2, k2, rfl, -⟩ := hL2.form; have HL2 : Hid (Ls w2 Any _ _) := hL2; have B2 : Hid (Below w.heap.size w w2) := bl_tr B1.out hb2; have Y0 : Hid (Arr w2 w.heap.size _ _) := X0.out.stays hb2; have Y1 : Hid (Arr w2 (w.heap.size + 1) _ _) := X1.out.stays hb2; have Y2 : Hid (Arr w2 (w.heap.size + 2) _ _) := X2.out.stays hb2; have y0 := Y0.out.cell; have y1 : ∀ o j, (w2.alloc o).cell? ⟨w.heap.size + 1, j, none⟩ = _ := (fun o j => (Y1.out.stays (bl_alloc (Below.refl _ _) o)).cell j); have y2 : ∀ o j, (w2.alloc o).cell? ⟨w.heap.size + 2, j, none⟩ = _ := (fun o j => (Y2.out.stays (bl_alloc (Below.refl _ _) o)).cell j); clear hL2 hb2)
            | (go_at_call 6; refine (hIn.out _ _ HL2.out).mono ?_; rintro e w3 ⟨rfl, hw⟩; rw [hw]; clear hw w3 hIn)
            | (go_at_call 9; have _ := m2; refine (hP1.out (w6.alloc (.cells #[.int .i64 rb.k, .int .i64 rb.n, .slice a6 rb.ks.length c6] 24)) n6 [.int .i64 rb.k, .int .i64 rb.n, .slice a6 rb.ks.length c6] rb m n2 _ _ _ v (w6.heap.size + 1) (size_alloc _ _) (bl_alloc B6.out _) (HT6.out.below (bl_alloc (Below.refl _ _) _)) (H2.out.below (bl_alloc B6.out _))).mono ?_; rw [HR3.out]; rintro e w8 ⟨vs8, n8, rfl, hT8, hb8⟩; obtain ⟨a8, c8, rfl⟩ := hT8.form; have B8 : Hid (Below w.heap.size w w8) := bl_tr (bl_alloc B6.out _) hb8; have XB : Hid (Arr w8 w6.heap.size 24 [.int .i64 rb.k, .int .i64 rb.n, .slice a6 rb.ks.length c6]) := Arr.stays (w := w6.alloc (.cells #[.int .i64 rb.k, .int .i64 rb.n, .slice a6 rb.ks.length c6] 24)) (⟨heap_alloc_at _ _⟩) hb8; have XA8 : Hid (Arr w8 w4.heap.size 24 [.int .i64 ra.k, .int .i64 ra.n, .slice a4 ra.ks.length c4]) := (XA.out.stays (bl_alloc (Below.refl _ _) _)).stays hb8; have UA8 : Hid (TAt w8 (fun b => b < w4.heap.size) n4 _ ra) := (UA.out.below (bl_alloc (Below.refl _ _) _)).below hb8; have UB8 : Hid (TAt w8 (fun b => w6.heap.size + 1 ≤ b) n8 _ ra) := hT8.move (Keeps.refl _ _) (fun b hb => by rw [size_alloc] at hb; exact hb); have hlt := XA.out.lt; have hne : ¬ w4.heap.size = w6.heap.size := (by omega); have q0 := XB.out.cell; have q1 := XB.out.frozen; have q2 := XA8.out.cell; have m3 := True.intro; clear hT8 hb8 m2 v2)
            | (go_at_call 9; have _ := m1; refine (hP1.out (w4.alloc (.cells #[.int .i64 ra.k, .int .i64 ra.n, .slice a4 ra.ks.length c4] 24)) n0 [.int .i64 t.k, .int .i64 t.n, .slice a0 t.ks.length c0] t n n1 _ _ _ u (w4.heap.size + 1) (size_alloc _ _) (bl_alloc B4.out _) (H0.out.below (bl_alloc B4.out _)) (H1.out.below (bl_alloc B4.out _))).mono ?_; rw [HR1.out]; rintro e w6 ⟨vs6, n6, rfl, hT6, hb6⟩; obtain ⟨a6, c6, rfl⟩ := hT6.form; have B6 : Hid (Below w.heap.size w w6) := bl_tr (bl_alloc B4.out _) hb6; have V2 : Hid (Arr w6 (w.heap.size + 2) _ _) := (Z2.out.stays (bl_alloc (Below.refl _ _) _)).stays hb6; have XA : Hid (Arr w6 w4.heap.size 24 [.int .i64 ra.k, .int .i64 ra.n, .slice a4 ra.ks.length c4]) := Arr.stays (w := w4.alloc (.cells #[.int .i64 ra.k, .int .i64 ra.n, .slice a4 ra.ks.length c4] 24)) (⟨heap_alloc_at _ _⟩) hb6; have HT6 : Hid (TAt w6 Any n6 _ rb) := hT6.any; have UA : Hid (TAt w6 (fun b => b < w4.heap.size) n4 _ ra) := (TAt.old HT4.out).below (bl_tr (bl_alloc (Below.refl _ _) _) hb6); have v2 : ∀ o o' j, ((w6.alloc o).alloc o').cell? ⟨w.heap.size + 2, j, none⟩ = _ := (fun o o' j => ((V2.out.stays (bl_alloc (Below.refl _ _) o)).stays (bl_alloc (Below.refl _ _) o')).cell j); have m2 := True.intro; clear hT6 hb6 m1 z0 z1)
            | (go_at_call 9; have _ := m0; refine (hP2.out w2 B2.out).mono ?_; rintro e w4 ⟨vs4, n4, rfl, hT4, hb4⟩; obtain ⟨a4, c4, rfl⟩ := hT4.form; have B4 : Hid (Below w.heap.size w w4) := bl_tr B2.out hb4; have Z0 : Hid (Arr w4 w.heap.size _ _) := Y0.out.stays hb4; have Z1 : Hid (Arr w4 (w.heap.size + 1) _ _) := Y1.out.stays hb4; have Z2 : Hid (Arr w4 (w.heap.size + 2) _ _) := Y2.out.stays hb4; have HT4 : Hid (TAt w4 Any n4 _ _) := hT4; have z0 : ∀ o j, (w4.alloc o).cell? ⟨w.heap.size, j, none⟩ = _ := (fun o j => (Z0.out.stays (bl_alloc (Below.refl _ _) o)).cell j); have z1 : ∀ o o' j, ((w4.alloc o).alloc o').cell? ⟨w.heap.size + 1, j, none⟩ = _ := (fun o o' j => ((Z1.out.stays (bl_alloc (Below.refl _ _) o)).stays (bl_alloc (Below.refl _ _) o')).cell j); have m1 := True.intro; clear hT4 hb4 m0 y0 y1 y2)
            | (go_at_call 10; refine (hSm.out _ n4 n8 [_, _, _] [_, _, _] ra (UA8.out.move (((Keeps.set (p := ⟨w6.heap.size, 0, none⟩) (by show ¬ w6.heap.size < w4.heap.size; omega) _).trans (Keeps.set (p := ⟨w6.heap.size, 1, none⟩) (by show ¬ w6.heap.size < w4.heap.size; omega) _)).trans (Keeps.set (p := ⟨w6.heap.size, 2, none⟩) (by show ¬ w6.heap.size < w4.heap.size; omega) _)) (fun _ _ => trivial)) (UB8.out.move (((Keeps.set (p := ⟨w6.heap.size, 0, none⟩) (by show ¬ w6.heap.size + 1 ≤ w6.heap.size; omega) _).trans (Keeps.set (p := ⟨w6.heap.size, 1, none⟩) (by show ¬ w6.heap.size + 1 ≤ w6.heap.size; omega) _)).trans (Keeps.set (p := ⟨w6.heap.size, 2, none⟩) (by show ¬ w6.heap.size + 1 ≤ w6.heap.size; omega) _)) (fun _ _ => trivial))).mono ?_; rintro e w9 ⟨rfl, hb9⟩; have B9 : Hid (Below w.heap.size w w9) := bl_tr (bl_set _ _ (bl_set _ _ (bl_set _ _ B8.out (by have := B6.out.size; show _ ≤ w6.heap.size; omega)) (by have := B6.out.size; show _ ≤ w6.heap.size; omega)) (by have := B6.out.size; show _ ≤ w6.heap.size; omega)) hb9; clear hb9)
            | (go_at_call 8; refine (hA.out _ B9.out).mono ?_; rintro e wx ⟨rfl, hbx⟩))
          go_ret
          exact ⟨rfl, bl_tr B9.out hbx⟩
        · have HR3 : Hid (Tp.repl 6 [m] [v] (Tp.put 6 [n] [u] t) = (Tp.zero, 3)) := hr3
          clear hr3 HEQ
          simp only at hP2
          generalize Tp.put 6 [n, m] [u, v] t = ra at hP2
          generalize Tp.put 6 [n] [u] t = rb at HR1 HR3
          generalize Tp.zero = rc at HR3
          have m0 := True.intro
          go_enter Tryd.func3, Tryd.ntmps3
          go_wp2_with (first
            | (go_at_call 7; refine (hSt.out _ B1.out).mono ?_; rintro e w2 ⟨y2, rfl, hL2, hb2⟩; obtain ⟨p2, k2, rfl, -⟩ := hL2.form; have HL2 : Hid (Ls w2 Any _ _) := hL2; have B2 : Hid (Below w.heap.size w w2) := bl_tr B1.out hb2; have Y0 : Hid (Arr w2 w.heap.size _ _) := X0.out.stays hb2; have Y1 : Hid (Arr w2 (w.heap.size + 1) _ _) := X1.out.stays hb2; have Y2 : Hid (Arr w2 (w.heap.size + 2) _ _) := X2.out.stays hb2; have y0 := Y0.out.cell; have y1 : ∀ o j, (w2.alloc o).cell? ⟨w.heap.size + 1, j, none⟩ = _ := (fun o j => (Y1.out.stays (bl_alloc (Below.refl _ _) o)).cell j); have y2 : ∀ o j, (w2.alloc o).cell? ⟨w.heap.size + 2, j, none⟩ = _ := (fun o j => (Y2.out.stays (bl_alloc (Below.refl _ _) o)).cell j); clear hL2 hb2)
            | (go_at_call 6; refine (hIn.out _ _ HL2.out).mono ?_; rintro e w3 ⟨rfl, hw⟩; rw [hw]; clear hw w3 hIn)
            | (go_at_call 9; have _ := m2; refine (hP1.out (w6.alloc (.cells #[.int .i64 rb.k, .int .i64 rb.n, .slice a6 rb.ks.length c6] 24)) n6 [.int .i64 rb.k, .int .i64 rb.n, .slice a6 rb.ks.length c6] rb m n2 _ _ _ v (w6.heap.size + 1) (size_alloc _ _) (bl_alloc B6.out _) (HT6.out.below (bl_alloc (Below.refl _ _) _)) (H2.out.below (bl_alloc B6.out _))).mono ?_; rw [HR3.out]; rintro e w8 ⟨vs8, n8, rfl, hT8, hb8⟩; obtain ⟨a8, c8, rfl⟩ := hT8.form; have B8 : Hid (Below w.heap.size w w8) := bl_tr (bl_alloc B6.out _) hb8; have XB : Hid (Arr w8 w6.heap.size 24 [.int .i64 rb.k, .int .i64 rb.n, .slice a6 rb.ks.length c6]) := Arr.stays (w := w6.alloc (.cells #[.int .i64 rb.k, .int .i64 rb.n, .slice a6 rb.ks.length c6] 24)) (⟨heap_alloc_at _ _⟩) hb8; have XA8 : Hid (Arr w8 w4.heap.size 24 [.int .i64 ra.k, .int .i64 ra.n, .slice a4 ra.ks.length c4]) := (XA.out.stays (bl_alloc (Below.refl _ _) _)).stays hb8; have UA8 : Hid (TAt w8 (fun b => b < w4.heap.size) n4 _ ra) := (UA.out.below (bl_alloc (Below.refl _ _) _)).below hb8; have UB8 : Hid (TAt w8 (fun b => w6.heap.size + 1 ≤ b) n8 _ rc) := hT8.move (Keeps.refl _ _) (fun b hb => by rw [size_alloc] at hb; exact hb); have hlt := XA.out.lt; have hne : ¬ w4.heap.size = w6.heap.size := (by omega); have q0 := XB.out.cell; have q1 := XB.out.frozen; have q2 := XA8.out.cell; have m3 := True.intro; clear hT8 hb8 m2 v2)
            | (go_at_call 9; have _ := m1; refine (hP1.out (w4.alloc (.cells #[.int .i64 ra.k, .int .i64 ra.n, .slice a4 ra.ks.length c4] 24)) n0 [.int .i64 t.k, .int .i64 t.n, .slice a0 t.ks.length c0] t n n1 _ _ _ u (w4.heap.size + 1) (size_alloc _ _) (bl_alloc B4.out _) (H0.out.below (bl_alloc B4.out _)) (H1.out.below (bl_alloc B4.out _))).mono ?_; rw [HR1.out]; rintro e w6 ⟨vs6, n6, rfl, hT6, hb6⟩; obtain ⟨a6, c6, rfl⟩ := hT6.form; have B6 : Hid (Below w.heap.size w w6) := bl_tr (bl_alloc B4.out _) hb6; have V2 : Hid (Arr w6 (w.heap.size + 2) _ _) := (Z2.out.stays (bl_alloc (Below.refl _ _) _)).stays hb6; have XA : Hid (Arr w6 w4.heap.size 24 [.int .i64 ra.k, .int .i64 ra.n, .slice a4 ra.ks.length c4]) := Arr.stays (w := w4.alloc (.cells #[.int .i64 ra.k, .int .i64 ra.n, .slice a4 ra.ks.length c4] 24)) (⟨heap_alloc_at _ _⟩) hb6; have HT6 : Hid (TAt w6 Any n6 _ rb) := hT6.any; have UA : Hid (TAt w6 (fun b => b < w4.heap.size) n4 _ ra) := (TAt.old HT4.out).below (bl_tr (bl_alloc (Below.refl _ _) _) hb6); have v2 : ∀ o o' j, ((w6.alloc o).alloc o').cell? ⟨w.heap.size + 2, j, none⟩ = _ := (fun o o' j => ((V2.out.stays (bl_alloc (Below.refl _ _) o)).stays (bl_alloc (Below.refl _ _) o')).cell j); have m2 := True.intro; clear hT6 hb6 m1 z0 z1)
            | (go_at_call 9; have _ := m0; refine (hP2.out w2 B2.out).mono ?_; rintro e w4 ⟨vs4, n4, rfl, hT4, hb4⟩; obtain ⟨a4, c4, rfl⟩ := hT4.form; have B4 : Hid (Below w.heap.size w w4) := bl_tr B2.out hb4; have Z0 : Hid (Arr w4 w.heap.size _ _) := Y0.out.stays hb4; have Z1 : Hid (Arr w4 (w.heap.size + 1) _ _) := Y1.out.stays hb4; have Z2 : Hid (Arr w4 (w.heap.size + 2) _ _) := Y2.out.stays hb4; have HT4 : Hid (TAt w4 Any n4 _ _) := hT4; have z0 : ∀ o j, (w4.alloc o).cell? ⟨w.heap.size, j, none⟩ = _ := (fun o j => (Z0.out.stays (bl_alloc (Below.refl _ _) o)).cell j); have z1 : ∀ o o' j, ((w4.alloc o).alloc o').cell? ⟨w.heap.size + 1, j, none⟩ = _ := (fun o o' j => ((Z1.out.stays (bl_alloc (Below.refl _ _) o)).stays (bl_alloc (Below.refl _ _) o')).cell j); have m1 := True.intro; clear hT4 hb4 m0 y0 y1 y2)
            | (go_at_call 8; refine (hA.out _ (bl_set _ _ (bl_set _ _ (bl_set _ _ B8.out (by have := B6.out.size; show _ ≤ w6.heap.size; omega)) (by have := B6.out.size; show _ ≤ w6.heap.size; omega)) (by have := B6.out.size; show _ ≤ w6.heap.size; omega))).mono ?_; rintro e wx ⟨rfl, hbx⟩))
          go_ret
          exact ⟨rfl, bl_tr (bl_set _ _ (bl_set _ _ (bl_set _ _ B8.out (by have := B6.out.size; show _ ≤ w6.heap.size; omega)) (by have := B6.out.size; show _ ≤ w6.heap.size; omega)) (by have := B6.out.size; show _ ≤ w6.heap.size; omega)) hbx⟩
      · rw [hr2] at hP2
        clear hr2 HEQ
        simp only at hP2
        generalize Tp.zero = ra at hP2
        obtain ⟨rc, qc, HR3⟩ : ∃ rc qc, Hid (Tp.repl 6 [m] [v] (Tp.put 6 [n] [u] t) = (rc, qc)) := ⟨_, _, rfl⟩
        generalize Tp.put 6 [n] [u] t = rb at HR1 HR3
        have m0 := True.intro
        go_enter Tryd.func3, Tryd.ntmps3
        go_wp2_with (first
          | (go_at_call 7; refine (hSt.out _ B1.out).mono ?_; rintro e w2 ⟨y2, rfl, hL2, hb2⟩; obtain ⟨p2, k2, rfl, -⟩ := hL2.form; have HL2 : Hid (Ls w2 Any _ _) := hL2; have B2 : Hid (Below w.heap.size w w2) := bl_tr B1.out hb2; have Y0 : Hid (Arr w2 w.heap.size _ _) := X0.out.stays hb2; have Y1 : Hid (Arr w2 (w.heap.size + 1) _ _) := X1.out.stays hb2; have Y2 : Hid (Arr w2 (w.heap.size + 2) _ _) := X2.out.stays hb2; have y0 := Y0.out.cell; have y1 : ∀ o j, (w2.alloc o).cell? ⟨w.heap.size + 1, j, none⟩ = _ := (fun o j => (Y1.out.stays (bl_alloc (Below.refl _ _) o)).cell j); have y2 : ∀ o j, (w2.alloc o).cell? ⟨w.heap.size + 2, j, none⟩ = _ := (fun o j => (Y2.out.stays (bl_alloc (Below.refl _ _) o)).cell j); clear hL2 hb2)
          | (go_at_call 6; refine (hIn.out _ _ HL2.out).mono ?_; rintro e w3 ⟨rfl, hw⟩; rw [hw]; clear hw w3 hIn)
          | (go_at_call 9; have _ := m2; refine (hP1.out (w6.alloc (.cells #[.int .i64 rb.k, .int .i64 rb.n, .slice a6 rb.ks.length c6] 24)) n6 [.int .i64 rb.k, .int .i64 rb.n, .slice a6 rb.ks.length c6] rb m n2 _ _ _ v (w6.heap.size + 1) (size_alloc _ _) (bl_alloc B6.out _) (HT6.out.below (bl_alloc (Below.refl _ _) _)) (H2.out.below (bl_alloc B6.out _))).mono ?_; rw [HR3.out]; rintro e w8 ⟨vs8, n8, rfl, hT8, hb8⟩; obtain ⟨a8, c8, rfl⟩ := hT8.form; have B8 : Hid (Below w.heap.size w w8) := bl_tr (bl_alloc B6.out _) hb8; have XB : Hid (Arr w8 w6.heap.size 24 [.int .i64 rb.k, .int .i64 rb.n, .slice a6 rb.ks.length c6]) := Arr.stays (w := w6.alloc (.cells #[.int .i64 rb.k, .int .i64 rb.n, .slice a6 rb.ks.length c6] 24)) (⟨heap_alloc_at _ _⟩) hb8; have XA8 : Hid (Arr w8 w4.heap.size 24 [.int .i64 ra.k, .int .i64 ra.n, .slice a4 ra.ks.length c4]) := (XA.out.stays (bl_alloc (Below.refl _ _) _)).stays hb8; have UA8 : Hid (TAt w8 (fun b => b < w4.heap.size) n4 _ ra) := (UA.out.below (bl_alloc (Below.refl _ _) _)).below hb8; have UB8 : Hid (TAt w8 (fun b => w6.heap.size + 1 ≤ b) n8 _ rc) := hT8.move (Keeps.refl _ _) (fun b hb => by rw [size_alloc] at hb; exact hb); have hlt := XA.out.lt; have hne : ¬ w4.heap.size = w6.heap.size := (by omega); have q0 := XB.out.cell; have q1 := XB.out.frozen; have q2 := XA8.out.cell; have m3 := True.intro; clear hT8 hb8 m2 v2)
          | (go_at_call 9; have _ := m1; refine (hP1.out (w4.alloc (.cells #[.int .i64 ra.k, .int .i64 ra.n, .slice a4 ra.ks.length c4] 24)) n0 [.int .i64 t.k, .int .i64 t.n, .slice a0 t.ks.length c0] t n n1 _ _ _ u (w4.heap.size + 1) (size_alloc _ _) (bl_alloc B4.out _) (H0.out.below (bl_alloc B4.out _)) (H1.out.below (bl_alloc B4.out _))).mono ?_; rw [HR1.out]; rintro e w6 ⟨vs6, n6, rfl, hT6, hb6⟩; obtain ⟨a6, c6, rfl⟩ := hT6.form; have B6 : Hid (Below w.heap.size w w6) := bl_tr (bl_alloc B4.out _) hb6; have V2 : Hid (Arr w6 (w.heap.size + 2) _ _) := (Z2.out.stays (bl_alloc (Below.refl _ _) _)).stays hb6; have XA : Hid (Arr w6 w4.heap.size 24 [.int .i64 ra.k, .int .i64 ra.n, .slice a4 ra.ks.length c4]) := Arr.stays (w := w4.alloc (.cells #[.int .i64 ra.k, .int .i64 ra.n, .slice a4 ra.ks.length c4] 24)) (⟨heap_alloc_at _ _⟩) hb6; have HT6 : Hid (TAt w6 Any n6 _ rb) := hT6.any; have UA : Hid (TAt w6 (fun b => b < w4.heap.size) n4 _ ra) := (TAt.old HT4.out).below (bl_tr (bl_alloc (Below.refl _ _) _) hb6); have v2 : ∀ o o' j, ((w6.alloc o).alloc o').cell? ⟨w.heap.size + 2, j, none⟩ = _ := (fun o o' j => ((V2.out.stays (bl_alloc (Below.refl _ _) o)).stays (bl_alloc (Below.refl _ _) o')).cell j); have m2 := True.intro; clear hT6 hb6 m1 z0 z1)
          | (go_at_call 9; have _ := m0; refine (hP2.out w2 B2.out).mono ?_; rintro e w4 ⟨vs4, n4, rfl, hT4, hb4⟩; obtain ⟨a4, c4, rfl⟩ := hT4.form; have B4 : Hid (Below w.heap.size w w4) := bl_tr B2.out hb4; have Z0 : Hid (Arr w4 w.heap.size _ _) := Y0.out.stays hb4; have Z1 : Hid (Arr w4 (w.heap.size + 1) _ _) := Y1.out.stays hb4; have Z2 : Hid (Arr w4 (w.heap.size + 2) _ _) := Y2.out.stays hb4; have HT4 : Hid (TAt w4 Any n4 _ _) := hT4; have z0 : ∀ o j, (w4.alloc o).cell? ⟨w.heap.size, j, none⟩ = _ := (fun o j => (Z0.out.stays (bl_alloc (Below.refl _ _) o)).cell j); have z1 : ∀ o o' j, ((w4.alloc o).alloc o').cell? ⟨w.heap.size + 1, j, none⟩ = _ := (fun o o' j => ((Z1.out.stays (bl_alloc (Below.refl _ _) o)).stays (bl_alloc (Below.refl _ _) o')).cell j); have m1 := True.intro; clear hT4 hb4 m0 y0 y1 y2)
          | (go_at_call 8; refine (hA.out _ (bl_set _ _ (bl_set _ _ (bl_set _ _ B8.out (by have := B6.out.size; show _ ≤ w6.heap.size; omega)) (by have := B6.out.size; show _ ≤ w6.heap.size; omega)) (by have := B6.out.size; show _ ≤ w6.heap.size; omega))).mono ?_; rintro e wx ⟨rfl, hbx⟩))
        go_ret
        exact ⟨rfl, bl_tr (bl_set _ _ (bl_set _ _ (bl_set _ _ B8.out (by have := B6.out.size; show _ ≤ w6.heap.size; omega)) (by have := B6.out.size; show _ ≤ w6.heap.size; omega)) (by have := B6.out.size; show _ ≤ w6.heap.size; omega)) hbx⟩
    · have HR1 : Hid (Tp.repl 6 [n] [u] t = (Tp.zero, 3)) := hr1
      clear hr1 HEQ
      rcases Tp.repl_cases 6 [n, m] [u, v] t rfl with hr2 | hr2
      · rw [hr2] at hP2
        clear hr2
        simp only at hP2
        generalize Tp.put 6 [n, m] [u, v] t = ra at hP2
        generalize Tp.zero = rb at HR1
        have m0 := True.intro
        go_enter Tryd.func3, Tryd.ntmps3
        go_wp2_with (first
          | (go_at_call 7; refine (hSt.out _ B1.out).mono ?_; rintro e w2 ⟨y2, rfl, hL2, hb2⟩; obtain ⟨p2, k2, rfl, -⟩ := hL2.form; have HL2 : Hid (Ls w2 Any _ _) := hL2; have B2 : Hid (Below w.heap.size w w2) := bl_tr B1.out hb2; have Y0 : Hid (Arr w2 w.heap.size _ _) := X0.out.stays hb2; have Y1 : Hid (Arr w2 (w.heap.size + 1) _ _) := X1.out.stays hb2; have Y2 : Hid (Arr w2 (w.heap.size + 2) _ _) := X2.out.stays hb2; have y0 := Y0.out.cell; have y1 : ∀ o j, (w2.alloc o).cell? ⟨w.heap.size + 1, j, none⟩ = _ := (fun o j => (Y1.out.stays (bl_alloc (Below.refl _ _) o)).cell j); have y2 : ∀ o j, (w2.alloc o).cell? ⟨w.heap.size + 2, j, none⟩ = _ := (fun o j => (Y2.out.stays (bl_alloc (Below.refl _ _) o)).cell j); clear hL2 hb2)
          | (go_at_call 6; refine (hIn.out _ _ HL2.out).mono ?_; rintro e w3 ⟨rfl, hw⟩; rw [hw]; clear hw w3 hIn)
          | (go_at_call 9; have _ := m1; refine (hP1.out (w4.alloc (.cells #[.int .i64 ra.k, .int .i64 ra.n, .slice a4 ra.ks.length c4] 24)) n0 [.int .i64 t.k, .int .i64 t.n, .slice a0 t.ks.length c0] t n n1 _ _ _ u (w4.heap.size + 1) (size_alloc _ _) (bl_alloc B4.out _) (H0.out.below (bl_alloc B4.out _)) (H1.out.below (bl_alloc B4.out _))).mono ?_; rw [HR1.out]; rintro e w6 ⟨vs6, n6, rfl, hT6, hb6⟩; obtain ⟨a6, c6, rfl⟩ := hT6.form; have B6 : Hid (Below w.heap.size w w6) := bl_tr (bl_alloc B4.out _) hb6; have V2 : Hid (Arr w6 (w.heap.size + 2) _ _) := (Z2.out.stays (bl_alloc (Below.refl _ _) _)).stays hb6; have XA : Hid (Arr w6 w4.heap.size 24 [.int .i64 ra.k, .int .i64 ra.n, .slice a4 ra.ks.length c4]) := Arr.stays (w := w4.alloc (.cells #[.int .i64 ra.k, .int .i64 ra.n, .slice a4 ra.ks.length c4] 24)) (⟨heap_alloc_at _ _⟩) hb6; have HT6 : Hid (TAt w6 Any n6 _ rb) := hT6.any; have UA : Hid (TAt w6 (fun b => b < w4.heap.size) n4 _ ra) := (TAt.old HT4.out).below (bl_tr (bl_alloc (Below.refl _ _) _) hb6); have v2 : ∀ o o' j, ((w6.alloc o).alloc o').cell? ⟨w.heap.size + 2, j, none⟩ = _ := (fun o o' j => ((V2.out.stays (bl_alloc (Below.refl _ _) o)).stays (bl_alloc (Below.refl _ _) o')).cell j); have m2 := True.intro; clear hT6 hb6 m1 z0 z1)
          | (go_at_call 9; have _ := m0; refine (hP2.out w2 B2.out).mono ?_; rintro e w4 ⟨vs4, n4, rfl, hT4, hb4⟩; obtain ⟨a4, c4, rfl⟩ := hT4.form; have B4 : Hid (Below w.heap.size w w4) := bl_tr B2.out hb4; have Z0 : Hid (Arr w4 w.heap.size _ _) := Y0.out.stays hb4; have Z1 : Hid (Arr w4 (w.heap.size + 1) _ _) := Y1.out.stays hb4; have Z2 : Hid (Arr w4 (w.heap.size + 2) _ _) := Y2.out.stays hb4; have HT4 : Hid (TAt w4 Any n4 _ _) := hT4; have z0 : ∀ o j, (w4.alloc o).cell? ⟨w.heap.size, j, none⟩ = _ := (fun o j => (Z0.out.stays (bl_alloc (Below.refl _ _) o)).cell j); have z1 : ∀ o o' j, ((w4.alloc o).alloc o').cell? ⟨w.heap.size + 1, j, none⟩ = _ := (fun o o' j => ((Z1.out.stays (bl_alloc (Below.refl _ _) o)).stays (bl_alloc (Below.refl _ _) o')).cell j); have m1 := True.intro; clear hT4 hb4 m0 y0 y1 y2)
          | (go_at_call 8; refine (hA.out _ (bl_alloc B6.out _)).mono ?_; rintro e wx ⟨rfl, hbx⟩))
        go_ret
        exact ⟨rfl, bl_tr (bl_alloc B6.out _) hbx⟩
      · rw [hr2] at hP2
        clear hr2
        simp only at hP2
        generalize hra : Tp.zero = ra at hP2
        generalize Tp.zero = rb at HR1 hra
        clear hra
        have m0 := True.intro
        go_enter Tryd.func3, Tryd.ntmps3
        go_wp2_with (first
          | (go_at_call 7; refine (hSt.out _ B1.out).mono ?_; rintro e w2 ⟨y2, rfl, hL2, hb2⟩; obtain ⟨p2, k2, rfl, -⟩ := hL2.form; have HL2 : Hid (Ls w2 Any _ _) := hL2; have B2 : Hid (Below w.heap.size w w2) := bl_tr B1.out hb2; have Y0 : Hid (Arr w2 w.heap.size _ _) := X0.out.stays hb2; have Y1 : Hid (Arr w2 (w.heap.size + 1) _ _) := X1.out.stays hb2; have Y2 : Hid (Arr w2 (w.heap.size + 2) _ _) := X2.out.stays hb2; have y0 := Y0.out.cell; have y1 : ∀ o j, (w2.alloc o).cell? ⟨w.heap.size + 1, j, none⟩ = _ := (fun o j => (Y1.out.stays (bl_alloc (Below.refl _ _) o)).cell j); have y2 : ∀ o j, (w2.alloc o).cell? ⟨w.heap.size + 2, j, none⟩ = _ := (fun o j => (Y2.out.stays (bl_alloc (Below.refl _ _) o)).cell j); clear hL2 hb2)
          | (go_at_call 6; refine (hIn.out _ _ HL2.out).mono ?_; rintro e w3 ⟨rfl, hw⟩; rw [hw]; clear hw w3 hIn)
          | (go_at_call 9; have _ := m1; refine (hP1.out (w4.alloc (.cells #[.int .i64 ra.k, .int .i64 ra.n, .slice a4 ra.ks.length c4] 24)) n0 [.int .i64 t.k, .int .i64 t.n, .slice a0 t.ks.length c0] t n n1 _ _ _ u (w4.heap.size + 1) (size_alloc _ _) (bl_alloc B4.out _) (H0.out.below (bl_alloc B4.out _)) (H1.out.below (bl_alloc B4.out _))).mono ?_; rw [HR1.out]; rintro e w6 ⟨vs6, n6, rfl, hT6, hb6⟩; obtain ⟨a6, c6, rfl⟩ := hT6.form; have B6 : Hid (Below w.heap.size w w6) := bl_tr (bl_alloc B4.out _) hb6; have V2 : Hid (Arr w6 (w.heap.size + 2) _ _) := (Z2.out.stays (bl_alloc (Below.refl _ _) _)).stays hb6; have XA : Hid (Arr w6 w4.heap.size 24 [.int .i64 ra.k, .int .i64 ra.n, .slice a4 ra.ks.length c4]) := Arr.stays (w := w4.alloc (.cells #[.int .i64 ra.k, .int .i64 ra.n, .slice a4 ra.ks.length c4] 24)) (⟨heap_alloc_at _ _⟩) hb6; have HT6 : Hid (TAt w6 Any n6 _ rb) := hT6.any; have UA : Hid (TAt w6 (fun b => b < w4.heap.size) n4 _ ra) := (TAt.old HT4.out).below (bl_tr (bl_alloc (Below.refl _ _) _) hb6); have v2 : ∀ o o' j, ((w6.alloc o).alloc o').cell? ⟨w.heap.size + 2, j, none⟩ = _ := (fun o o' j => ((V2.out.stays (bl_alloc (Below.refl _ _) o)).stays (bl_alloc (Below.refl _ _) o')).cell j); have m2 := True.intro; clear hT6 hb6 m1 z0 z1)
          | (go_at_call 9; have _ := m0; refine (hP2.out w2 B2.out).mono ?_; rintro e w4 ⟨vs4, n4, rfl, hT4, hb4⟩; obtain ⟨a4, c4, rfl⟩ := hT4.form; have B4 : Hid (Below w.heap.size w w4) := bl_tr B2.out hb4; have Z0 : Hid (Arr w4 w.heap.size _ _) := Y0.out.stays hb4; have Z1 : Hid (Arr w4 (w.heap.size + 1) _ _) := Y1.out.stays hb4; have Z2 : Hid (Arr w4 (w.heap.size + 2) _ _) := Y2.out.stays hb4; have HT4 : Hid (TAt w4 Any n4 _ _) := hT4; have z0 : ∀ o j, (w4.alloc o).cell? ⟨w.heap.size, j, none⟩ = _ := (fun o j => (Z0.out.stays (bl_alloc (Below.refl _ _) o)).cell j); have z1 : ∀ o o' j, ((w4.alloc o).alloc o').cell? ⟨w.heap.size + 1, j, none⟩ = _ := (fun o o' j => ((Z1.out.stays (bl_alloc (Below.refl _ _) o)).stays (bl_alloc (Below.refl _ _) o')).cell j); have m1 := True.intro; clear hT4 hb4 m0 y0 y1 y2)
          | (go_at_call 8; refine (hA.out _ (bl_alloc B6.out _)).mono ?_; rintro e wx ⟨rfl, hbx⟩))
        go_ret
        exact ⟨rfl, bl_tr (bl_alloc B6.out _) hbx⟩
end Go.Proofs.YtbdohoebpaiecabDoor
