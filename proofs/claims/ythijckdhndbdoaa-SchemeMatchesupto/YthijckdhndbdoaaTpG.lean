/- The document's own: place, In, counted, Size, Fits, grown. -/
import Derived.Test.YthijckdhndbdoaaTpB
namespace Go.Proofs.Ythijckdhndbdoaa
open Go.RowKit
set_option linter.unusedVariables false
set_option linter.unusedSimpArgs false

set_option maxHeartbeats 1000000 in
set_option maxRecDepth 100000 in
theorem place_any (w : World) (v : Value) (l : List Int) (n : Int) (h : Ls w Any v l) : Calls Try.prog 77 #[v, .int .i64 n] w fun e w' => e = .returned (.int .i64 (Tp.idx n l 0)) ∧ w' = w := by
  obtain ⟨a, c, rfl, hm⟩ := h.form
  unfold maxLen at hm
  go_enter Try.func77, Try.ntmps77
  go_wp2
  go_loopw [5] (fun v wr => ∃ k : Nat, v = .int .i64 k ∧ k ≤ l.length ∧ Hid (Tp.idx n l 0 = Tp.idx n (l.drop k) k) ∧ wr = w) (fun v _ => l.length - (intOf v).toNat)
  case atStart => exact ⟨0, rfl, Nat.zero_le _, rfl, rfl⟩
  case round =>
    obtain ⟨k, rfl, hk, hH, rfl⟩ := hrel
    by_cases hlt : k < l.length
    · obtain ⟨b, o, c', hv, -, -, -, hl⟩ := h.resolve_right (fun h => by rw [h.1] at hlt; exact absurd hlt (Nat.not_lt_zero _))
      injection hv with e1 e2 e3
      subst e1
      obtain ⟨x, hx⟩ : ∃ x, l[k]? = some x := ⟨_, List.getElem?_eq_getElem hlt⟩
      have hc := hl k x hx
      have HX := hH.out
      rw [Tp.idx_at hx] at HX
      clear hl hx hH h e2 e3
      by_cases he : x = n
      · have HY : Hid (Tp.idx n l 0 = (k : Int)) := by show _ = _; rw [HX]; rw [if_pos he]
        have he2 : (x == n) = true := by rw [beq_iff_eq]; exact he
        clear HX he
        go_wp2
        go_ret
        exact ⟨ret_int HY.out.symm, rfl⟩
      · have HY : Hid (Tp.idx n l 0 = Tp.idx n (l.drop (k + 1)) (k + 1)) := by show _ = _; rw [HX]; rw [if_neg he]
        have he2 : (x == n) = false := by rw [beq_eq_false_iff_ne]; exact he
        clear HX he
        go_wp2
        go_roundw
        case rel => exact ⟨k + 1, by go_num, by omega, HY, by first | trivial | rfl⟩
        case measure => simp [intOf]; omega
    · have HX : Hid (Tp.idx n l 0 = -1) := by
        show _ = _
        rw [hH.out, List.drop_eq_nil_of_le (by omega)]; rfl
      clear hH h
      go_wp2
      go_ret
      exact ⟨ret_int HX.out.symm, rfl⟩

def Tp.has (n : Int) : List Int → Bool
  | [] => false
  | x :: r => if x = n then true else Tp.has n r
theorem Tp.has_at {n : Int} {l : List Int} {k : Nat} {x : Int} (hx : l[k]? = some x) : Tp.has n (l.drop k) = if x = n then true else Tp.has n (l.drop (k + 1)) := by
  obtain ⟨h1, e1⟩ := List.getElem?_eq_some_iff.1 hx
  rw [List.drop_eq_getElem_cons h1, e1, Tp.has]
theorem Tp.has_mem (n : Int) : ∀ l : List Int, Tp.has n l = decide (n ∈ l)
  | [] => by simp [Tp.has]
  | x :: r => by
    rw [Tp.has, Tp.has_mem n r]
    by_cases h : x = n
    · rw [if_pos h]; simp [h]
    · rw [if_neg h, decide_eq_decide, List.mem_cons]
      exact ⟨.inr, fun h2 => h2.elim (fun e => absurd e.symm h) id⟩

set_option maxHeartbeats 1000000 in
set_option maxRecDepth 100000 in
theorem refIn_any (w : World) (v : Value) (l : List Int) (n : Int) (h : Ls w Any v l) : Calls Try.prog 73 #[v, .int .i64 n] w fun e w' => e = .returned (.bool (Tp.has n l)) ∧ w' = w := by
  obtain ⟨a, c, rfl, hm⟩ := h.form
  unfold maxLen at hm
  go_enter Try.func73, Try.ntmps73
  go_wp2
  go_loopw [5] (fun v wr => ∃ k : Nat, v = .int .i64 k ∧ k ≤ l.length ∧ Hid (Tp.has n l = Tp.has n (l.drop k)) ∧ wr = w) (fun v _ => l.length - (intOf v).toNat)
  case atStart => exact ⟨0, rfl, Nat.zero_le _, rfl, rfl⟩
  case round =>
    obtain ⟨k, rfl, hk, hH, rfl⟩ := hrel
    by_cases hlt : k < l.length
    · obtain ⟨b, o, c', hv, -, -, -, hl⟩ := h.resolve_right (fun h => by rw [h.1] at hlt; exact absurd hlt (Nat.not_lt_zero _))
      injection hv with e1 e2 e3
      subst e1
      obtain ⟨x, hx⟩ : ∃ x, l[k]? = some x := ⟨_, List.getElem?_eq_getElem hlt⟩
      have hc := hl k x hx
      have HX := hH.out
      rw [Tp.has_at hx] at HX
      clear hl hx hH h e2 e3
      by_cases he : x = n
      · have HY : Hid (Tp.has n l = true) := by show _ = _; rw [HX]; rw [if_pos he]
        have he2 : (x == n) = true := by rw [beq_iff_eq]; exact he
        clear HX he
        go_wp2
        go_ret
        exact ⟨ret_bool HY.out.symm, rfl⟩
      · have HY : Hid (Tp.has n l = Tp.has n (l.drop (k + 1))) := by show _ = _; rw [HX]; rw [if_neg he]
        have he2 : (x == n) = false := by rw [beq_eq_false_iff_ne]; exact he
        clear HX he
        go_wp2
        go_roundw
        case rel => exact ⟨k + 1, by go_num, by omega, HY, by first | trivial | rfl⟩
        case measure => simp [intOf]; omega
    · have HX : Hid (Tp.has n l = false) := by
        show _ = _
        rw [hH.out, List.drop_eq_nil_of_le (by omega)]; rfl
      clear hH h
      go_wp2
      go_ret
      exact ⟨ret_bool HX.out.symm, rfl⟩



theorem Tp.cnt_ks' (t : Tp) : t.cnt = Tp.cntL t.ks + 1 := by cases t; rw [Tp.cnt]; rfl
def Tp.cap (n : Int) : Int := if 1000 < n then 1001 else n
theorem Tp.cap_small {n : Int} (h : n ≤ 1000) : Tp.cap n = n := by unfold Tp.cap; rw [if_neg (by omega)]
theorem Tp.cap_big {n : Int} (h : 1000 < n) : Tp.cap n = 1001 := by unfold Tp.cap; rw [if_pos h]
theorem Tp.upto_cap (n : Int) : (Tp.upto n).1 = Tp.cap n := by unfold Tp.upto Tp.cap; split <;> split <;> first | rfl | omega
theorem Tp.cntL_drop {l : List Tp} {k : Nat} {x : Tp} (hx : l[k]? = some x) : Tp.cntL (l.drop k) = x.cnt + Tp.cntL (l.drop (k + 1)) := by
  obtain ⟨h1, e1⟩ := List.getElem?_eq_some_iff.1 hx
  rw [List.drop_eq_getElem_cons h1, e1, Tp.cntL]
def CountedOf (n : Nat) : Prop := ∀ (w : World) (vs : List Value) (t : Tp) (s : Int), TAt w Any n vs t → 0 ≤ s → s ≤ 1000 → Calls Try.prog 78 #[.agg vs.toArray, .int .i64 s] w fun e w' => e = .returned (.int .i64 (Tp.cap (s + t.cnt))) ∧ Below w.heap.size w w'

set_option maxHeartbeats 2000000 in
set_option maxRecDepth 100000 in
theorem counted_step (n : Nat) (ih : CountedOf n) : CountedOf (n + 1) := by
  intro w vs t s hT h0 h1
  obtain ⟨v, rfl, -, -, hL⟩ := hT.open_
  obtain ⟨a1, c1, rfl, hm⟩ := hL.form
  unfold maxLen at hm
  have HCN : Hid (t.cnt = Tp.cntL t.ks + 1) := Tp.cnt_ks' t
  have HL : Hid (TAtL w Any n (.slice a1 t.ks.length c1) t.ks) := hL
  have X : Hid (Arr (w.alloc (.cells #[.int .i64 t.k, .int .i64 t.n, .slice a1 t.ks.length c1] 24)) w.heap.size 24 [.int .i64 t.k, .int .i64 t.n, .slice a1 t.ks.length c1]) := ⟨heap_alloc_at _ _⟩
  have XB : Hid (Below w.heap.size w (w.alloc (.cells #[.int .i64 t.k, .int .i64 t.n, .slice a1 t.ks.length c1] 24))) := bl_alloc (Below.refl _ _) _
  clear hT hL
  go_enter Try.func78, Try.ntmps78
  go_wp2
  generalize (w.alloc (.cells #[.int .i64 t.k, .int .i64 t.n, .slice a1 t.ks.length c1] 24)) = W1 at X XB ⊢
  go_loopw [1, 5] (fun u v wr => ∃ (k : Nat) (q : Int), v = .int .i64 k ∧ u = .int .i64 q ∧ k ≤ t.ks.length ∧ 0 ≤ q ∧ q ≤ 1001 ∧ Hid (Tp.cap (s + t.cnt) = Tp.cap (q + Tp.cntL (t.ks.drop k))) ∧ Arr wr w.heap.size 24 [.int .i64 t.k, .int .i64 t.n, .slice a1 t.ks.length c1] ∧ Below w.heap.size w wr) (fun _ v _ => t.ks.length - (intOf v).toNat)
  case atStart => exact ⟨0, s + 1, rfl, rfl, Nat.zero_le _, by omega, by omega, by show _ = _; rw [HCN.out, List.drop_zero]; congr 1; omega, X.out, XB.out⟩
  case round =>
    obtain ⟨k, q, rfl, rfl, hk, hq0, hq1, hH, hA, hB⟩ := hrel
    have p0 := hA.cell
    by_cases hlt : k < t.ks.length
    · by_cases hq : q ≤ 1000
      · obtain ⟨g, o, rfl⟩ : ∃ b o, a1 = some ⟨b, o, none⟩ := by
          rcases HL.out with ⟨b, o, c, hv, -⟩ | ⟨h0, -⟩
          · injection hv with e1 e2 e3; exact ⟨b, o, e1⟩
          · rw [h0] at hlt; exact absurd hlt (Nat.not_lt_zero _)
        obtain ⟨x, hxk⟩ : ∃ x, t.ks[k]? = some x := ⟨_, List.getElem?_eq_getElem hlt⟩
        obtain ⟨vx, tx, u0, u1, u2, -, -⟩ := (HL.out.below hB).elem hxk
        obtain ⟨ax, cx, ex⟩ := tx.form
        simp only [List.cons.injEq, and_true, true_and] at ex
        subst ex
        have HQ : Hid (Calls Try.prog 78 #[.agg #[.int .i64 x.k, .int .i64 x.n, .slice ax x.ks.length cx], .int .i64 q] wr fun e w'' => e = .returned (.int .i64 (Tp.cap (q + x.cnt))) ∧ Below wr.heap.size wr w'') := ih wr _ x q tx hq0 hq
        have HX := hH.out
        rw [Tp.cntL_drop hxk] at HX
        have HY : Hid (Tp.cap (s + t.cnt) = Tp.cap (Tp.cap (q + x.cnt) + Tp.cntL (t.ks.drop (k + 1)))) := by
          show _ = _
          rw [HX]
          unfold Tp.cap
          split <;> split <;> split <;> omega
        have hz0 : 0 ≤ Tp.cap (q + x.cnt) := by unfold Tp.cap; split <;> omega
        have hz1 : Tp.cap (q + x.cnt) ≤ 1001 := by unfold Tp.cap; split <;> omega
        have HA : Hid (Arr wr w.heap.size 24 _) := hA
        clear hH HX hxk tx ih HL hA
        generalize Tp.cap (q + x.cnt) = z at HQ HY hz0 hz1
        go_wp2_with (go_at_call 78; refine HQ.out.mono ?_; rintro e w2 ⟨rfl, hb2⟩)
        go_roundw
        case rel => exact ⟨k + 1, z, by go_num, rfl, by omega, hz0, hz1, HY, HA.out.stays hb2, bl_tr hB hb2⟩
        case measure => simp [intOf]; omega
      · have HX : Hid (Tp.cap (s + t.cnt) = 1001) := by show _ = _; rw [hH.out]; exact Tp.cap_big (by omega)
        have hq2 : decide (q ≤ 1000) = false := decide_eq_false hq
        have hq3 : decide (1000 < q) = true := decide_eq_true (by omega)
        clear hH HL ih hA
        go_wp2
        go_ret
        exact ⟨ret_int HX.out.symm, hB⟩
    · have hH2 := hH.out
      rw [List.drop_eq_nil_of_le (by omega)] at hH2
      rw [show Tp.cntL [] = 0 from rfl] at hH2
      by_cases hq : q ≤ 1000
      · have HX : Hid (Tp.cap (s + t.cnt) = q) := by show _ = _; rw [hH2]; rw [Tp.cap_small (by omega)]; omega
        have hq3 : decide (1000 < q) = false := decide_eq_false (by omega)
        clear hH hH2 HL ih hA
        go_wp2
        go_ret
        exact ⟨ret_int HX.out.symm, hB⟩
      · have HX : Hid (Tp.cap (s + t.cnt) = 1001) := by show _ = _; rw [hH2]; exact Tp.cap_big (by omega)
        have hq3 : decide (1000 < q) = true := decide_eq_true (by omega)
        clear hH hH2 HL ih hA
        go_wp2
        go_ret
        exact ⟨ret_int HX.out.symm, hB⟩
theorem counted_any : ∀ n, CountedOf n
  | 0 => fun w vs t s h _ _ => h.elim
  | n + 1 => counted_step n (counted_any n)



end Go.Proofs.Ythijckdhndbdoaa