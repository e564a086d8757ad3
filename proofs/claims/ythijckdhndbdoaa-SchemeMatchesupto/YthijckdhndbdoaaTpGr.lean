/- The document's grown. -/
import Derived.Test.YthijckdhndbdoaaTpG
import Derived.Test.YthijckdhndbdoaaTpU
namespace Go.Proofs.Ythijckdhndbdoaa
open Go.RowKit
set_option linter.unusedVariables false
set_option linter.unusedSimpArgs false

def GrownOf (kind : Int) (fv tv : Value) (fr : List Int) (to : List Tp) (m n : Nat) : Prop := ∀ (w : World) (vs : List Value) (t : Tp) (s : Int), TAt w Any n vs t → Ls w Any fv fr → TAtL w Any m tv to → 0 ≤ s → s ≤ 1000 →
  Calls Try.prog 61 #[.agg vs.toArray, .int .i64 kind, fv, tv, .int .i64 s] w fun e w' => e = .returned (.int .i64 (Tp.cap (s + (Tp.put kind fr to t).cnt))) ∧ Below w.heap.size w w'

set_option maxHeartbeats 1500000 in
set_option maxRecDepth 100000 in
theorem grown_step (kind : Int) (fv tv : Value) (fr : List Int) (to : List Tp) (hlen : fr.length = to.length) (m n : Nat) (ih : GrownOf kind fv tv fr to m n) : GrownOf kind fv tv fr to m (n + 1) := by
  intro w vs t s hT hf ht h0 h1
  have HLN : Hid (fr.length = to.length) := hlen
  clear hlen
  obtain ⟨v, rfl, -, -, hL⟩ := hT.open_
  obtain ⟨a1, c1, rfl, hm⟩ := hL.form
  unfold maxLen at hm
  have HF : Hid (Ls w Any fv fr) := hf
  have HTo : Hid (TAtL w Any m tv to) := ht
  have HL : Hid (TAtL w Any n (.slice a1 t.ks.length c1) t.ks) := hL
  have hpl : Hid (∀ wz, Below w.heap.size w wz → Calls Try.prog 77 #[fv, .int .i64 t.n] wz fun e w' => e = .returned (.int .i64 (Tp.idx t.n fr 0)) ∧ w' = wz) := fun wz hz => place_any wz fv fr t.n (HF.out.below hz)
  obtain ⟨fa, fc, rfl, -⟩ := hf.form
  obtain ⟨ta, tc, rfl, htm⟩ := ht.form
  unfold maxLen at htm
  have X : Hid (Arr (w.alloc (.cells #[.int .i64 t.k, .int .i64 t.n, .slice a1 t.ks.length c1] 24)) w.heap.size 24 [.int .i64 t.k, .int .i64 t.n, .slice a1 t.ks.length c1]) := ⟨heap_alloc_at _ _⟩
  have XB : Hid (Below w.heap.size w (w.alloc (.cells #[.int .i64 t.k, .int .i64 t.n, .slice a1 t.ks.length c1] 24))) := bl_alloc (Below.refl _ _) _
  clear hT hL hf ht
  cases hb : Tp.by kind fr to t.k t.n with
  | some u =>
    rw [Tp.put_some hb]
    obtain ⟨hk, i, hi, hu⟩ := Tp.by_some hb
    rw [hi] at hpl
    have hil : i < to.length := (List.getElem?_eq_some_iff.1 hu).1
    obtain ⟨tb, to', rfl⟩ : ∃ b o, ta = some ⟨b, o, none⟩ := by
      rcases HTo.out with ⟨b, o, c, hv, -⟩ | ⟨h0, -⟩
      · injection hv with e1 e2 e3; exact ⟨b, o, e1⟩
      · rw [h0] at hil; exact absurd hil (Nat.not_lt_zero _)
    obtain ⟨vu, tu, u0, u1, u2, -, -⟩ := (HTo.out.below XB.out).elem hu
    obtain ⟨ax, cx, ex⟩ := tu.form
    simp only [List.cons.injEq, and_true, true_and] at ex
    subst ex
    have hq := counted_any m _ _ u s tu h0 h1
    have HQ : Hid (Calls Try.prog 78 #[.agg #[.int .i64 u.k, .int .i64 u.n, .slice ax u.ks.length cx], .int .i64 s] (w.alloc (.cells #[.int .i64 t.k, .int .i64 t.n, .slice a1 t.ks.length c1] 24)) fun e w'' => e = .returned (.int .i64 (Tp.cap (s + u.cnt))) ∧ Below (w.alloc (.cells #[.int .i64 t.k, .int .i64 t.n, .slice a1 t.ks.length c1] 24)).heap.size (w.alloc (.cells #[.int .i64 t.k, .int .i64 t.n, .slice a1 t.ks.length c1] 24)) w'') := hq
    have hk2 : (t.k == kind) = true := by rw [beq_iff_eq]; exact hk
    clear hb hk hi hu hq tu ih HL
    go_enter Try.func61, Try.ntmps61
    go_wp2_with (first | (go_at_call 77; refine (hpl.out _ XB.out).mono ?_; rintro e w2 ⟨rfl, hw⟩; rw [hw]; clear hw w2) | (go_at_call 78; refine HQ.out.mono ?_; rintro e w2 ⟨rfl, hb2⟩))
    go_ret
    exact ⟨rfl, bl_tr XB.out hb2⟩
  | none =>
    have hbn := Tp.by_none HLN.out hb
    have HCN : Hid ((Tp.put kind fr to t).cnt = Tp.cntL (t.ks.map (Tp.put kind fr to)) + 1) := by show _ = _; rw [Tp.put_none hb, Tp.cnt]
    clear hb
    go_enter Try.func61, Try.ntmps61
    rcases hbn with hk | ⟨hk, hi⟩
    · have hk2 : (t.k == kind) = false := by rw [beq_eq_false_iff_ne]; exact hk
      clear hk hpl
      go_wp2
      generalize (w.alloc (.cells #[.int .i64 t.k, .int .i64 t.n, .slice a1 t.ks.length c1] 24)) = W1 at X XB ⊢
      go_loopw [4, 12] (fun u v wr => ∃ (k : Nat) (q : Int), v = .int .i64 k ∧ u = .int .i64 q ∧ k ≤ t.ks.length ∧ 0 ≤ q ∧ q ≤ 1001 ∧ Hid (Tp.cap (s + (Tp.put kind fr to t).cnt) = Tp.cap (q + Tp.cntL ((t.ks.map (Tp.put kind fr to)).drop k))) ∧ Arr wr w.heap.size 24 [.int .i64 t.k, .int .i64 t.n, .slice a1 t.ks.length c1] ∧ Below w.heap.size w wr) (fun _ v _ => t.ks.length - (intOf v).toNat)
      case atStart => exact ⟨0, s + 1, rfl, rfl, Nat.zero_le _, by omega, by omega, by show _ = _; rw [HCN.out, List.drop_zero]; congr 1; omega, X.out, XB.out⟩
      case round =>
        obtain ⟨k, q, rfl, rfl, hk, hq0, hq1, hH, hA, hB⟩ := hrel
        have p0 := hA.cell
        by_cases hlt : k < t.ks.length
        · by_cases hq : q ≤ 1000
          · obtain ⟨g, o, rfl⟩ : ∃ b o, a1 = some ⟨b, o, none⟩ := by
              rcases HL.out with ⟨b, o, c, hv, -⟩ | ⟨h0, -⟩
              · injection hv with e1 e2 e3; exact ⟨b, o, e1⟩
              · rw [h0] at hlt; exact absurd hlt (Nat.not_lt_zero _)
            obtain ⟨x, hxk⟩ : ∃ x, t.ks[k]? = some x := ⟨_, List.getElem?_eq_getElem hlt⟩
            obtain ⟨vx, tx, u0, u1, u2, -, -⟩ := (HL.out.below hB).elem hxk
            obtain ⟨ax, cx, ex⟩ := tx.form
            simp only [List.cons.injEq, and_true, true_and] at ex
            subst ex
            have HQ : Hid (Calls Try.prog 61 #[.agg #[.int .i64 x.k, .int .i64 x.n, .slice ax x.ks.length cx], .int .i64 kind, .slice fa fr.length fc, .slice ta to.length tc, .int .i64 q] wr fun e w'' => e = .returned (.int .i64 (Tp.cap (q + (Tp.put kind fr to x).cnt))) ∧ Below wr.heap.size wr w'') := ih wr _ x q tx (HF.out.below hB) (HTo.out.below hB) hq0 hq
            have HX := hH.out
            rw [Tp.cntL_drop (show (t.ks.map (Tp.put kind fr to))[k]? = some (Tp.put kind fr to x) by rw [List.getElem?_map, hxk]; rfl)] at HX
            have HY : Hid (Tp.cap (s + (Tp.put kind fr to t).cnt) = Tp.cap (Tp.cap (q + (Tp.put kind fr to x).cnt) + Tp.cntL ((t.ks.map (Tp.put kind fr to)).drop (k + 1)))) := by
              show _ = _
              rw [HX]
              unfold Tp.cap
              split <;> split <;> split <;> omega
            have hz0 : 0 ≤ Tp.cap (q + (Tp.put kind fr to x).cnt) := by unfold Tp.cap; split <;> omega
            have hz1 : Tp.cap (q + (Tp.put kind fr to x).cnt) ≤ 1001 := by unfold Tp.cap; split <;> omega
            have HA : Hid (Arr wr w.heap.size 24 _) := hA
            clear hH HX hxk tx ih HL hA HF HTo
            generalize Tp.cap (q + (Tp.put kind fr to x).cnt) = z at HQ HY hz0 hz1
            go_wp2_with (go_at_call 61; refine HQ.out.mono ?_; rintro e w2 ⟨rfl, hb2⟩)
            go_roundw
            case rel => exact ⟨k + 1, z, by go_num, rfl, by omega, hz0, hz1, HY, HA.out.stays hb2, bl_tr hB hb2⟩
            case measure => simp [intOf]; omega
          · have HX : Hid (Tp.cap (s + (Tp.put kind fr to t).cnt) = 1001) := by show _ = _; rw [hH.out]; exact Tp.cap_big (by omega)
            have hq2 : decide (q ≤ 1000) = false := decide_eq_false hq
            have hq3 : decide (1000 < q) = true := decide_eq_true (by omega)
            clear hH HL ih hA HF HTo
            go_wp2
            go_ret
            exact ⟨ret_int HX.out.symm, hB⟩
        · have hH2 := hH.out
          rw [List.drop_eq_nil_of_le (by rw [List.length_map]; omega)] at hH2
          rw [show Tp.cntL [] = 0 from rfl] at hH2
          by_cases hq : q ≤ 1000
          · have HX : Hid (Tp.cap (s + (Tp.put kind fr to t).cnt) = q) := by show _ = _; rw [hH2]; rw [Tp.cap_small (by omega)]; omega
            have hq3 : decide (1000 < q) = false := decide_eq_false (by omega)
            clear hH hH2 HL ih hA HF HTo
            go_wp2
            go_ret
            exact ⟨ret_int HX.out.symm, hB⟩
          · have HX : Hid (Tp.cap (s + (Tp.put kind fr to t).cnt) = 1001) := by show _ = _; rw [hH2]; exact Tp.cap_big (by omega)
            have hq3 : decide (1000 < q) = true := decide_eq_true (by omega)
            clear hH hH2 HL ih hA HF HTo
            go_wp2
            go_ret
            exact ⟨ret_int HX.out.symm, hB⟩
    · have hk2 : (t.k == kind) = true := by rw [beq_iff_eq]; exact hk
      rw [hi] at hpl
      clear hk hi
      go_wp2_with (first | (go_at_call 77; refine (hpl.out _ XB.out).mono ?_; rintro e w2 ⟨rfl, hw⟩; rw [hw]; clear hw w2))
      clear hpl
      generalize (w.alloc (.cells #[.int .i64 t.k, .int .i64 t.n, .slice a1 t.ks.length c1] 24)) = W1 at X XB ⊢
      go_loopw [4, 12] (fun u v wr => ∃ (k : Nat) (q : Int), v = .int .i64 k ∧ u = .int .i64 q ∧ k ≤ t.ks.length ∧ 0 ≤ q ∧ q ≤ 1001 ∧ Hid (Tp.cap (s + (Tp.put kind fr to t).cnt) = Tp.cap (q + Tp.cntL ((t.ks.map (Tp.put kind fr to)).drop k))) ∧ Arr wr w.heap.size 24 [.int .i64 t.k, .int .i64 t.n, .slice a1 t.ks.length c1] ∧ Below w.heap.size w wr) (fun _ v _ => t.ks.length - (intOf v).toNat)
      case atStart => exact ⟨0, s + 1, rfl, rfl, Nat.zero_le _, by omega, by omega, by show _ = _; rw [HCN.out, List.drop_zero]; congr 1; omega, X.out, XB.out⟩
      case round =>
        obtain ⟨k, q, rfl, rfl, hk, hq0, hq1, hH, hA, hB⟩ := hrel
        have p0 := hA.cell
        by_cases hlt : k < t.ks.length
        · by_cases hq : q ≤ 1000
          · obtain ⟨g, o, rfl⟩ : ∃ b o, a1 = some ⟨b, o, none⟩ := by
              rcases HL.out with ⟨b, o, c, hv, -⟩ | ⟨h0, -⟩
              · injection hv with e1 e2 e3; exact ⟨b, o, e1⟩
              · rw [h0] at hlt; exact absurd hlt (Nat.not_lt_zero _)
            obtain ⟨x, hxk⟩ : ∃ x, t.ks[k]? = some x := ⟨_, List.getElem?_eq_getElem hlt⟩
            obtain ⟨vx, tx, u0, u1, u2, -, -⟩ := (HL.out.below hB).elem hxk
            obtain ⟨ax, cx, ex⟩ := tx.form
            simp only [List.cons.injEq, and_true, true_and] at ex
            subst ex
            have HQ : Hid (Calls Try.prog 61 #[.agg #[.int .i64 x.k, .int .i64 x.n, .slice ax x.ks.length cx], .int .i64 kind, .slice fa fr.length fc, .slice ta to.length tc, .int .i64 q] wr fun e w'' => e = .returned (.int .i64 (Tp.cap (q + (Tp.put kind fr to x).cnt))) ∧ Below wr.heap.size wr w'') := ih wr _ x q tx (HF.out.below hB) (HTo.out.below hB) hq0 hq
            have HX := hH.out
            rw [Tp.cntL_drop (show (t.ks.map (Tp.put kind fr to))[k]? = some (Tp.put kind fr to x) by rw [List.getElem?_map, hxk]; rfl)] at HX
            have HY : Hid (Tp.cap (s + (Tp.put kind fr to t).cnt) = Tp.cap (Tp.cap (q + (Tp.put kind fr to x).cnt) + Tp.cntL ((t.ks.map (Tp.put kind fr to)).drop (k + 1)))) := by
              show _ = _
              rw [HX]
              unfold Tp.cap
              split <;> split <;> split <;> omega
            have hz0 : 0 ≤ Tp.cap (q + (Tp.put kind fr to x).cnt) := by unfold Tp.cap; split <;> omega
            have hz1 : Tp.cap (q + (Tp.put kind fr to x).cnt) ≤ 1001 := by unfold Tp.cap; split <;> omega
            have HA : Hid (Arr wr w.heap.size 24 _) := hA
            clear hH HX hxk tx ih HL hA HF HTo
            generalize Tp.cap (q + (Tp.put kind fr to x).cnt) = z at HQ HY hz0 hz1
            go_wp2_with (go_at_call 61; refine HQ.out.mono ?_; rintro e w2 ⟨rfl, hb2⟩)
            go_roundw
            case rel => exact ⟨k + 1, z, by go_num, rfl, by omega, hz0, hz1, HY, HA.out.stays hb2, bl_tr hB hb2⟩
            case measure => simp [intOf]; omega
          · have HX : Hid (Tp.cap (s + (Tp.put kind fr to t).cnt) = 1001) := by show _ = _; rw [hH.out]; exact Tp.cap_big (by omega)
            have hq2 : decide (q ≤ 1000) = false := decide_eq_false hq
            have hq3 : decide (1000 < q) = true := decide_eq_true (by omega)
            clear hH HL ih hA HF HTo
            go_wp2
            go_ret
            exact ⟨ret_int HX.out.symm, hB⟩
        · have hH2 := hH.out
          rw [List.drop_eq_nil_of_le (by rw [List.length_map]; omega)] at hH2
          rw [show Tp.cntL [] = 0 from rfl] at hH2
          by_cases hq : q ≤ 1000
          · have HX : Hid (Tp.cap (s + (Tp.put kind fr to t).cnt) = q) := by show _ = _; rw [hH2]; rw [Tp.cap_small (by omega)]; omega
            have hq3 : decide (1000 < q) = false := decide_eq_false (by omega)
            clear hH hH2 HL ih hA HF HTo
            go_wp2
            go_ret
            exact ⟨ret_int HX.out.symm, hB⟩
          · have HX : Hid (Tp.cap (s + (Tp.put kind fr to t).cnt) = 1001) := by show _ = _; rw [hH2]; exact Tp.cap_big (by omega)
            have hq3 : decide (1000 < q) = true := decide_eq_true (by omega)
            clear hH hH2 HL ih hA HF HTo
            go_wp2
            go_ret
            exact ⟨ret_int HX.out.symm, hB⟩
theorem grown_any (kind : Int) (fv tv : Value) (fr : List Int) (to : List Tp) (hlen : fr.length = to.length) (m : Nat) : ∀ n, GrownOf kind fv tv fr to m n
  | 0 => fun w vs t s h _ _ _ _ => h.elim
  | n + 1 => grown_step kind fv tv fr to hlen m n (grown_any kind fv tv fr to hlen m n)
end Go.Proofs.Ythijckdhndbdoaa
