/- The meter; Size. -/
import Derived.Test.YtfeppchgmobfpaaGreatDoorTgN
namespace Go.Proofs.YtfeppchgmobfpaaGreatDoor
open Go.RowKit
set_option linter.unusedVariables false
set_option linter.unusedSimpArgs false

/-- So many nodes, up to one more than the most; is it still no more? -/
def Tt.up (m c : Int) : Int × Bool := if c ≤ m then (c, true) else (m + 1, false)
abbrev MT : TypeId := 77

set_option maxHeartbeats 1000000 in
set_option maxRecDepth 100000 in
theorem count_any (M : Nat) (s m : Int) (w : World) (h : Arr w M MT [.int .i64 s, .int .i64 m]) (h0 : 0 ≤ s) (h1 : s < 4611686018427387904) : Calls Tryz.prog 59 #[.pointer (some ⟨M, 0, none⟩)] w fun e w' => e = .returned (.bool (decide (s + 1 ≤ m))) ∧ Arr w' M MT [.int .i64 (s + 1), .int .i64 m] ∧ Below M w w' := by
  have hw : IntKind.i64.wrap (s + 1) = s + 1 := by rw [IntKind.wrap_i64]; omega
  have hw2 : wrap64 (s + 1) = s + 1 := by unfold wrap64; omega
  have HA := hid h
  have c0 := h.cell
  have c1 := h.frozen
  have HS := hid (h.set 0 (.int .i64 (s + 1)))
  have HB : Hid (Below M w (w.setCell ⟨M, 0, none⟩ (.int .i64 (s + 1)))) := bl_put (Below.refl _ _) _ (Nat.le_refl _)
  simp only [List.set_cons_zero] at HS
  have d0 := HS.out.cell
  clear h
  go_enter Tryz.func59, Tryz.ntmps59
  go_wp2
  go_quiet (fail)
  go_wp2
  go_ret
  exact ⟨rfl, HS.out.stays (bl_drewN _ _), HB.out.trans ((bl_drewN _ _).mono (by simp [World.setCell]; have := HA.out.lt; omega))⟩
def CountOf (M : Nat) (m : Int) (n : Nat) : Prop := ∀ (w : World) (s : Int) (b o : Nat) (t : Tt), PAt w (fun b => b < M) n b o t → Arr w M MT [.int .i64 s, .int .i64 m] → 0 ≤ s → s ≤ m → s + t.cnt ≤ 4611686018427387904 →
  Calls Tryz.prog 31 #[.pointer (some ⟨M, 0, none⟩), .pointer (some ⟨b, o, none⟩)] w fun e w' => e = .returned (.bool (Tt.up m (s + t.cnt)).2) ∧ Arr w' M MT [.int .i64 (Tt.up m (s + t.cnt)).1, .int .i64 m] ∧ Below M w w'
def CountsOf (M : Nat) (m : Int) (n : Nat) : Prop := ∀ (w : World) (s : Int) (v : Value) (l : List Tt), TAtL w (fun b => b < M) n v l → Arr w M MT [.int .i64 s, .int .i64 m] → 0 ≤ s → s ≤ m → s + Tt.cntL l ≤ 4611686018427387904 →
  Calls Tryz.prog 60 #[.pointer (some ⟨M, 0, none⟩), v] w fun e w' => e = .returned (.bool (Tt.up m (s + Tt.cntL l)).2) ∧ Arr w' M MT [.int .i64 (Tt.up m (s + Tt.cntL l)).1, .int .i64 m] ∧ Below M w w'

set_option maxHeartbeats 1000000 in
set_option maxRecDepth 100000 in
theorem counts_step (M : Nat) (m : Int) (n : Nat) (ih : CountOf M m n) : CountsOf M m n := by
  intro w s v l hL hA h0 h1 h2
  obtain ⟨a, c, rfl, hm⟩ := hL.form
  unfold maxLen at hm
  have HL : Hid (TAtL w (fun b => b < M) n (.slice a l.length c) l) := hL
  have HA := hid hA
  clear hL hA
  generalize hup : Tt.up m (s + Tt.cntL l) = up
  have HU : Hid (Tt.up m (s + Tt.cntL l) = up) := hup
  have H2 := hid h2
  clear hup h2
  obtain ⟨u1, u2⟩ := up
  simp only
  go_enter Tryz.func60, Tryz.ntmps60
  go_wp2
  go_loopw [8] (fun v wr => ∃ (k : Nat) (s' : Int), v = .int .i64 k ∧ k ≤ l.length ∧ Hid (s + Tt.cntL l = s' + Tt.cntL (l.drop k)) ∧ Hid (0 ≤ s' ∧ s' ≤ m) ∧ Hid (Arr wr M MT [.int .i64 s', .int .i64 m]) ∧ Hid (Below M w wr)) (fun v _ => l.length - (intOf v).toNat)
  case atStart => exact ⟨0, s, rfl, Nat.zero_le _, rfl, hid ⟨h0, h1⟩, HA, hid (Below.refl _ _)⟩
  case round =>
    obtain ⟨k, s', rfl, hkl, hH, hs, hAr, hB⟩ := hrel
    by_cases hlt : k < l.length
    · obtain ⟨x, hxk⟩ : ∃ x, l[k]? = some x := ⟨_, List.getElem?_eq_getElem hlt⟩
      obtain ⟨b, o, rfl, hP⟩ := (HL.out.move (Keeps.lt hB.out) (fun _ h => h)).elem hxk
      have HX : Hid (s + Tt.cntL l = s' + x.cnt + Tt.cntL (l.drop (k + 1))) := by
        show _ = _
        rw [hH.out, Tt.cntL_drop hxk]; omega
      have HQ := hid (ih wr s' b _ x hP hAr.out hs.out.1 hs.out.2 (by have := H2.out; have := HX.out; omega))
      clear hP hH
      by_cases hle : s' + x.cnt ≤ m
      · have e1 : Tt.up m (s' + x.cnt) = (s' + x.cnt, true) := by unfold Tt.up; rw [if_pos hle]
        rw [e1] at HQ
        have HLE := hid hle
        clear e1 hle
        go_wp2_with (go_at_call 31; refine (HQ.out).mono ?_; rintro e w3 ⟨rfl, hA3, hb3⟩)
        go_roundw
        case rel => exact ⟨k + 1, s' + x.cnt, by go_num, by omega, HX, hid ⟨by have := hs.out.1; omega, HLE.out⟩, hid hA3, hid (hB.out.trans hb3)⟩
        case measure => simp [intOf]; omega
      · have e1 : Tt.up m (s' + x.cnt) = (m + 1, false) := by unfold Tt.up; rw [if_neg hle]
        have e2 : (m + 1, false) = (u1, u2) := by
          rw [← HU.out, HX.out]; unfold Tt.up; rw [if_neg (by omega)]
        rw [e1, e2] at HQ
        simp only at HQ
        obtain rfl : u2 = false := by injection e2 with e2 e3; exact e3.symm
        clear e1 hle e2
        go_wp2_with (go_at_call 31; refine (HQ.out).mono ?_; rintro e w3 ⟨rfl, hA3, hb3⟩)
        go_ret
        exact ⟨rfl, hA3, hB.out.trans hb3⟩
    · have e2 : (s', true) = (u1, u2) := by
        rw [← HU.out, hH.out, List.drop_eq_nil_of_le (by omega), Tt.cntL]; unfold Tt.up; rw [if_pos (by have := hs.out.2; simp; omega)]; simp
      obtain ⟨rfl, rfl⟩ : s' = u1 ∧ true = u2 := by injection e2 with e2 e3; exact ⟨e2, e3⟩
      clear hH HL e2
      go_wp2
      go_ret
      exact ⟨rfl, hAr.out, hB.out⟩

set_option maxHeartbeats 1000000 in
set_option maxRecDepth 100000 in
theorem count_step (M : Nat) (m : Int) (n : Nat) (ih : CountsOf M m n) : CountOf M m (n + 1) := by
  intro w s b o t hP hA h0 h1 h2
  obtain ⟨a', c', a, c, e0, e1, e2, e3, hk, hn, hS, hL⟩ := hP.cells
  have hbl : b < M := hP.1
  rw [Tt.cnt_ks] at h2 ⊢
  have CQ := hid (count_any M s m w hA h0 (by omega))
  by_cases hle : s + 1 ≤ m
  · have HL := hid hL
    have E3 : Hid (∀ wz, Below M w wz → wz.cell? ⟨b, o + 3, none⟩ = some (.slice a t.ks.length c)) := fun wz hz => (hz.cell (p := ⟨b, o + 3, none⟩) hbl).trans e3
    have TQ : Hid (∀ wz, Below M w wz → Arr wz M MT [.int .i64 (s + 1), .int .i64 m] → Calls Tryz.prog 60 #[.pointer (some ⟨M, 0, none⟩), .slice a t.ks.length c] wz fun e w' => e = .returned (.bool (Tt.up m (s + ((Tt.cntL t.ks + 1 : Nat) : Int))).2) ∧ Arr w' M MT [.int .i64 (Tt.up m (s + ((Tt.cntL t.ks + 1 : Nat) : Int))).1, .int .i64 m] ∧ Below M wz w') := fun wz hz hz2 => by
      have := ih wz (s + 1) _ t.ks (HL.out.move (Keeps.lt hz) (fun _ h => h)) hz2 (by omega) hle (by omega)
      rw [show s + 1 + (Tt.cntL t.ks : Int) = s + ((Tt.cntL t.ks + 1 : Nat) : Int) by omega] at this
      exact this
    rw [decide_eq_true hle] at CQ
    generalize Tt.up m (s + ((Tt.cntL t.ks + 1 : Nat) : Int)) = up at TQ ⊢
    clear hle h0 h1 h2 hL hS hk hn e0 e1 e2 e3 hP hA ih
    go_enter Tryz.func31, Tryz.ntmps31
    go_wp2_with (first
      | (go_at_call 59; refine (CQ.out).mono ?_; rintro e w3 ⟨rfl, hA3, hb3⟩; have z3 := E3.out w3 hb3; have HA3 := hid hA3; have HB3 := hid hb3; clear hA3 hb3)
      | (go_at_call 60; refine (TQ.out _ HB3.out HA3.out).mono ?_; rintro e w4 ⟨rfl, hA4, hb4⟩))
    go_ret
    exact ⟨rfl, hA4, HB3.out.trans hb4⟩
  · have e4 : Tt.up m (s + ((Tt.cntL t.ks + 1 : Nat) : Int)) = (s + 1, false) := by unfold Tt.up; rw [if_neg (by omega)]; congr 1; omega
    rw [e4]
    rw [decide_eq_false hle] at CQ
    clear hle h0 h1 h2 hL hS hk hn e0 e1 e2 e3 hP hA ih e4
    go_enter Tryz.func31, Tryz.ntmps31
    go_wp2_with (go_at_call 59; refine (CQ.out).mono ?_; rintro e w3 ⟨rfl, hA3, hb3⟩)
    go_ret
    exact ⟨rfl, hA3, hb3⟩
theorem countType_any (M : Nat) (m : Int) : ∀ n, CountOf M m n
  | 0 => fun w s b o t h => by obtain ⟨k, e⟩ := h.pos; cases e
  | n + 1 => count_step M m n (counts_step M m n (countType_any M m n))
/-- Size's answer. -/
def Tt.size (t : Tt) (m : Int) : Int := if m < 0 then 0 else (Tt.up m t.cnt).1

set_option maxHeartbeats 1000000 in
set_option maxRecDepth 100000 in
theorem Size_any (w : World) (n : Nat) (vs : List Value) (t : Tt) (m : Int) (h : TAt w Any n vs t) (hc : t.cnt ≤ 4611686018427387904) : Calls Tryz.prog 12 #[.agg vs.toArray, .int .i64 m] w fun e w' => e = .returned (.int .i64 (t.size m)) ∧ Below w.heap.size w w' := by
  unfold Tt.size
  by_cases hm : m < 0
  · rw [if_pos hm]
    obtain ⟨a', c', a, c, rfl⟩ := h.form
    clear h
    go_enter Tryz.func12, Tryz.ntmps12
    go_wp2
    go_ret
    exact ⟨rfl, bl_alloc (Below.refl _ _) _⟩
  · rw [if_neg hm]
    have B2 : Hid (Below w.heap.size w ((w.alloc (.cells vs.toArray 25)).alloc (.cells #[.int .i64 0, .int .i64 m] MT))) := bl_alloc (bl_alloc (Below.refl _ _) _) _
    have hP : PAt ((w.alloc (.cells vs.toArray 25)).alloc (.cells #[.int .i64 0, .int .i64 m] MT)) (fun b => b < w.heap.size + 1) n w.heap.size 0 t := by
      have h1 := PAt.box ((TAt.old h).move (K' := fun b => b < w.heap.size + 1) (Keeps.refl _ _) (fun b hb => by have := hb.2; omega)) 25 (by show w.heap.size < w.heap.size + 1; omega)
      exact h1.move (Keeps.of_below (bl_alloc (Below.refl _ _) _)) (fun _ h => h)
    have hA : Arr ((w.alloc (.cells vs.toArray 25)).alloc (.cells #[.int .i64 0, .int .i64 m] MT)) (w.heap.size + 1) MT [.int .i64 0, .int .i64 m] := ⟨by have := heap_alloc_at (w.alloc (.cells vs.toArray 25)) (.cells #[.int .i64 0, .int .i64 m] MT); rw [size_alloc] at this; exact this⟩
    have CQ := hid (countType_any (w.heap.size + 1) m n _ 0 _ _ t hP hA (by decide) (by omega) (by omega))
    rw [Int.zero_add] at CQ
    obtain ⟨a', c', a, c, rfl⟩ := h.form
    have hm2 : ¬ m < 0 := hm
    clear h hP hA hc hm
    generalize Tt.up m t.cnt = up at CQ ⊢
    go_enter Tryz.func12, Tryz.ntmps12
    go_wp2_with (go_at_call 31; refine (CQ.out).mono ?_; rintro e w3 ⟨rfl, hA3, hb3⟩; have y3 := hA3.cell)
    go_ret
    exact ⟨rfl, B2.out.trans (hb3.mono (by omega))⟩
end Go.Proofs.YtfeppchgmobfpaaGreatDoor
