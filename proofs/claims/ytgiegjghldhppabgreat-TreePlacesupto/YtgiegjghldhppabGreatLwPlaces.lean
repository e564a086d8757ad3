/- TreePlaces: the walk. -/
import Derived.Test.YtgiegjghldhppabGreatNdA
import Derived.Test.YtgiegjghldhppabGreatNdY3
namespace Go.Proofs.YtgiegjghldhppabGreat
open Go.RowKit
set_option linter.unusedVariables false

theorem At.dec_place {w : World} {K : Nat → Prop} {n : Nat} {vs : List Value} {x : Nd} (h : At w K n 3 vs x) {a : Int} (ha : -9223372036854775808 ≤ a ∧ a ≤ 9223372036854775807) : At w K n 3 (vs.set 1 (.int .i64 a)) x := by
  cases n with
  | zero => exact h.elim
  | succ n =>
    obtain ⟨i0, i1, s2, p3, x3, v0, l0, v1, l1, v2, l2, v3, l3, v4, l4, rfl, rfl, a0, a1, a2, ⟨a3, b3, c3⟩, k0, k1, k2, k3, k4⟩ := At.dec h
    exact At.dec_mk a0 ha a2 a3 b3 c3 k0 k1 k2 k3 k4
/-- A place that is written leaves all as it was. -/
theorem Own.set {w W : World} {n b c : Nat} {l : List Nd} (h : Own w n W b c l) {i : Nat} (hi : i < l.length) {a : Int} (ha : -9223372036854775808 ≤ a ∧ a ≤ 9223372036854775807) :
    Own w n (W.setCell ⟨b, 0 + i * 9 + 1, none⟩ (.int .i64 a)) b c l := by
  have hS : Stp (b + 1) W (W.setCell ⟨b, 0 + i * 9 + 1, none⟩ (.int .i64 a)) := Stp.set (Nat.lt_succ_self b) _
  refine ⟨h.new, by simpa [World.setCell] using h.lt, h.cap, h.mx, fun k x hx => ?_, fun j => by rw [World.frozen?_setCell]; exact h.fz j⟩
  obtain ⟨vs, h1, h2, h3⟩ := h.lay k x hx
  replace h1 : vs.length = 9 := h1
  replace h2 : Cells W b (0 + k * 9) vs := h2
  by_cases e : k = i
  · subst e
    refine ⟨vs.set 1 (.int .i64 a), (by rw [List.length_set]; exact h1), fun j u hu => ?_, (hS.at (Nat.le_refl _) h3).dec_place ha⟩
    show World.cell? _ ⟨b, 0 + k * 9 + j, none⟩ = _
    by_cases hj : j = 1
    · subst hj
      rw [List.getElem?_set_self (by omega)] at hu
      injection hu with hu
      subst hu
      exact World.cell?_setCell_same _ _ _ (h2 1 _ (List.getElem?_eq_getElem (by omega)))
    · rw [List.getElem?_set_ne (Ne.symm hj)] at hu
      rw [World.cell?_setCell_other _ _ _ _ (fun q => by injection q with _ q _; omega)]
      exact h2 j u hu
  · refine ⟨vs, h1, fun j u hu => ?_, hS.at (Nat.le_refl _) h3⟩
    show World.cell? _ ⟨b, 0 + k * 9 + j, none⟩ = _
    have hj := (List.getElem?_eq_some_iff.1 hu).1
    rw [World.cell?_setCell_other _ _ _ _ (fun q => by injection q with _ q _; omega)]
    exact h2 j u hu
theorem Own.cell {w W : World} {n b c : Nat} {l : List Nd} (h : Own w n W b c l) {i : Nat} (hi : i < l.length) : ∃ a : Int, W.cell? ⟨b, 0 + i * 9 + 1, none⟩ = some (.int .i64 a) := by
  obtain ⟨vs, h1, h2, h3⟩ := h.lay i _ (List.getElem?_eq_getElem hi)
  cases n with
  | zero => exact h3.elim
  | succ n =>
    obtain ⟨i0, i1, s2, p3, x3, v0, l0, v1, l1, v2, l2, v3, l3, v4, l4, rfl, -⟩ := At.dec h3
    exact ⟨i1, h2 1 _ rfl⟩
theorem Own.atL {w W : World} {n b c : Nat} {l : List Nd} (h : Own w n W b c l) : AtL W Any n 3 (.slice (some ⟨b, 0, none⟩) l.length c) l :=
  .inl ⟨b, 0, c, rfl, trivial, h.cap, Nat.le_trans h.cap h.mx, fun i x hx => by
    obtain ⟨vs, h1, h2, h3⟩ := h.lay i x hx
    exact ⟨vs, h1, h2, h3.any⟩⟩
theorem same_at {w : World} {n m : Nat} {v1 v2 : Value} {xs ys : List Nd} (h1 : AtL w Any n 3 v1 xs) (h2 : AtL w Any m 3 v2 ys) (W : World) (hW : Below w.heap.size w W) :
    Calls Tryz.prog 6 #[v1, v2] W fun e w' => e = .returned (.bool (Nd.eqL xs ys)) ∧ Below W.heap.size W w' :=
  sameDecs_any (max n m) W v1 v2 xs ys ((h1.le (Nat.le_max_left n m)).below hW) ((h2.le (Nat.le_max_right n m)).below hW)
theorem right_at {w : World} {n : Nat} {v : Value} {l : List Nd} {i e : Int} (h : AtL w Any n 3 v l) (hr : Nd.rightL l = (i, e)) (W : World) (hW : Below w.heap.size w W) :
    Calls Tryz.prog 9 #[v] W fun x w' => x = .returned (.tuple #[.int .i64 i, .int .i64 e]) ∧ Below W.heap.size W w' := by
  have := rightL_any n W v l (h.below hW)
  rw [hr] at this
  exact this
theorem nodes_at {w : World} {n : Nat} {v : Value} {l : List Nd} {a : Int} (h : AtL w Any n 3 v l) (ha : (Nd.meter l).a = a) (W : World) (hW : Below w.heap.size w W) :
    Calls Tryz.prog 10 #[v] W fun e w' => e = .returned (.int .i64 a) ∧ Below W.heap.size W w' := by
  have := nodes_any n W v l (h.below hW)
  rw [ha] at this
  exact this

set_option maxHeartbeats 2000000 in
set_option maxRecDepth 100000 in
theorem places_walk (w : World) (n : Nat) (v : Value) (l : List Nd) (hv : AtL w Any n 3 v l) (hw : Nd.wtL l ≤ 1048576) (a : Int) (ha : -9223372036854775808 ≤ a ∧ a ≤ 9223372036854775807) :
    Calls Tryz.prog 4 #[v, .int .i64 a] w fun e w' => e = .returned (.bool true) ∧ Below w.heap.size w w' := by
  have qc := copy_any n w Any v l hv hw
  have hlen : l.length ≤ 1048576 := Nat.le_trans (Nd.len_le_wt l) hw
  obtain ⟨i, e, hr⟩ : ∃ i e, Nd.rightL l = (i, e) := ⟨_, _, rfl⟩
  obtain ⟨N, hN⟩ : ∃ N, (Nd.meter l).a = N := ⟨_, rfl⟩
  have hs : Nd.eqL l l = true := Nd.eqL_true.2 rfl
  have r1 : Hid (∀ W, Below w.heap.size w W → _) := fun W hW => right_at hv hr W hW
  have n1 : Hid (∀ W, Below w.heap.size w W → _) := fun W hW => nodes_at hv hN W hW
  have r2 : Hid (∀ (u : Value) (V W : World), AtL V Any n 3 u l → Below V.heap.size V W → _) := fun u V W h hW => right_at h hr W hW
  have n2 : Hid (∀ (u : Value) (V W : World), AtL V Any n 3 u l → Below V.heap.size V W → _) := fun u V W h hW => nodes_at h hN W hW
  have s2 : Hid (∀ (u : Value) (V W : World), Below w.heap.size w V → AtL V Any n 3 u l → Below V.heap.size V W → _) := fun u V W hV h hW => same_at (hv.below hV) h W hW
  rw [hs] at s2
  by_cases h0 : l = []
  · subst h0
    clear hr hN hv hw
    go_enter Tryz.func4, Tryz.ntmps4
    go_wp2_with (go_at_call 5; refine qc.mono ?_; rintro x w1 ⟨v', rfl, hA, B1, -⟩; obtain ⟨y, z, rfl, -⟩ := hA.form; replace hA := hA.any; clear qc)
    go_loopw [6] (fun u wr => u = .int .i64 0 ∧ wr = w1) (fun _ _ => 0)
    case atStart => exact ⟨rfl, rfl⟩
    case round =>
      obtain ⟨rfl, rfl⟩ := hrel
      go_wp2_with (first
        | (go_at_call 8; refine (alive_any _).mono ?_; rintro x w7 ⟨rfl, hb7⟩; have B7 := bl_tr C6 hb7)
        | (go_at_call 10; have _ := m5; refine (n2.out _ _ _ hA D5).mono ?_; rintro x w6 ⟨rfl, hb6⟩; have C6 := bl_tr C5 hb6; clear m5)
        | (go_at_call 10; have _ := m4; refine (n1.out _ C4).mono ?_; rintro x w5 ⟨rfl, hb5⟩; have C5 := bl_tr C4 hb5; have D5 := bl_tr D4 hb5; have m5 := True.intro; clear m4)
        | (go_at_call 6; refine (s2.out _ _ _ B1 hA D3).mono ?_; rintro x w4 ⟨rfl, hb4⟩; have C4 := bl_tr C3 hb4; have D4 := bl_tr D3 hb4; have m4 := True.intro)
        | (go_at_call 9; have _ := m2; refine (r2.out _ _ _ hA D2).mono ?_; rintro x w3 ⟨rfl, hb3⟩; have C3 := bl_tr C2 hb3; have D3 := bl_tr D2 hb3; clear m2)
        | (go_at_call 9; refine (r1.out _ B1).mono ?_; rintro x w2 ⟨rfl, D2⟩; have C2 := bl_tr B1 D2; have m2 := True.intro))
      go_ret
      exact ⟨rfl, B7⟩
  · obtain ⟨b, o, c, e1, -⟩ := hv.resolve_right (fun h => h0 h.1)
    subst e1
    clear hr hN hv hw
    go_enter Tryz.func4, Tryz.ntmps4
    go_wp2_with (go_at_call 5; refine qc.mono ?_; rintro x w1 ⟨v', rfl, -, B1, hP⟩; obtain ⟨b', c', rfl, hO, -⟩ := hP rfl b o c rfl h0; clear qc hP)
    go_loopw [6] (fun u wr => ∃ k : Nat, u = .int .i64 k ∧ k ≤ l.length ∧ Own w n wr b' c' l ∧ Below w.heap.size w wr) (fun u _ => l.length - (intOf u).toNat)
    case atStart => exact ⟨0, rfl, Nat.zero_le _, hO, B1⟩
    case round =>
      obtain ⟨k, rfl, hkl, hK, B2⟩ := hrel
      clear hO B1
      by_cases hlt : k < l.length
      · obtain ⟨a1, hc⟩ := hK.cell hlt
        have hz := hK.fz (0 + k * 9 + 1)
        have hK2 := hK.set hlt ha
        have B3 : Below w.heap.size w (wr.setCell ⟨b', 0 + k * 9 + 1, none⟩ (.int .i64 a)) := Save.below B2 ((Save.refl _ _).set _ _) hK.new
        rw [Nat.zero_add] at hc hz hK2 B3
        clear r1 n1 r2 n2 s2 hK
        go_wp2
        go_roundw
        case rel => exact ⟨k + 1, by go_num, by omega, hK2, B3⟩
        case measure => simp [intOf]; omega
      · have hA := hK.atL
        clear hK
        go_wp2_with (first
          | (go_at_call 8; refine (alive_any _).mono ?_; rintro x w7 ⟨rfl, hb7⟩; have B7 := bl_tr C6 hb7)
          | (go_at_call 10; have _ := m5; refine (n2.out _ _ _ hA D5).mono ?_; rintro x w6 ⟨rfl, hb6⟩; have C6 := bl_tr C5 hb6; clear m5)
          | (go_at_call 10; have _ := m4; refine (n1.out _ C4).mono ?_; rintro x w5 ⟨rfl, hb5⟩; have C5 := bl_tr C4 hb5; have D5 := bl_tr D4 hb5; have m5 := True.intro; clear m4)
          | (go_at_call 6; refine (s2.out _ _ _ B2 hA D3).mono ?_; rintro x w4 ⟨rfl, hb4⟩; have C4 := bl_tr C3 hb4; have D4 := bl_tr D3 hb4; have m4 := True.intro)
          | (go_at_call 9; have _ := m2; refine (r2.out _ _ _ hA D2).mono ?_; rintro x w3 ⟨rfl, hb3⟩; have C3 := bl_tr C2 hb3; have D3 := bl_tr D2 hb3; clear m2)
          | (go_at_call 9; refine (r1.out _ B2).mono ?_; rintro x w2 ⟨rfl, D2⟩; have C2 := bl_tr B2 D2; have m2 := True.intro))
        go_ret
        exact ⟨rfl, B7⟩
end Go.Proofs.YtgiegjghldhppabGreat
