/- TreeCopies: the walk. -/
import Derived.Test.YtgiegjghldhppabGreatNdA
import Derived.Test.YtgiegjghldhppabGreatNdY5
import Derived.BigQuiet
namespace Go.Proofs.YtgiegjghldhppabGreat
open Go.RowKit
set_option linter.unusedVariables false

theorem same_at {w : World} {n m : Nat} {v1 v2 : Value} {xs ys : List Nd} (h1 : AtL w Any n 3 v1 xs) (h2 : AtL w Any m 3 v2 ys) (W : World) (hW : Below w.heap.size w W) :
    Calls Tryz.prog 6 #[v1, v2] W fun e w' => e = .returned (.bool (Nd.eqL xs ys)) ∧ Below W.heap.size W w' :=
  sameDecs_any (max n m) W v1 v2 xs ys ((h1.le (Nat.le_max_left n m)).below hW) ((h2.le (Nat.le_max_right n m)).below hW)
theorem Below.low {B C : Nat} {w w' : World} (h : Below C w w') (hB : B ≤ C) : Below B w w' := ⟨h.os, h.tape, h.output, h.size, fun k hk => h.block k (Nat.lt_of_lt_of_le hk hB)⟩
/-- Two copies of a list, and what the first one's spoiling leaves of the second. -/
theorem spoil_at {n : Nat} {w W1 W2 : World} {v v1 v2 : Value} {l : List Nd} (hv : AtL w (Old w) n 3 v l) (B1 : Below w.heap.size w W1) (h1 : AtL W1 (Frm w.heap.size W1) n 3 v1 l) (B2 : Below W1.heap.size W1 W2) (h2 : AtL W2 (Frm W1.heap.size W2) n 3 v2 l) (W : World) (hW : Below W2.heap.size W2 W) :
    Calls Tryz.prog 7 #[v1] W fun e w' => e = .returned (.tuple #[]) ∧ Below w.heap.size w w' ∧ AtL w' Any n 3 v2 l ∧ AtL w' Any n 3 v l := by
  have B12 : Below W1.heap.size W1 W := B2.trans (Below.low hW B2.size)
  refine ((spoil_all n).2.1 W (Frm w.heap.size W1) v1 l (fun b hb o => (B12.frozen (p := ⟨b, o, none⟩) hb.2.1).trans (hb.2.2 o)) (h1.move (Keeps.of_below B12) (fun _ h => h))).mono ?_
  rintro e w' ⟨he, hS⟩
  have B0 : Below w.heap.size w W := B1.trans (Below.low B12 B1.size)
  have hL := hS.below (B := w.heap.size) (fun b hb => hb.1)
  refine ⟨he, B0.trans hL, ?_, ?_⟩
  · have a1 := h2.below hW
    exact (a1.move (hS.keeps (J := Frm W1.heap.size W2) (fun b hb hk => absurd hk.2.1 (Nat.not_lt.2 hb.1))) (fun _ h => h)).any
  · have a1 : AtL W (Old w) n 3 v l := hv.below B0
    exact (a1.move (hS.keeps (J := Old w) (fun b hb hk => absurd hb (Nat.not_lt.2 hk.1))) (fun _ h => h)).any

set_option maxHeartbeats 4000000 in
set_option maxRecDepth 100000 in
theorem copies_walk (w : World) (n : Nat) (v : Value) (l : List Nd) (hv : AtL w Any n 3 v l) (hw : Nd.wtL l ≤ 1048576) :
    Calls Tryz.prog 3 #[v] w fun e w' => e = .returned (.bool true) ∧ Below w.heap.size w w' := by
  have hvo := hv.old
  have hlen : l.length ≤ 1048576 := Nat.le_trans (Nd.len_le_wt l) hw
  have hs : Nd.eqL l l = true := Nd.eqL_true.2 rfl
  have qc : Hid (∀ W, Below w.heap.size w W → _) := fun W hW => copy_any n W Any v l (hv.below hW) hw
  have qs : Hid (∀ (u1 u2 : Value) (V W : World), AtL V Any n 3 u1 l → AtL V Any n 3 u2 l → Below V.heap.size V W → _) := fun u1 u2 V W h1 h2 hW => same_at h1 h2 W hW
  rw [hs] at qs
  by_cases h0 : l = []
  · subst h0
    obtain ⟨y0, z0, rfl, -⟩ := hv.form
    clear hw
    go_enter Tryz.func3, Tryz.ntmps3
    go_wp2_with (first
      | (go_at_call 6; have _ := m3; refine (qs.out _ _ _ _ hA2 hB2 C3).mono ?_; rintro x w4 ⟨rfl, hb4⟩; have C4 := bl_tr C3 hb4; clear m3 hb4)
      | (go_at_call 6; refine (qs.out _ _ _ _ hA2 hV2 (Below.refl _ _)).mono ?_; rintro x w3 ⟨rfl, C3⟩; have m3 := True.intro)
      | (go_at_call 5; have _ := m1; refine (qc.out _ B1).mono ?_; rintro x w2 ⟨v2, rfl, hB, B2, -⟩; have SP : Hid (∀ W, Below w2.heap.size w2 W → _) := fun W hW => spoil_at hvo B1 hA B2 hB W hW; have hA2 := (hA.below B2).any; have hB2 := hB.any; have hV2 := (hv.below B1).below B2; clear m1 hB hA hvo hv qc)
      | (go_at_call 5; refine (qc.out _ (Below.refl _ _)).mono ?_; rintro x w1 ⟨v1, rfl, hA, B1, -⟩; obtain ⟨y1, z1, rfl, -⟩ := hA.form; have m1 := True.intro))
    go_loopw [5] (fun u wr => u = .int .i64 0 ∧ wr = w4) (fun _ _ => 0)
    case atStart => exact ⟨rfl, rfl⟩
    case round =>
      obtain ⟨rfl, rfl⟩ := hrel
      go_wp2_with (first
        | (go_at_call 8; refine (alive_any _).mono ?_; rintro x w7 ⟨rfl, hb7⟩; have B7 := bl_tr C6 hb7)
        | (go_at_call 6; refine (qs.out _ _ _ _ hA5 hV5 (Below.refl _ _)).mono ?_; rintro x w6 ⟨rfl, hb6⟩; have C6 := bl_tr C5 hb6)
        | (go_at_call 7; refine (SP.out _ C4).mono ?_; rintro x w5 ⟨rfl, C5, hA5, hV5⟩))
      go_ret
      exact ⟨rfl, B7⟩
  · obtain ⟨b, o, c, e1, -, -, -, hk⟩ := hv.resolve_right (fun h => h0 h.1)
    subst e1
    clear hw
    have hcell : ∀ i, i < l.length → ∃ a : Int, w.cell? ⟨b, o + i * 9 + 1, none⟩ = some (.int .i64 a) := by
      intro i hi
      obtain ⟨vs, h1, h2, h3⟩ := hk i _ (List.getElem?_eq_getElem hi)
      cases n with
      | zero => exact h3.elim
      | succ n =>
        obtain ⟨i0, i1, s2, p3, x3, v0, l0, v1, l1, v2, l2, v3, l3, v4, l4, rfl, -⟩ := At.dec h3
        exact ⟨i1, h2 1 _ rfl⟩
    clear hk
    go_enter Tryz.func3, Tryz.ntmps3
    go_wp2_with (first
      | (go_at_call 6; have _ := m3; refine (qs.out _ _ _ _ hA2 hB2 C3).mono ?_; rintro x w4 ⟨rfl, hb4⟩; have C4 := bl_tr C3 hb4; clear m3 hb4)
      | (go_at_call 6; refine (qs.out _ _ _ _ hA2 hV2 (Below.refl _ _)).mono ?_; rintro x w3 ⟨rfl, C3⟩; have m3 := True.intro)
      | (go_at_call 5; have _ := m1; refine (qc.out _ B1).mono ?_; rintro x w2 ⟨v2, rfl, hB, B2, -⟩; have SP : Hid (∀ W, Below w2.heap.size w2 W → _) := fun W hW => spoil_at hvo B1 hA B2 hB W hW; have hA2 := (hA.below B2).any; have hB2 := hB.any; have hV2 := (hv.below B1).below B2; clear m1 hB hA hvo hv qc)
      | (go_at_call 5; refine (qc.out _ (Below.refl _ _)).mono ?_; rintro x w1 ⟨v1, rfl, hA, B1, hP⟩; obtain ⟨b1, c1, rfl, hO, hPl⟩ := hP rfl b o c rfl h0; clear hP; have m1 := True.intro))
    have HC : Hid (∀ i, i < l.length → ∃ a : Int, w4.cell? ⟨b, o + i * 9 + 1, none⟩ = some (.int .i64 a) ∧ w4.cell? ⟨b1, i * 9 + 1, none⟩ = some (.int .i64 a)) := by
      intro i hi
      obtain ⟨a, ha⟩ := hcell i hi
      have e1 := hPl rfl i hi
      rw [ha, Nat.zero_add] at e1
      have B24 : Below w1.heap.size w1 w4 := B2.trans (Below.low C4 B2.size)
      exact ⟨a, ((B1.trans (Below.low B24 B1.size)).cell (World.block_lt_of_cell? w _ ha)).trans ha, (B24.cell (World.block_lt_of_cell? w1 _ e1)).trans e1⟩
    clear hcell hPl hO hA2 hB2 hV2 C3 B1 B2
    go_loopw [5] (fun u wr => ∃ k : Nat, u = .int .i64 k ∧ k ≤ l.length ∧ Below w4.heap.size w4 wr) (fun u _ => l.length - (intOf u).toNat)
    case atStart => exact ⟨0, rfl, Nat.zero_le _, Below.refl _ _⟩
    case round =>
      obtain ⟨k, rfl, hkl, B5⟩ := hrel
      by_cases hlt : k < l.length
      · obtain ⟨a, g1, g2⟩ := HC.out k hlt
        have d1 := (B5.cell (World.block_lt_of_cell? w4 _ g1)).trans g1
        have d2 := (B5.cell (World.block_lt_of_cell? w4 _ g2)).trans g2
        clear HC SP qs g1 g2
        go_wp2
        go_region
        go_wp2
        go_roundw
        case rel => exact ⟨k + 1, by go_num, by omega, B5.drew⟩
        case measure => simp [intOf]; omega
      · have C6 := bl_tr C4 B5
        go_wp2_with (first
          | (go_at_call 8; refine (alive_any _).mono ?_; rintro x w7 ⟨rfl, hb7⟩; have B9 := bl_tr C8 hb7)
          | (go_at_call 6; refine (qs.out _ _ _ _ hA5 hV5 (Below.refl _ _)).mono ?_; rintro x w6 ⟨rfl, hb6⟩; have C8 := bl_tr C7 hb6)
          | (go_at_call 7; refine (SP.out _ C6).mono ?_; rintro x w5 ⟨rfl, C7, hA5, hV5⟩))
        go_ret
        exact ⟨rfl, B9⟩
end Go.Proofs.YtgiegjghldhppabGreat
