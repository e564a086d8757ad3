/- spoil, spoilExps, spoilMods: marks in all lists of a unit. -/
import Derived.Test.YtgiegjghldhppabGreatNdY4
namespace Go.Proofs.YtgiegjghldhppabGreat
open Go.RowKit
set_option linter.unusedVariables false

set_option maxHeartbeats 1000000 in
theorem spoil_nil3 (w : World) (p : Option Addr) (c : Nat) : Calls Tryz.prog 7 #[.slice p 0 c] w fun e w' => e = .returned (.tuple #[]) ∧ w' = w := by
  go_enter Tryz.func7, Tryz.ntmps7
  go_wp2
  go_loopw [2] (fun v wr => v = .int .i64 0 ∧ wr = w) (fun _ _ => 0)
  case atStart => exact ⟨rfl, rfl⟩
  case round =>
    obtain ⟨rfl, rfl⟩ := hrel
    go_wp2
    go_end0
    exact ⟨rfl, rfl⟩

set_option maxHeartbeats 1000000 in
theorem spoil_nil2 (w : World) (p : Option Addr) (c : Nat) : Calls Tryz.prog 15 #[.slice p 0 c] w fun e w' => e = .returned (.tuple #[]) ∧ w' = w := by
  go_enter Tryz.func15, Tryz.ntmps15
  go_wp2
  go_loopw [2] (fun v wr => v = .int .i64 0 ∧ wr = w) (fun _ _ => 0)
  case atStart => exact ⟨rfl, rfl⟩
  case round =>
    obtain ⟨rfl, rfl⟩ := hrel
    go_wp2
    go_end0
    exact ⟨rfl, rfl⟩

set_option maxHeartbeats 1000000 in
theorem spoil_nil5 (w : World) (p : Option Addr) (c : Nat) : Calls Tryz.prog 16 #[.slice p 0 c] w fun e w' => e = .returned (.tuple #[]) ∧ w' = w := by
  go_enter Tryz.func16, Tryz.ntmps16
  go_wp2
  go_loopw [2] (fun v wr => v = .int .i64 0 ∧ wr = w) (fun _ _ => 0)
  case atStart => exact ⟨rfl, rfl⟩
  case round =>
    obtain ⟨rfl, rfl⟩ := hrel
    go_wp2
    go_end0
    exact ⟨rfl, rfl⟩

set_option maxHeartbeats 4000000 in
set_option maxRecDepth 100000 in
theorem spoilW5 (n : Nat) (q3 : SpoilOf 7 n 3) (q5 : SpoilOf 16 n 5) : SpoilOf 16 (n + 1) 5 := by
  intro w K v l hz hv
  by_cases h0 : l = []
  · subst h0
    obtain ⟨y, z, rfl, -⟩ := hv.form
    exact (spoil_nil5 w y z).mono fun e w' ⟨h1, h2⟩ => ⟨h1, by rw [h2]; exact Soft.refl _ _⟩
  · obtain ⟨b, o, c, rfl, hb, -, hx, hk⟩ := hv.resolve_right (fun h => h0 h.1)
    clear hv h0
    unfold maxLen at hx
    go_enter Tryz.func16, Tryz.ntmps16
    go_wp2
    go_loopw [2] (fun u wr => ∃ k : Nat, u = .int .i64 k ∧ k ≤ l.length ∧ Soft K w wr) (fun u _ => l.length - (intOf u).toNat)
    case atStart => exact ⟨0, rfl, Nat.zero_le _, Soft.refl _ _⟩
    case round =>
      obtain ⟨k, rfl, hkl, hS⟩ := hrel
      by_cases hlt : k < l.length
      · obtain ⟨vs, -, hc, ha⟩ := hk k _ (List.getElem?_eq_getElem hlt)
        obtain ⟨i0, p1, x1, v0, l0, v1, l1, v2, l2, rfl, -, -, ⟨a1, -, e1⟩, k0, k1, k2⟩ := At.mod ha
        replace hc : Cells w b (o + k * 5) _ := hc
        obtain ⟨ad2, c2, rfl, -⟩ := k0.form
        have D2 : Hid (∀ W, Soft K w W → W.cell? ⟨b, o + k * 5 + 2, none⟩ = some (.slice ad2 l0.length c2)) := fun W h => h.slice (hc 2 _ rfl)
        have r2 : Hid (∀ W, Soft K w W → _) := fun W h => q3.at hz k0 W h
        obtain ⟨ad3, c3, rfl, -⟩ := k1.form
        have D3 : Hid (∀ W, Soft K w W → W.cell? ⟨b, o + k * 5 + 3, none⟩ = some (.slice ad3 l1.length c3)) := fun W h => h.slice (hc 3 _ rfl)
        have r3 : Hid (∀ W, Soft K w W → _) := fun W h => q5.at hz k1 W h
        have DK : Hid (∀ W, Soft K w W → (∃ j, W.cell? ⟨b, o + k * 5, none⟩ = some (.int .i64 j)) ∧ W.frozen? ⟨b, o + k * 5, none⟩ = false ∧ Soft K w (W.setCell ⟨b, o + k * 5, none⟩ (.int .i64 77))) := fun W h => by
          obtain ⟨j, hj⟩ := h.int (hc 0 _ rfl)
          exact ⟨⟨j, hj⟩, (h.frozen _).trans (hz b hb _), h.set hb hj (.inr (.inl ⟨j, 77, rfl, rfl, by decide⟩))⟩
        clear hk hc ha hz   k0 k1 k2 q3 q5
        have d2 := D2.out _ hS
        go_wp2_with (first | (go_at_call 16; refine (r3.out _ S2).mono ?_; rintro e w3 ⟨rfl, S3⟩; clear r3; obtain ⟨⟨jk, hjk⟩, hfk, hSk⟩ := DK.out _ S3) | (go_at_call 7; refine (r2.out _ hS).mono ?_; rintro e w2 ⟨rfl, S2⟩; clear r2; have d3 := D3.out _ S2))
        go_roundw
        case rel => exact ⟨k + 1, by go_num, by omega, hSk⟩
        case measure => simp [intOf]; omega
      · go_wp2
        go_end0
        exact ⟨rfl, hS⟩

set_option maxHeartbeats 4000000 in
set_option maxRecDepth 100000 in
theorem spoilW2 (n : Nat) (q2 : SpoilOf 15 n 2) (q3 : SpoilOf 7 n 3) : SpoilOf 15 (n + 1) 2 := by
  intro w K v l hz hv
  by_cases h0 : l = []
  · subst h0
    obtain ⟨y, z, rfl, -⟩ := hv.form
    exact (spoil_nil2 w y z).mono fun e w' ⟨h1, h2⟩ => ⟨h1, by rw [h2]; exact Soft.refl _ _⟩
  · obtain ⟨b, o, c, rfl, hb, -, hx, hk⟩ := hv.resolve_right (fun h => h0 h.1)
    clear hv h0
    unfold maxLen at hx
    go_enter Tryz.func15, Tryz.ntmps15
    go_wp2
    go_loopw [2] (fun u wr => ∃ k : Nat, u = .int .i64 k ∧ k ≤ l.length ∧ Soft K w wr) (fun u _ => l.length - (intOf u).toNat)
    case atStart => exact ⟨0, rfl, Nat.zero_le _, Soft.refl _ _⟩
    case round =>
      obtain ⟨k, rfl, hkl, hS⟩ := hrel
      by_cases hlt : k < l.length
      · obtain ⟨vs, -, hc, ha⟩ := hk k _ (List.getElem?_eq_getElem hlt)
        obtain ⟨i0, i1, i2, p3, x3, v0, l0, v1, l1, v2, l2, v3, l3, rfl, -, -, -, -, ⟨a3, -, e3⟩, k0, k1, k2, k3⟩ := At.exp ha
        replace hc : Cells w b (o + k * 8) _ := hc
        obtain ⟨ad3, c3, rfl, H3⟩ := a3.heads
        unfold maxLen at e3
        have D3 : Hid (∀ W, Soft K w W → W.cell? ⟨b, o + k * 8 + 3, none⟩ = some (.slice ad3 x3.length c3)) := fun W h => h.slice (hc 3 _ rfl)
        have G3 : Hid (∀ W j, Soft K w W → j < x3.length → _) := fun W j h hj => H3.at h hz hj ⟨#[115, 112, 111, 105, 108, 116]⟩ (by decide)
        obtain ⟨-, -, -, e4⟩ := k0.form
        unfold maxLen at e4
        obtain ⟨ad4, c4, rfl, H4⟩ := k0.headsI (k := 5) rfl head_pat
        have D4 : Hid (∀ W, Soft K w W → W.cell? ⟨b, o + k * 8 + 4, none⟩ = some (.slice ad4 l0.length c4)) := fun W h => h.slice (hc 4 _ rfl)
        have G4 : Hid (∀ W j, Soft K w W → j < l0.length → _) := fun W j h hj => H4.at h hz hj 77 (by decide)
        obtain ⟨ad5, c5, rfl, -⟩ := k1.form
        have D5 : Hid (∀ W, Soft K w W → W.cell? ⟨b, o + k * 8 + 5, none⟩ = some (.slice ad5 l1.length c5)) := fun W h => h.slice (hc 5 _ rfl)
        have r5 : Hid (∀ W, Soft K w W → _) := fun W h => q2.at hz k1 W h
        obtain ⟨ad6, c6, rfl, -⟩ := k2.form
        have D6 : Hid (∀ W, Soft K w W → W.cell? ⟨b, o + k * 8 + 6, none⟩ = some (.slice ad6 l2.length c6)) := fun W h => h.slice (hc 6 _ rfl)
        have r6 : Hid (∀ W, Soft K w W → _) := fun W h => q3.at hz k2 W h
        have DK : Hid (∀ W, Soft K w W → (∃ j, W.cell? ⟨b, o + k * 8, none⟩ = some (.int .i64 j)) ∧ W.frozen? ⟨b, o + k * 8, none⟩ = false ∧ Soft K w (W.setCell ⟨b, o + k * 8, none⟩ (.int .i64 77))) := fun W h => by
          obtain ⟨j, hj⟩ := h.int (hc 0 _ rfl)
          exact ⟨⟨j, hj⟩, (h.frozen _).trans (hz b hb _), h.set hb hj (.inr (.inl ⟨j, 77, rfl, rfl, by decide⟩))⟩
        clear hk hc ha hz H3 H4 a3 k0 k1 k2 k3 q2 q3
        go_wp2
        go_loopw [3] (fun u wr => ∃ j : Nat, u = .int .i64 j ∧ j ≤ x3.length ∧ Soft K w wr) (fun u _ => x3.length - (intOf u).toNat)
        case atStart => exact ⟨0, rfl, Nat.zero_le _, hS⟩
        case round =>
          obtain ⟨j3, rfl, hj3, T3⟩ := hrel
          have d3 := D3.out _ T3
          by_cases hl3 : j3 < x3.length
          · obtain ⟨b1, o1, rfl, ⟨t1, ht⟩, hf, hS2⟩ := G3.out _ j3 T3 hl3
            rw [Nat.mul_one] at ht hf hS2
            go_wp2
            go_roundw
            case rel => exact ⟨j3 + 1, by go_num, by omega, hS2⟩
            case measure => simp [intOf]; omega
          · clear G3
            go_wp2
            go_loopw [4] (fun u wr => ∃ j : Nat, u = .int .i64 j ∧ j ≤ l0.length ∧ Soft K w wr) (fun u _ => l0.length - (intOf u).toNat)
            case atStart => exact ⟨0, rfl, Nat.zero_le _, T3⟩
            case round =>
              obtain ⟨j4, rfl, hj4, T4⟩ := hrel
              have d4 := D4.out _ T4
              by_cases hl4 : j4 < l0.length
              · obtain ⟨b1, o1, rfl, ⟨t1, ht⟩, hf, hS2⟩ := G4.out _ j4 T4 hl4
                go_wp2
                go_roundw
                case rel => exact ⟨j4 + 1, by go_num, by omega, hS2⟩
                case measure => simp [intOf]; omega
              · clear G4
                have d5 := D5.out _ T4
                go_wp2_with (first | (go_at_call 7; refine (r6.out _ S5).mono ?_; rintro e w6 ⟨rfl, S6⟩; clear r6; obtain ⟨⟨jk, hjk⟩, hfk, hSk⟩ := DK.out _ S6) | (go_at_call 15; refine (r5.out _ T4).mono ?_; rintro e w5 ⟨rfl, S5⟩; clear r5; have d6 := D6.out _ S5))
                go_roundw
                case rel => exact ⟨k + 1, by go_num, by omega, hSk⟩
                case measure => simp [intOf]; omega
      · go_wp2
        go_end0
        exact ⟨rfl, hS⟩

set_option maxHeartbeats 4000000 in
set_option maxRecDepth 100000 in
theorem spoilW3 (n : Nat) (q2 : SpoilOf 15 n 2) (q5 : SpoilOf 16 n 5) : SpoilOf 7 (n + 1) 3 := by
  intro w K v l hz hv
  by_cases h0 : l = []
  · subst h0
    obtain ⟨y, z, rfl, -⟩ := hv.form
    exact (spoil_nil3 w y z).mono fun e w' ⟨h1, h2⟩ => ⟨h1, by rw [h2]; exact Soft.refl _ _⟩
  · obtain ⟨b, o, c, rfl, hb, -, hx, hk⟩ := hv.resolve_right (fun h => h0 h.1)
    clear hv h0
    unfold maxLen at hx
    go_enter Tryz.func7, Tryz.ntmps7
    go_wp2
    go_loopw [2] (fun u wr => ∃ k : Nat, u = .int .i64 k ∧ k ≤ l.length ∧ Soft K w wr) (fun u _ => l.length - (intOf u).toNat)
    case atStart => exact ⟨0, rfl, Nat.zero_le _, Soft.refl _ _⟩
    case round =>
      obtain ⟨k, rfl, hkl, hS⟩ := hrel
      by_cases hlt : k < l.length
      · obtain ⟨vs, -, hc, ha⟩ := hk k _ (List.getElem?_eq_getElem hlt)
        obtain ⟨i0, i1, s2, p3, x3, v0, l0, v1, l1, v2, l2, v3, l3, v4, l4, rfl, -, -, -, -, ⟨a3, -, e3⟩, k0, k1, k2, k3, k4⟩ := At.dec ha
        replace hc : Cells w b (o + k * 9) _ := hc
        obtain ⟨ad3, c3, rfl, H3⟩ := a3.heads
        unfold maxLen at e3
        have D3 : Hid (∀ W, Soft K w W → W.cell? ⟨b, o + k * 9 + 3, none⟩ = some (.slice ad3 x3.length c3)) := fun W h => h.slice (hc 3 _ rfl)
        have G3 : Hid (∀ W j, Soft K w W → j < x3.length → _) := fun W j h hj => H3.at h hz hj ⟨#[115, 112, 111, 105, 108, 116]⟩ (by decide)
        obtain ⟨-, -, -, e6⟩ := k2.form
        unfold maxLen at e6
        obtain ⟨ad6, c6, rfl, H6⟩ := k2.headsS (k := 2) rfl head_con
        have D6 : Hid (∀ W, Soft K w W → W.cell? ⟨b, o + k * 9 + 6, none⟩ = some (.slice ad6 l2.length c6)) := fun W h => h.slice (hc 6 _ rfl)
        have G6 : Hid (∀ W j, Soft K w W → j < l2.length → _) := fun W j h hj => H6.at h hz hj ⟨#[115, 112, 111, 105, 108, 116]⟩ (by decide)
        obtain ⟨ad5, c5, rfl, -⟩ := k1.form
        have D5 : Hid (∀ W, Soft K w W → W.cell? ⟨b, o + k * 9 + 5, none⟩ = some (.slice ad5 l1.length c5)) := fun W h => h.slice (hc 5 _ rfl)
        have r5 : Hid (∀ W, Soft K w W → _) := fun W h => q2.at hz k1 W h
        obtain ⟨ad7, c7, rfl, -⟩ := k3.form
        have D7 : Hid (∀ W, Soft K w W → W.cell? ⟨b, o + k * 9 + 7, none⟩ = some (.slice ad7 l3.length c7)) := fun W h => h.slice (hc 7 _ rfl)
        have r7 : Hid (∀ W, Soft K w W → _) := fun W h => q5.at hz k3 W h
        obtain ⟨-, -, -, e8⟩ := k4.form
        unfold maxLen at e8
        obtain ⟨ad8, c8, rfl, H8⟩ := k4.headsI (k := 5) rfl head_sig
        have D8 : Hid (∀ W, Soft K w W → W.cell? ⟨b, o + k * 9 + 8, none⟩ = some (.slice ad8 l4.length c8)) := fun W h => h.slice (hc 8 _ rfl)
        have G8 : Hid (∀ W j, Soft K w W → j < l4.length → _) := fun W j h hj => H8.at h hz hj 77 (by decide)
        have DK : Hid (∀ W, Soft K w W → (∃ j, W.cell? ⟨b, o + k * 9, none⟩ = some (.int .i64 j)) ∧ W.frozen? ⟨b, o + k * 9, none⟩ = false ∧ Soft K w (W.setCell ⟨b, o + k * 9, none⟩ (.int .i64 77))) := fun W h => by
          obtain ⟨j, hj⟩ := h.int (hc 0 _ rfl)
          exact ⟨⟨j, hj⟩, (h.frozen _).trans (hz b hb _), h.set hb hj (.inr (.inl ⟨j, 77, rfl, rfl, by decide⟩))⟩
        clear hk hc ha hz H3 H6 H8 a3 k0 k1 k2 k3 k4 q2 q5
        go_wp2
        go_loopw [3] (fun u wr => ∃ j : Nat, u = .int .i64 j ∧ j ≤ x3.length ∧ Soft K w wr) (fun u _ => x3.length - (intOf u).toNat)
        case atStart => exact ⟨0, rfl, Nat.zero_le _, hS⟩
        case round =>
          obtain ⟨j3, rfl, hj3, T3⟩ := hrel
          have d3 := D3.out _ T3
          by_cases hl3 : j3 < x3.length
          · obtain ⟨b1, o1, rfl, ⟨t1, ht⟩, hf, hS2⟩ := G3.out _ j3 T3 hl3
            rw [Nat.mul_one] at ht hf hS2
            go_wp2
            go_roundw
            case rel => exact ⟨j3 + 1, by go_num, by omega, hS2⟩
            case measure => simp [intOf]; omega
          · clear G3
            go_wp2
            go_loopw [4] (fun u wr => ∃ j : Nat, u = .int .i64 j ∧ j ≤ l2.length ∧ Soft K w wr) (fun u _ => l2.length - (intOf u).toNat)
            case atStart => exact ⟨0, rfl, Nat.zero_le _, T3⟩
            case round =>
              obtain ⟨j6, rfl, hj6, T6⟩ := hrel
              have d6 := D6.out _ T6
              by_cases hl6 : j6 < l2.length
              · obtain ⟨b1, o1, rfl, ⟨t1, ht⟩, hf, hS2⟩ := G6.out _ j6 T6 hl6
                go_wp2
                go_roundw
                case rel => exact ⟨j6 + 1, by go_num, by omega, hS2⟩
                case measure => simp [intOf]; omega
              · clear G6
                have d5 := D5.out _ T6
                go_wp2_with (first | (go_at_call 16; refine (r7.out _ S5).mono ?_; rintro e w7 ⟨rfl, S7⟩; clear r7; skip) | (go_at_call 15; refine (r5.out _ T6).mono ?_; rintro e w5 ⟨rfl, S5⟩; clear r5; have d7 := D7.out _ S5))
                go_loopw [5] (fun u wr => ∃ j : Nat, u = .int .i64 j ∧ j ≤ l4.length ∧ Soft K w wr) (fun u _ => l4.length - (intOf u).toNat)
                case atStart => exact ⟨0, rfl, Nat.zero_le _, S7⟩
                case round =>
                  obtain ⟨j8, rfl, hj8, T8⟩ := hrel
                  have d8 := D8.out _ T8
                  by_cases hl8 : j8 < l4.length
                  · obtain ⟨b1, o1, rfl, ⟨t1, ht⟩, hf, hS2⟩ := G8.out _ j8 T8 hl8
                    go_wp2
                    go_roundw
                    case rel => exact ⟨j8 + 1, by go_num, by omega, hS2⟩
                    case measure => simp [intOf]; omega
                  · clear G8
                    obtain ⟨⟨jk, hjk⟩, hfk, hSk⟩ := DK.out _ T8
                    go_wp2
                    go_roundw
                    case rel => exact ⟨k + 1, by go_num, by omega, hSk⟩
                    case measure => simp [intOf]; omega
      · go_wp2
        go_end0
        exact ⟨rfl, hS⟩

theorem AtL.zero {w : World} {K : Nat → Prop} {s : Nat} {v : Value} {l : List Nd} (h : AtL w K 0 s v l) : ∃ p c, v = .slice p 0 c := by
  rcases h with ⟨b, o, c, rfl, -, -, -, hc⟩ | ⟨-, p, c, rfl⟩
  · cases l with
    | nil => exact ⟨_, _, rfl⟩
    | cons x r => obtain ⟨_, -, -, h⟩ := hc 0 x rfl; exact h.elim
  · exact ⟨_, _, rfl⟩
theorem spoil_all : ∀ n, SpoilOf 15 n 2 ∧ SpoilOf 7 n 3 ∧ SpoilOf 16 n 5
  | 0 => by
    refine ⟨fun w K v l hz hv => ?_, fun w K v l hz hv => ?_, fun w K v l hz hv => ?_⟩
    · obtain ⟨p, c, rfl⟩ := hv.zero
      exact (spoil_nil2 w p c).mono fun e w' ⟨h1, h2⟩ => ⟨h1, by rw [h2]; exact Soft.refl _ _⟩
    · obtain ⟨p, c, rfl⟩ := hv.zero
      exact (spoil_nil3 w p c).mono fun e w' ⟨h1, h2⟩ => ⟨h1, by rw [h2]; exact Soft.refl _ _⟩
    · obtain ⟨p, c, rfl⟩ := hv.zero
      exact (spoil_nil5 w p c).mono fun e w' ⟨h1, h2⟩ => ⟨h1, by rw [h2]; exact Soft.refl _ _⟩
  | n + 1 => by
    obtain ⟨h2, h3, h5⟩ := spoil_all n
    exact ⟨spoilW2 n h2 h3, spoilW3 n h2 h5, spoilW5 n h3 h5⟩

end Go.Proofs.YtgiegjghldhppabGreat
