/- The walk of LexJoins. -/
import Derived.Test.YtfjcnncpmhfbnaaDoorJoinsR
namespace Go.Proofs.YtfjcnncpmhfbnaaDoor
open Go.RowKit
set_option linter.unusedVariables false

theorem Tv.same_self (xs : List Tv) : Tv.same xs xs = true := by unfold Tv.same; rw [decide_eq_true_iff]

set_option maxRecDepth 100000 in
set_option maxHeartbeats 4000000 in
theorem joins_walk (va vb : Value) (xs ys : List Tv) (w : World) (ha : TvAt w va xs) (hb : TvAt w vb ys) (hx : xs.length ≤ 1048576) (hy : ys.length ≤ 1048576) (hj : (Tv.joined xs).length ≤ 4194304) (hE : Er w) :
    Calls Tryd.prog 4 #[va, vb] w fun e w' => e = .returned (.bool true) ∧ Below w.heap.size w w' := by
  have OA : ∀ {W : World}, Below w.heap.size w W → Calls Tryd.prog 14 #[va] W fun e w' => (∃ v', e = .returned v' ∧ TvAt w' v' xs) ∧ Below W.heap.size W w' := fun {W} h =>
    (own_any va xs W (ha.below h (Nat.le_refl _)) hx).mono fun e w' ⟨⟨v', he, hr⟩, hb⟩ => ⟨⟨v', he, TvAt.of_row hr⟩, hb⟩
  have OB : ∀ {W : World}, Below w.heap.size w W → Calls Tryd.prog 14 #[vb] W fun e w' => (∃ v', e = .returned v' ∧ TvAt w' v' ys) ∧ Below W.heap.size W w' := fun {W} h =>
    (own_any vb ys W (hb.below h (Nat.le_refl _)) hy).mono fun e w' ⟨⟨v', he, hr⟩, hb⟩ => ⟨⟨v', he, TvAt.of_row hr⟩, hb⟩
  have JL : ∀ (v : Value) (W : World), TvAt W v xs → Calls Tryd.prog 13 #[v] W fun e w' => e = .returned (.string ⟨(Tv.joined xs).toArray⟩) ∧ Below W.heap.size W w' := fun v W h => lxJoin_any v xs W h (by omega) (by omega)
  have JR : ∀ {W : World}, Below w.heap.size w W → Calls Tryd.prog 15 #[va] W fun e w' => e = .returned (.string ⟨(Tv.joined xs).toArray⟩) ∧ Below W.heap.size W w' := fun {W} h => rfJoin_any va xs W (ha.below h (Nat.le_refl _)) hx hj
  have SL : ∀ (v1 v2 : Value) (W : World), TvAt W v1 xs → TvAt W v2 ys → Calls Tryd.prog 16 #[v1, v2] W fun e w' => e = .returned (.bool (Tv.same xs ys)) ∧ Below W.heap.size W w' := fun v1 v2 W h1 h2 => lxSame_any v1 v2 xs ys W h1 h2 (by unfold maxLen; omega) (by unfold maxLen; omega)
  have SS : ∀ (v1 v2 : Value) (W : World), TvAt W v1 xs → TvAt W v2 xs → Calls Tryd.prog 16 #[v1, v2] W fun e w' => e = .returned (.bool true) ∧ Below W.heap.size W w' := fun v1 v2 W h1 h2 => by
    have := lxSame_any v1 v2 xs xs W h1 h2 (by unfold maxLen; omega) (by unfold maxLen; omega)
    rwa [Tv.same_self] at this
  have SR : ∀ {W : World}, Below w.heap.size w W → Calls Tryd.prog 17 #[va, vb] W fun e w' => e = .returned (.bool (Tv.same xs ys)) ∧ Below W.heap.size W w' := fun {W} h =>
    (rfSame_any va vb xs ys W (ha.below h (Nat.le_refl _)) (hb.below h (Nat.le_refl _)) hx hy).mono fun e w' ⟨he, q, hq⟩ => ⟨he, by rw [hq]; exact lxBd (Below.refl _ _) _⟩
  have HOA : Hid (∀ {W : World}, Below w.heap.size w W → Calls Tryd.prog 14 #[va] W fun e w' => (∃ v', e = .returned v' ∧ TvAt w' v' xs) ∧ Below W.heap.size W w') := OA
  have HOB : Hid (∀ {W : World}, Below w.heap.size w W → Calls Tryd.prog 14 #[vb] W fun e w' => (∃ v', e = .returned v' ∧ TvAt w' v' ys) ∧ Below W.heap.size W w') := OB
  generalize (⟨(Tv.joined xs).toArray⟩ : ByteArray) = J at JL JR
  generalize Tv.same xs ys = S at SL SR
  have hJJ : (J.toList == J.toList) = true := beq_self_eq_true _
  obtain ⟨a1, c1, hfa⟩ := ha.form
  obtain ⟨a2, c2, hfb⟩ := hb.form
  subst hfa; subst hfb
  clear OA OB ha hb
  go_enter Tryd.func4, Tryd.ntmps4
  go_wp2_with (first
    | (go_at_call 11; refine (lxAlive_any _ (hE.below B10 (Nat.le_refl _))).mono ?_; rintro e w11 ⟨rfl, hb11⟩)
    | (go_at_call 16; have _ := m9; refine (SS _ _ _ (t8.below hb9 (Nat.le_refl _)) t9).mono ?_; rintro e w10 ⟨rfl, hb10⟩; have B10 := lxTr B9 hb10)
    | (go_at_call 14; have _ := m8; refine (HOA.out B8).mono ?_; rintro e w9 ⟨⟨v9, rfl, t9⟩, hb9⟩; have m9 := True.intro; have B9 := lxTr B8 hb9)
    | (go_at_call 14; have _ := m7; refine (HOA.out B7).mono ?_; rintro e w8 ⟨⟨v8, rfl, t8⟩, hb8⟩; have m8 := True.intro; have B8 := lxTr B7 hb8)
    | (go_at_call 17; refine (SR B6).mono ?_; rintro e w7 ⟨rfl, hb7⟩; have m7 := True.intro; have B7 := lxTr B6 hb7)
    | (go_at_call 16; refine (SL _ _ _ (t4.below hb5 (Nat.le_refl _)) t5).mono ?_; rintro e w6 ⟨rfl, hb6⟩; have B6 := lxTr B5 hb6)
    | (go_at_call 14; have _ := m4; refine (HOB.out B4).mono ?_; rintro e w5 ⟨⟨v5, rfl, t5⟩, hb5⟩; have B5 := lxTr B4 hb5)
    | (go_at_call 14; have _ := m3; refine (HOA.out B3).mono ?_; rintro e w4 ⟨⟨v4, rfl, t4⟩, hb4⟩; have m4 := True.intro; have B4 := lxTr B3 hb4)
    | (go_at_call 15; refine (JR B2).mono ?_; rintro e w3 ⟨rfl, hb3⟩; have m3 := True.intro; have B3 := lxTr B2 hb3)
    | (go_at_call 13; refine (JL _ _ t1).mono ?_; rintro e w2 ⟨rfl, hb2⟩; have B2 := lxTr hb1 hb2)
    | (go_at_call 14; refine (HOA.out (Below.refl _ _)).mono ?_; rintro e w1 ⟨⟨v1, rfl, t1⟩, hb1⟩))
  go_ret
  exact ⟨rfl, lxTr B10 hb11⟩
end Go.Proofs.YtfjcnncpmhfbnaaDoor
