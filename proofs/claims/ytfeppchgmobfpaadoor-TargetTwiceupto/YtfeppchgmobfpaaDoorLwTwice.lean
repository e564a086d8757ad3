/- TargetTwice' walk. -/
import Derived.Test.YtfeppchgmobfpaaDoorTgY2
import Derived.Test.YtfeppchgmobfpaaDoorTgTw
namespace Go.Proofs.YtfeppchgmobfpaaDoor
open Go.RowKit
set_option linter.unusedVariables false
set_option linter.unusedSimpArgs false

/-- A value that is the type t. -/
structure Tv (w : World) (xs : List Value) (t : Tt) : Prop where
  ex : ∃ k, TAt w Any k xs t
theorem Tv.stays {w w' : World} {xs : List Value} {t : Tt} (h : Tv w xs t) (hb : Below w.heap.size w w') : Tv w' xs t := by
  obtain ⟨k, h⟩ := h.ex
  exact ⟨k, h.below hb⟩

set_option maxHeartbeats 8000000 in
set_option maxRecDepth 100000 in
theorem twice_walk (w : World) (hW : Tab w) (k0 k1 k2 : Nat) (us0 us1 us2 : List Value) (t a b : Tt) (h0 : TAt w Any k0 us0 t) (h1 : TAt w Any k1 us1 a) (h2 : TAt w Any k2 us2 b) (n m : Int) (hn : R64 n) (hm : R64 m) (hc : 3 * (t.cnt + a.cnt + b.cnt) ≤ 1048576) : Calls Tryd.prog 3 #[.agg us0.toArray, .int .i64 n, .int .i64 m, .agg us1.toArray, .agg us2.toArray] w fun e w' => e = .returned (.bool true) ∧ Below w.heap.size w w' := by
  obtain ⟨ta, tb, tc, td, rfl⟩ := h0.form
  obtain ⟨aa, ab, ac, ad, rfl⟩ := h1.form
  obtain ⟨ba, bb, bc, bd, rfl⟩ := h2.form
  have BW : Hid (Below w.heap.size w (((w.alloc (.cells #[.int .i64 t.k, .int .i64 t.n, .slice ta t.ls.length tb, .slice tc t.ks.length td] TY)).alloc (.cells #[.int .i64 a.k, .int .i64 a.n, .slice aa a.ls.length ab, .slice ac a.ks.length ad] TY)).alloc (.cells #[.int .i64 b.k, .int .i64 b.n, .slice ba b.ls.length bb, .slice bc b.ks.length bd] TY))) := bl_alloc (bl_alloc (bl_alloc (Below.refl _ _) _) _) _
  have X0 : Arr (((w.alloc (.cells #[.int .i64 t.k, .int .i64 t.n, .slice ta t.ls.length tb, .slice tc t.ks.length td] TY)).alloc (.cells #[.int .i64 a.k, .int .i64 a.n, .slice aa a.ls.length ab, .slice ac a.ks.length ad] TY)).alloc (.cells #[.int .i64 b.k, .int .i64 b.n, .slice ba b.ls.length bb, .slice bc b.ks.length bd] TY)) w.heap.size TY [.int .i64 t.k, .int .i64 t.n, .slice ta t.ls.length tb, .slice tc t.ks.length td] := Arr.stays (Arr.stays ⟨heap_alloc_at _ _⟩ (bl_alloc (Below.refl _ _) _)) (bl_alloc (Below.refl _ _) _)
  have X1 : Arr (((w.alloc (.cells #[.int .i64 t.k, .int .i64 t.n, .slice ta t.ls.length tb, .slice tc t.ks.length td] TY)).alloc (.cells #[.int .i64 a.k, .int .i64 a.n, .slice aa a.ls.length ab, .slice ac a.ks.length ad] TY)).alloc (.cells #[.int .i64 b.k, .int .i64 b.n, .slice ba b.ls.length bb, .slice bc b.ks.length bd] TY)) (w.heap.size + 1) TY [.int .i64 a.k, .int .i64 a.n, .slice aa a.ls.length ab, .slice ac a.ks.length ad] := Arr.stays (w := (w.alloc (.cells #[.int .i64 t.k, .int .i64 t.n, .slice ta t.ls.length tb, .slice tc t.ks.length td] TY)).alloc (.cells #[.int .i64 a.k, .int .i64 a.n, .slice aa a.ls.length ab, .slice ac a.ks.length ad] TY)) ⟨by have := heap_alloc_at (w.alloc (.cells #[.int .i64 t.k, .int .i64 t.n, .slice ta t.ls.length tb, .slice tc t.ks.length td] TY)) (.cells #[.int .i64 a.k, .int .i64 a.n, .slice aa a.ls.length ab, .slice ac a.ks.length ad] TY); rw [size_alloc] at this; exact this⟩ (bl_alloc (Below.refl _ _) _)
  have X2 : Arr (((w.alloc (.cells #[.int .i64 t.k, .int .i64 t.n, .slice ta t.ls.length tb, .slice tc t.ks.length td] TY)).alloc (.cells #[.int .i64 a.k, .int .i64 a.n, .slice aa a.ls.length ab, .slice ac a.ks.length ad] TY)).alloc (.cells #[.int .i64 b.k, .int .i64 b.n, .slice ba b.ls.length bb, .slice bc b.ks.length bd] TY)) (w.heap.size + 1 + 1) TY [.int .i64 b.k, .int .i64 b.n, .slice ba b.ls.length bb, .slice bc b.ks.length bd] := ⟨by have := heap_alloc_at ((w.alloc (.cells #[.int .i64 t.k, .int .i64 t.n, .slice ta t.ls.length tb, .slice tc t.ks.length td] TY)).alloc (.cells #[.int .i64 a.k, .int .i64 a.n, .slice aa a.ls.length ab, .slice ac a.ks.length ad] TY)) (.cells #[.int .i64 b.k, .int .i64 b.n, .slice ba b.ls.length bb, .slice bc b.ks.length bd] TY); rw [size_alloc, size_alloc] at this; exact this⟩
  have C0 : Hid (∀ wz, Below (((w.alloc (.cells #[.int .i64 t.k, .int .i64 t.n, .slice ta t.ls.length tb, .slice tc t.ks.length td] TY)).alloc (.cells #[.int .i64 a.k, .int .i64 a.n, .slice aa a.ls.length ab, .slice ac a.ks.length ad] TY)).alloc (.cells #[.int .i64 b.k, .int .i64 b.n, .slice ba b.ls.length bb, .slice bc b.ks.length bd] TY)).heap.size (((w.alloc (.cells #[.int .i64 t.k, .int .i64 t.n, .slice ta t.ls.length tb, .slice tc t.ks.length td] TY)).alloc (.cells #[.int .i64 a.k, .int .i64 a.n, .slice aa a.ls.length ab, .slice ac a.ks.length ad] TY)).alloc (.cells #[.int .i64 b.k, .int .i64 b.n, .slice ba b.ls.length bb, .slice bc b.ks.length bd] TY)) wz → ∀ j, wz.cell? ⟨w.heap.size, j, none⟩ = [.int .i64 t.k, .int .i64 t.n, .slice ta t.ls.length tb, .slice tc t.ks.length td][j]?) := fun wz hz j => (X0.stays hz).cell j
  have C1 : Hid (∀ wz, Below (((w.alloc (.cells #[.int .i64 t.k, .int .i64 t.n, .slice ta t.ls.length tb, .slice tc t.ks.length td] TY)).alloc (.cells #[.int .i64 a.k, .int .i64 a.n, .slice aa a.ls.length ab, .slice ac a.ks.length ad] TY)).alloc (.cells #[.int .i64 b.k, .int .i64 b.n, .slice ba b.ls.length bb, .slice bc b.ks.length bd] TY)).heap.size (((w.alloc (.cells #[.int .i64 t.k, .int .i64 t.n, .slice ta t.ls.length tb, .slice tc t.ks.length td] TY)).alloc (.cells #[.int .i64 a.k, .int .i64 a.n, .slice aa a.ls.length ab, .slice ac a.ks.length ad] TY)).alloc (.cells #[.int .i64 b.k, .int .i64 b.n, .slice ba b.ls.length bb, .slice bc b.ks.length bd] TY)) wz → ∀ j, wz.cell? ⟨w.heap.size + 1, j, none⟩ = [.int .i64 a.k, .int .i64 a.n, .slice aa a.ls.length ab, .slice ac a.ks.length ad][j]?) := fun wz hz j => (X1.stays hz).cell j
  have C2 : Hid (∀ wz, Below (((w.alloc (.cells #[.int .i64 t.k, .int .i64 t.n, .slice ta t.ls.length tb, .slice tc t.ks.length td] TY)).alloc (.cells #[.int .i64 a.k, .int .i64 a.n, .slice aa a.ls.length ab, .slice ac a.ks.length ad] TY)).alloc (.cells #[.int .i64 b.k, .int .i64 b.n, .slice ba b.ls.length bb, .slice bc b.ks.length bd] TY)).heap.size (((w.alloc (.cells #[.int .i64 t.k, .int .i64 t.n, .slice ta t.ls.length tb, .slice tc t.ks.length td] TY)).alloc (.cells #[.int .i64 a.k, .int .i64 a.n, .slice aa a.ls.length ab, .slice ac a.ks.length ad] TY)).alloc (.cells #[.int .i64 b.k, .int .i64 b.n, .slice ba b.ls.length bb, .slice bc b.ks.length bd] TY)) wz → ∀ j, wz.cell? ⟨w.heap.size + 1 + 1, j, none⟩ = [.int .i64 b.k, .int .i64 b.n, .slice ba b.ls.length bb, .slice bc b.ks.length bd][j]?) := fun wz hz j => (X2.stays hz).cell j
  have FA : Hid (∀ wz, Below (((w.alloc (.cells #[.int .i64 t.k, .int .i64 t.n, .slice ta t.ls.length tb, .slice tc t.ks.length td] TY)).alloc (.cells #[.int .i64 a.k, .int .i64 a.n, .slice aa a.ls.length ab, .slice ac a.ks.length ad] TY)).alloc (.cells #[.int .i64 b.k, .int .i64 b.n, .slice ba b.ls.length bb, .slice bc b.ks.length bd] TY)).heap.size (((w.alloc (.cells #[.int .i64 t.k, .int .i64 t.n, .slice ta t.ls.length tb, .slice tc t.ks.length td] TY)).alloc (.cells #[.int .i64 a.k, .int .i64 a.n, .slice aa a.ls.length ab, .slice ac a.ks.length ad] TY)).alloc (.cells #[.int .i64 b.k, .int .i64 b.n, .slice ba b.ls.length bb, .slice bc b.ks.length bd] TY)) wz → Calls Tryd.prog 4 #[.agg #[.int .i64 a.k, .int .i64 a.n, .slice aa a.ls.length ab, .slice ac a.ks.length ad]] wz fun e w' => (∃ v l p c, e = .returned v ∧ v = .slice p (l : Nat) c ∧ l ≤ 9223372036854775807 ∧ (l = 0 → ∀ x, a.fv [] x = false)) ∧ Below wz.heap.size wz w') := fun wz hz => by
    refine (FreeTypes_any wz k1 _ a (h1.below (bl_tr BW.out hz)) (by omega)).mono ?_
    rintro e w' ⟨v, l, rfl, g1, g2, g3⟩
    refine ⟨?_, g3⟩
    rcases g1 with ⟨p, o, c, rfl, -, -, hm, -⟩ | ⟨rfl, p, c, rfl⟩
    · exact ⟨_, l.length, _, _, rfl, rfl, hm, fun h0 => Tt.free_closed g2 h0⟩
    · exact ⟨_, 0, _, _, rfl, rfl, by decide, fun _ => Tt.free_closed g2 rfl⟩
  have FB : Hid (∀ wz, Below (((w.alloc (.cells #[.int .i64 t.k, .int .i64 t.n, .slice ta t.ls.length tb, .slice tc t.ks.length td] TY)).alloc (.cells #[.int .i64 a.k, .int .i64 a.n, .slice aa a.ls.length ab, .slice ac a.ks.length ad] TY)).alloc (.cells #[.int .i64 b.k, .int .i64 b.n, .slice ba b.ls.length bb, .slice bc b.ks.length bd] TY)).heap.size (((w.alloc (.cells #[.int .i64 t.k, .int .i64 t.n, .slice ta t.ls.length tb, .slice tc t.ks.length td] TY)).alloc (.cells #[.int .i64 a.k, .int .i64 a.n, .slice aa a.ls.length ab, .slice ac a.ks.length ad] TY)).alloc (.cells #[.int .i64 b.k, .int .i64 b.n, .slice ba b.ls.length bb, .slice bc b.ks.length bd] TY)) wz → Calls Tryd.prog 4 #[.agg #[.int .i64 b.k, .int .i64 b.n, .slice ba b.ls.length bb, .slice bc b.ks.length bd]] wz fun e w' => (∃ v l p c, e = .returned v ∧ v = .slice p (l : Nat) c ∧ l ≤ 9223372036854775807 ∧ (l = 0 → ∀ x, b.fv [] x = false)) ∧ Below wz.heap.size wz w') := fun wz hz => by
    refine (FreeTypes_any wz k2 _ b (h2.below (bl_tr BW.out hz)) (by omega)).mono ?_
    rintro e w' ⟨v, l, rfl, g1, g2, g3⟩
    refine ⟨?_, g3⟩
    rcases g1 with ⟨p, o, c, rfl, -, -, hm, -⟩ | ⟨rfl, p, c, rfl⟩
    · exact ⟨_, l.length, _, _, rfl, rfl, hm, fun h0 => Tt.free_closed g2 h0⟩
    · exact ⟨_, 0, _, _, rfl, rfl, by decide, fun _ => Tt.free_closed g2 rfl⟩
  have AQ : Hid (∀ wz, Below (((w.alloc (.cells #[.int .i64 t.k, .int .i64 t.n, .slice ta t.ls.length tb, .slice tc t.ks.length td] TY)).alloc (.cells #[.int .i64 a.k, .int .i64 a.n, .slice aa a.ls.length ab, .slice ac a.ks.length ad] TY)).alloc (.cells #[.int .i64 b.k, .int .i64 b.n, .slice ba b.ls.length bb, .slice bc b.ks.length bd] TY)).heap.size (((w.alloc (.cells #[.int .i64 t.k, .int .i64 t.n, .slice ta t.ls.length tb, .slice tc t.ks.length td] TY)).alloc (.cells #[.int .i64 a.k, .int .i64 a.n, .slice aa a.ls.length ab, .slice ac a.ks.length ad] TY)).alloc (.cells #[.int .i64 b.k, .int .i64 b.n, .slice ba b.ls.length bb, .slice bc b.ks.length bd] TY)) wz → Calls Tryd.prog 5 #[] wz fun e w' => e = .returned (.bool true) ∧ Below wz.heap.size wz w') := fun wz hz => alive_any wz (hW.stays (bl_tr BW.out hz))
  have hdt := Tt.deepest_le t
  have hda := Tt.deepest_le a
  have hdb := Tt.deepest_le b
  have hta := t.cnt_pos
  have hmul : ∀ x y z : Nat, 3 * (x + y + z) ≤ 1048576 → x * (y + z) ≤ 68719476736 := fun x y z h => by
    have h1 : x ≤ 349525 := by omega
    have h2 : y + z ≤ 349525 - x := by omega
    have h3 : x * (y + z) ≤ x * (349525 - x) := Nat.mul_le_mul_left _ h2
    have h4 : x * (349525 - x) ≤ 349525 * 174763 := by
      rcases Nat.le_total x 174763 with h5 | h5
      · calc x * (349525 - x) ≤ 174763 * 349525 := Nat.mul_le_mul h5 (by omega)
          _ ≤ _ := by decide
      · calc x * (349525 - x) ≤ 349525 * 174763 := Nat.mul_le_mul h1 (by omega)
          _ ≤ _ := Nat.le_refl _
    omega
  have PA1 : Hid ((∀ x, a.fv [] x = false) → ∀ wz, Below (((w.alloc (.cells #[.int .i64 t.k, .int .i64 t.n, .slice ta t.ls.length tb, .slice tc t.ks.length td] TY)).alloc (.cells #[.int .i64 a.k, .int .i64 a.n, .slice aa a.ls.length ab, .slice ac a.ks.length ad] TY)).alloc (.cells #[.int .i64 b.k, .int .i64 b.n, .slice ba b.ls.length bb, .slice bc b.ks.length bd] TY)).heap.size (((w.alloc (.cells #[.int .i64 t.k, .int .i64 t.n, .slice ta t.ls.length tb, .slice tc t.ks.length td] TY)).alloc (.cells #[.int .i64 a.k, .int .i64 a.n, .slice aa a.ls.length ab, .slice ac a.ks.length ad] TY)).alloc (.cells #[.int .i64 b.k, .int .i64 b.n, .slice ba b.ls.length bb, .slice bc b.ks.length bd] TY)) wz → Calls Tryd.prog 7 #[.agg #[.int .i64 t.k, .int .i64 t.n, .slice ta t.ls.length tb, .slice tc t.ks.length td], .int .i64 n, .agg #[.int .i64 a.k, .int .i64 a.n, .slice aa a.ls.length ab, .slice ac a.ks.length ad]] wz fun e w' => ∃ xs, e = .returned (.agg xs.toArray) ∧ Tv w' xs (Tt.sub n a t []) ∧ Below wz.heap.size wz w') := fun ca wz hz => by
    refine (Put_big wz k0 k1 _ _ t a n hn (h0.below (bl_tr BW.out hz)) (h1.below (bl_tr BW.out hz)) (by omega) (by omega) (by omega)).mono ?_
    rintro e w' ⟨xs, k', l, rfl, g1, g2, -⟩
    rw [Tt.Put_closed n ca l t] at g1
    exact ⟨xs, rfl, ⟨k', g1⟩, g2⟩
  have PB1 : Hid ((∀ x, b.fv [] x = false) → ∀ wz, Below (((w.alloc (.cells #[.int .i64 t.k, .int .i64 t.n, .slice ta t.ls.length tb, .slice tc t.ks.length td] TY)).alloc (.cells #[.int .i64 a.k, .int .i64 a.n, .slice aa a.ls.length ab, .slice ac a.ks.length ad] TY)).alloc (.cells #[.int .i64 b.k, .int .i64 b.n, .slice ba b.ls.length bb, .slice bc b.ks.length bd] TY)).heap.size (((w.alloc (.cells #[.int .i64 t.k, .int .i64 t.n, .slice ta t.ls.length tb, .slice tc t.ks.length td] TY)).alloc (.cells #[.int .i64 a.k, .int .i64 a.n, .slice aa a.ls.length ab, .slice ac a.ks.length ad] TY)).alloc (.cells #[.int .i64 b.k, .int .i64 b.n, .slice ba b.ls.length bb, .slice bc b.ks.length bd] TY)) wz → Calls Tryd.prog 7 #[.agg #[.int .i64 t.k, .int .i64 t.n, .slice ta t.ls.length tb, .slice tc t.ks.length td], .int .i64 m, .agg #[.int .i64 b.k, .int .i64 b.n, .slice ba b.ls.length bb, .slice bc b.ks.length bd]] wz fun e w' => ∃ xs, e = .returned (.agg xs.toArray) ∧ Tv w' xs (Tt.sub m b t []) ∧ Below wz.heap.size wz w') := fun cb wz hz => by
    refine (Put_big wz k0 k2 _ _ t b m hm (h0.below (bl_tr BW.out hz)) (h2.below (bl_tr BW.out hz)) (by omega) (by omega) (by omega)).mono ?_
    rintro e w' ⟨xs, k', l, rfl, g1, g2, -⟩
    rw [Tt.Put_closed m cb l t] at g1
    exact ⟨xs, rfl, ⟨k', g1⟩, g2⟩
  have PA2 : Hid ((∀ x, b.fv [] x = false) → ∀ wz xs, Below (((w.alloc (.cells #[.int .i64 t.k, .int .i64 t.n, .slice ta t.ls.length tb, .slice tc t.ks.length td] TY)).alloc (.cells #[.int .i64 a.k, .int .i64 a.n, .slice aa a.ls.length ab, .slice ac a.ks.length ad] TY)).alloc (.cells #[.int .i64 b.k, .int .i64 b.n, .slice ba b.ls.length bb, .slice bc b.ks.length bd] TY)).heap.size (((w.alloc (.cells #[.int .i64 t.k, .int .i64 t.n, .slice ta t.ls.length tb, .slice tc t.ks.length td] TY)).alloc (.cells #[.int .i64 a.k, .int .i64 a.n, .slice aa a.ls.length ab, .slice ac a.ks.length ad] TY)).alloc (.cells #[.int .i64 b.k, .int .i64 b.n, .slice ba b.ls.length bb, .slice bc b.ks.length bd] TY)) wz → Tv wz xs (Tt.sub n a t []) → Calls Tryd.prog 7 #[.agg xs.toArray, .int .i64 m, .agg #[.int .i64 b.k, .int .i64 b.n, .slice ba b.ls.length bb, .slice bc b.ks.length bd]] wz fun e w' => ∃ ys, e = .returned (.agg ys.toArray) ∧ Tv w' ys (Tt.sub m b (Tt.sub n a t []) []) ∧ Below wz.heap.size wz w') := fun cb wz xs hz hx => by
    obtain ⟨k', hx⟩ := hx.ex
    have hs := Tt.sub_cnt n a t []
    have hb := hmul t.cnt a.cnt b.cnt hc
    rw [Nat.mul_add] at hb
    refine (Put_big wz k' k2 _ _ _ b m hm hx (h2.below (bl_tr BW.out hz)) (by omega) (by omega) (by omega)).mono ?_
    rintro e w' ⟨ys, k', l, rfl, g1, g2, -⟩
    rw [Tt.Put_closed m cb l _] at g1
    exact ⟨ys, rfl, ⟨k', g1⟩, g2⟩
  have PB2 : Hid ((∀ x, a.fv [] x = false) → ∀ wz xs, Below (((w.alloc (.cells #[.int .i64 t.k, .int .i64 t.n, .slice ta t.ls.length tb, .slice tc t.ks.length td] TY)).alloc (.cells #[.int .i64 a.k, .int .i64 a.n, .slice aa a.ls.length ab, .slice ac a.ks.length ad] TY)).alloc (.cells #[.int .i64 b.k, .int .i64 b.n, .slice ba b.ls.length bb, .slice bc b.ks.length bd] TY)).heap.size (((w.alloc (.cells #[.int .i64 t.k, .int .i64 t.n, .slice ta t.ls.length tb, .slice tc t.ks.length td] TY)).alloc (.cells #[.int .i64 a.k, .int .i64 a.n, .slice aa a.ls.length ab, .slice ac a.ks.length ad] TY)).alloc (.cells #[.int .i64 b.k, .int .i64 b.n, .slice ba b.ls.length bb, .slice bc b.ks.length bd] TY)) wz → Tv wz xs (Tt.sub m b t []) → Calls Tryd.prog 7 #[.agg xs.toArray, .int .i64 n, .agg #[.int .i64 a.k, .int .i64 a.n, .slice aa a.ls.length ab, .slice ac a.ks.length ad]] wz fun e w' => ∃ ys, e = .returned (.agg ys.toArray) ∧ Tv w' ys (Tt.sub n a (Tt.sub m b t []) []) ∧ Below wz.heap.size wz w') := fun ca wz xs hz hx => by
    obtain ⟨k', hx⟩ := hx.ex
    have hs := Tt.sub_cnt m b t []
    have hb := hmul t.cnt a.cnt b.cnt hc
    rw [Nat.mul_add] at hb
    refine (Put_big wz k' k1 _ _ _ a n hn hx (h1.below (bl_tr BW.out hz)) (by omega) (by omega) (by omega)).mono ?_
    rintro e w' ⟨ys, k', l, rfl, g1, g2, -⟩
    rw [Tt.Put_closed n ca l _] at g1
    exact ⟨ys, rfl, ⟨k', g1⟩, g2⟩
  have SQ : Hid (n ≠ m → (∀ x, a.fv [] x = false) → (∀ x, b.fv [] x = false) → ∀ wz xs ys, Below (((w.alloc (.cells #[.int .i64 t.k, .int .i64 t.n, .slice ta t.ls.length tb, .slice tc t.ks.length td] TY)).alloc (.cells #[.int .i64 a.k, .int .i64 a.n, .slice aa a.ls.length ab, .slice ac a.ks.length ad] TY)).alloc (.cells #[.int .i64 b.k, .int .i64 b.n, .slice ba b.ls.length bb, .slice bc b.ks.length bd] TY)).heap.size (((w.alloc (.cells #[.int .i64 t.k, .int .i64 t.n, .slice ta t.ls.length tb, .slice tc t.ks.length td] TY)).alloc (.cells #[.int .i64 a.k, .int .i64 a.n, .slice aa a.ls.length ab, .slice ac a.ks.length ad] TY)).alloc (.cells #[.int .i64 b.k, .int .i64 b.n, .slice ba b.ls.length bb, .slice bc b.ks.length bd] TY)) wz → Tv wz xs (Tt.sub m b (Tt.sub n a t []) []) → Tv wz ys (Tt.sub n a (Tt.sub m b t []) []) → Calls Tryd.prog 6 #[.agg xs.toArray, .agg ys.toArray] wz fun e w' => e = .returned (.bool true) ∧ Below wz.heap.size wz w') := fun hnm ca cb wz xs ys hz hx hy => by
    obtain ⟨k', hx⟩ := hx.ex
    obtain ⟨k'', hy⟩ := hy.ex
    have hs := Tt.sub2_cnt (n := n) (m := m) (b := b) ca t []
    have hb := hmul t.cnt a.cnt b.cnt hc
    rw [← Tt.sub_sub hnm ca cb t []] at hy
    have := SameType_big wz k' k'' _ _ _ _ hx hy (by omega) (by omega)
    rw [Tt.same_refl] at this
    exact this
  have HS3 : Hid (w.heap.size + 3 = (((w.alloc (.cells #[.int .i64 t.k, .int .i64 t.n, .slice ta t.ls.length tb, .slice tc t.ks.length td] TY)).alloc (.cells #[.int .i64 a.k, .int .i64 a.n, .slice aa a.ls.length ab, .slice ac a.ks.length ad] TY)).alloc (.cells #[.int .i64 b.k, .int .i64 b.n, .slice ba b.ls.length bb, .slice bc b.ks.length bd] TY)).heap.size) := by show _ = _; rw [size_alloc, size_alloc, size_alloc]
  have x1 := X1.cell
  have x2 := X2.cell
  clear h0 h1 h2 hn hm hc hdt hda hdb hta hmul X0 X1 X2 hW
  go_enter Tryd.func3, Tryd.ntmps3
  go_wp2_with fail
  obtain ⟨W, hWW⟩ : ∃ W, (((w.alloc (.cells #[.int .i64 t.k, .int .i64 t.n, .slice ta t.ls.length tb, .slice tc t.ks.length td] TY)).alloc (.cells #[.int .i64 a.k, .int .i64 a.n, .slice aa a.ls.length ab, .slice ac a.ks.length ad] TY)).alloc (.cells #[.int .i64 b.k, .int .i64 b.n, .slice ba b.ls.length bb, .slice bc b.ks.length bd] TY)) = W := ⟨_, rfl⟩
  rw [hWW] at BW C0 C1 C2 FA FB AQ PA1 PB1 PA2 PB2 SQ HS3 x1 x2 ⊢
  clear hWW
  refine wp_region_held_drew (S := fun wz => Below W.heap.size W wz) (by kernel_rfl) ((Below.refl _ _).drew) (fun hS => ?_)
  generalize W.drew = wc0 at hS   ⊢
  refine wpAnyH_take (i := 0) (v := ?_) rfl (by kernel_rfl) (by kernel_rfl) (by kernel_rfl) (fun _ _ _ h => h) (Or.inl ⟨by rfl, ?_⟩) hS ?_
  rotate_left
  · intro wz hz; have yy1 := C1.out wz hz; have yy2 := C2.out wz hz; go_simp; try with_reducible rfl
  try simp only [Act.put, List.setIfInBounds_toArray, List.set_cons_zero, List.set_cons_succ, List.getElem_toArray, List.getElem_cons_succ, List.getElem_cons_zero]
  refine wpAnyH_take (i := 2) (v := ?_) rfl (by kernel_rfl) (by kernel_rfl) (by kernel_rfl) (fun _ _ _ h => h) (Or.inl ⟨by rfl, ?_⟩) hS ?_
  rotate_left
  · intro wz hz; have yy1 := C1.out wz hz; have yy2 := C2.out wz hz; go_simp; try with_reducible rfl
  try simp only [Act.put, List.setIfInBounds_toArray, List.set_cons_zero, List.set_cons_succ, List.getElem_toArray, List.getElem_cons_succ, List.getElem_cons_zero]
  refine wpAnyH_ready (rs := [1]) (by kernel_rfl) (by simp) (AllReadyH.cons rfl (fun K hK => ?a1_1) AllReadyH.nil)
  case' a1_1 =>
    go_simp
    refine (FA.out wc0 hS).mono ?_
    rintro e wc1 ⟨⟨vx, lx, px, cx, rfl, rfl, hlx, hcx⟩, hb⟩
    have HCx := hid hcx
    clear hcx
    refine hK.out _ _ (bl_on hS hb) (fun hSn => ?_)
    clear hK K hS
    have hS := hSn
    clear hSn
    try simp only [Act.put, List.setIfInBounds_toArray, List.set_cons_zero, List.set_cons_succ, List.getElem_toArray, List.getElem_cons_succ, List.getElem_cons_zero]
    clear hb
    refine wpAnyH_ready (rs := [3]) (by kernel_rfl) (by simp) (AllReadyH.cons rfl (fun K hK => ?a2_3) AllReadyH.nil)
    case' a2_3 =>
      go_simp
      refine (FB.out wc1 hS).mono ?_
      rintro e wc2 ⟨⟨vy, ly, py, cy, rfl, rfl, hly, hcy⟩, hb⟩
      have HCy := hid hcy
      clear hcy
      refine hK.out _ _ (bl_on hS hb) (fun hSn => ?_)
      clear hK K hS
      have hS := hSn
      clear hSn
      try simp only [Act.put, List.setIfInBounds_toArray, List.set_cons_zero, List.set_cons_succ, List.getElem_toArray, List.getElem_cons_succ, List.getElem_cons_zero]
      clear hb
      refine wpAnyH_take (i := 4) (v := ?_) rfl (by kernel_rfl) (by kernel_rfl) (by kernel_rfl) (fun _ _ _ h => h) (Or.inl ⟨by rfl, ?_⟩) hS ?_
      rotate_left
      · intro wz hz; go_simp; try with_reducible rfl
      try simp only [Act.put, List.setIfInBounds_toArray, List.set_cons_zero, List.set_cons_succ, List.getElem_toArray, List.getElem_cons_succ, List.getElem_cons_zero]
      refine wpAnyH_take (i := 5) (v := ?_) rfl (by kernel_rfl) (by kernel_rfl) (by kernel_rfl) (fun _ _ _ h => h) (Or.inl ⟨by rfl, ?_⟩) hS ?_
      rotate_left
      · intro wz hz; go_simp; try with_reducible rfl
      try simp only [Act.put, List.setIfInBounds_toArray, List.set_cons_zero, List.set_cons_succ, List.getElem_toArray, List.getElem_cons_succ, List.getElem_cons_zero]
      refine wpAnyH_done (by kernel_rfl) ?_ _
  all_goals (
    clear FA FB
    generalize wc2 = wr at hS ⊢
    by_cases hnm : n = m
    · have g1 : (n == m) = true := by simp [hnm]
      clear hnm
      go_wp2_with (go_at_call 5; refine (AQ.out _ hS).mono ?_; rintro e w5 ⟨rfl, b5⟩; clear AQ)
      go_ret
      exact ⟨rfl, bl_tr BW.out (bl_tr hS b5)⟩
    · have g1 : (n == m) = false := by simp [hnm]
      by_cases hx0 : lx = 0
      · by_cases hy0 : ly = 0
        · have ca := HCx.out hx0
          have cb := HCy.out hy0
          have hnm : n ≠ m := hnm
          subst hx0 hy0
          go_wp2_with fail
          refine wp_region_held_drew (S := fun wz => Below W.heap.size W wz) (by kernel_rfl) (hS.drew) (fun hS => ?_)
          generalize wr.drew = wc0 at hS   ⊢
          refine wpAnyH_take (i := 0) (v := ?_) rfl (by kernel_rfl) (by kernel_rfl) (by kernel_rfl) (fun _ _ _ h => h) (Or.inl ⟨by rfl, ?_⟩) hS ?_
          rotate_left
          · intro wz hz; have yy0 := C0.out wz hz; have yy1 := C1.out wz hz; have yy2 := C2.out wz hz; go_simp; try with_reducible rfl
          try simp only [Act.put, List.setIfInBounds_toArray, List.set_cons_zero, List.set_cons_succ, List.getElem_toArray, List.getElem_cons_succ, List.getElem_cons_zero]
          refine wpAnyH_take (i := 1) (v := ?_) rfl (by kernel_rfl) (by kernel_rfl) (by kernel_rfl) (fun _ _ _ h => h) (Or.inl ⟨by rfl, ?_⟩) hS ?_
          rotate_left
          · intro wz hz; go_simp; try with_reducible rfl
          try simp only [Act.put, List.setIfInBounds_toArray, List.set_cons_zero, List.set_cons_succ, List.getElem_toArray, List.getElem_cons_succ, List.getElem_cons_zero]
          refine wpAnyH_take (i := 2) (v := ?_) rfl (by kernel_rfl) (by kernel_rfl) (by kernel_rfl) (fun _ _ _ h => h) (Or.inl ⟨by rfl, ?_⟩) hS ?_
          rotate_left
          · intro wz hz; have yy0 := C0.out wz hz; have yy1 := C1.out wz hz; have yy2 := C2.out wz hz; go_simp; try with_reducible rfl
          try simp only [Act.put, List.setIfInBounds_toArray, List.set_cons_zero, List.set_cons_succ, List.getElem_toArray, List.getElem_cons_succ, List.getElem_cons_zero]
          refine wpAnyH_take (i := 4) (v := ?_) rfl (by kernel_rfl) (by kernel_rfl) (by kernel_rfl) (fun _ _ _ h => h) (Or.inl ⟨by rfl, ?_⟩) hS ?_
          rotate_left
          · intro wz hz; go_simp; try with_reducible rfl
          try simp only [Act.put, List.setIfInBounds_toArray, List.set_cons_zero, List.set_cons_succ, List.getElem_toArray, List.getElem_cons_succ, List.getElem_cons_zero]
          refine wpAnyH_take (i := 5) (v := ?_) rfl (by kernel_rfl) (by kernel_rfl) (by kernel_rfl) (fun _ _ _ h => h) (Or.inl ⟨by rfl, ?_⟩) hS ?_
          rotate_left
          · intro wz hz; have yy0 := C0.out wz hz; have yy1 := C1.out wz hz; have yy2 := C2.out wz hz; go_simp; try with_reducible rfl
          try simp only [Act.put, List.setIfInBounds_toArray, List.set_cons_zero, List.set_cons_succ, List.getElem_toArray, List.getElem_cons_succ, List.getElem_cons_zero]
          refine wpAnyH_take (i := 7) (v := ?_) rfl (by kernel_rfl) (by kernel_rfl) (by kernel_rfl) (fun _ _ _ h => h) (Or.inl ⟨by rfl, ?_⟩) hS ?_
          rotate_left
          · intro wz hz; have yy0 := C0.out wz hz; have yy1 := C1.out wz hz; have yy2 := C2.out wz hz; go_simp; try with_reducible rfl
          try simp only [Act.put, List.setIfInBounds_toArray, List.set_cons_zero, List.set_cons_succ, List.getElem_toArray, List.getElem_cons_succ, List.getElem_cons_zero]
          refine wpAnyH_take (i := 8) (v := ?_) rfl (by kernel_rfl) (by kernel_rfl) (by kernel_rfl) (fun _ _ _ h => h) (Or.inl ⟨by rfl, ?_⟩) hS ?_
          rotate_left
          · intro wz hz; go_simp; try with_reducible rfl
          try simp only [Act.put, List.setIfInBounds_toArray, List.set_cons_zero, List.set_cons_succ, List.getElem_toArray, List.getElem_cons_succ, List.getElem_cons_zero]
          refine wpAnyH_take (i := 9) (v := ?_) rfl (by kernel_rfl) (by kernel_rfl) (by kernel_rfl) (fun _ _ _ h => h) (Or.inl ⟨by rfl, ?_⟩) hS ?_
          rotate_left
          · intro wz hz; have yy0 := C0.out wz hz; have yy1 := C1.out wz hz; have yy2 := C2.out wz hz; go_simp; try with_reducible rfl
          try simp only [Act.put, List.setIfInBounds_toArray, List.set_cons_zero, List.set_cons_succ, List.getElem_toArray, List.getElem_cons_succ, List.getElem_cons_zero]
          refine wpAnyH_take (i := 11) (v := ?_) rfl (by kernel_rfl) (by kernel_rfl) (by kernel_rfl) (fun _ _ _ h => h) (Or.inl ⟨by rfl, ?_⟩) hS ?_
          rotate_left
          · intro wz hz; go_simp; try with_reducible rfl
          try simp only [Act.put, List.setIfInBounds_toArray, List.set_cons_zero, List.set_cons_succ, List.getElem_toArray, List.getElem_cons_succ, List.getElem_cons_zero]
          refine wpAnyH_take (i := 12) (v := ?_) rfl (by kernel_rfl) (by kernel_rfl) (by kernel_rfl) (fun _ _ _ h => h) (Or.inl ⟨by rfl, ?_⟩) hS ?_
          rotate_left
          · intro wz hz; have yy0 := C0.out wz hz; have yy1 := C1.out wz hz; have yy2 := C2.out wz hz; go_simp; try with_reducible rfl
          try simp only [Act.put, List.setIfInBounds_toArray, List.set_cons_zero, List.set_cons_succ, List.getElem_toArray, List.getElem_cons_succ, List.getElem_cons_zero]
          refine wpAnyH_ready (rs := [3]) (by kernel_rfl) (by simp) (AllReadyH.cons rfl (fun K hK => ?a3_3) AllReadyH.nil)
          case' a3_3 =>
            go_simp
            refine ((PA1.out ca wc0 hS)).mono ?_
            rintro e wc1 ⟨xsTA, rfl, hTA, hb⟩
            have TA := hid hTA
            clear hTA
            refine hK.out _ _ (bl_on hS hb) (fun hSn => ?_)
            clear hK K hS
            have hS := hSn
            clear hSn
            try simp only [Act.put, List.setIfInBounds_toArray, List.set_cons_zero, List.set_cons_succ, List.getElem_toArray, List.getElem_cons_succ, List.getElem_cons_zero]
            clear hb
            refine wpAnyH_ready (rs := [6]) (by kernel_rfl) (by simp) (AllReadyH.cons rfl (fun K hK => ?a4_6) AllReadyH.nil)
            case' a4_6 =>
              go_simp
              refine ((PA2.out cb wc1 _ hS TA.out)).mono ?_
              rintro e wc2 ⟨xsQA, rfl, hQA, hb⟩
              have TA := hid (TA.out.stays hb)
              have QA := hid hQA
              clear hQA
              refine hK.out _ _ (bl_on hS hb) (fun hSn => ?_)
              clear hK K hS
              have hS := hSn
              clear hSn
              try simp only [Act.put, List.setIfInBounds_toArray, List.set_cons_zero, List.set_cons_succ, List.getElem_toArray, List.getElem_cons_succ, List.getElem_cons_zero]
              clear hb
              refine wpAnyH_ready (rs := [10]) (by kernel_rfl) (by simp) (AllReadyH.cons rfl (fun K hK => ?a5_10) AllReadyH.nil)
              case' a5_10 =>
                go_simp
                refine ((PB1.out cb wc2 hS)).mono ?_
                rintro e wc3 ⟨xsTB, rfl, hTB, hb⟩
                have TA := hid (TA.out.stays hb)
                have QA := hid (QA.out.stays hb)
                have TB := hid hTB
                clear hTB
                refine hK.out _ _ (bl_on hS hb) (fun hSn => ?_)
                clear hK K hS
                have hS := hSn
                clear hSn
                try simp only [Act.put, List.setIfInBounds_toArray, List.set_cons_zero, List.set_cons_succ, List.getElem_toArray, List.getElem_cons_succ, List.getElem_cons_zero]
                clear hb
                refine wpAnyH_ready (rs := [13]) (by kernel_rfl) (by simp) (AllReadyH.cons rfl (fun K hK => ?a6_13) AllReadyH.nil)
                case' a6_13 =>
                  go_simp
                  refine ((PB2.out ca wc3 _ hS TB.out)).mono ?_
                  rintro e wc4 ⟨xsQB, rfl, hQB, hb⟩
                  have TA := hid (TA.out.stays hb)
                  have QA := hid (QA.out.stays hb)
                  have TB := hid (TB.out.stays hb)
                  have QB := hid hQB
                  clear hQB
                  refine hK.out _ _ (bl_on hS hb) (fun hSn => ?_)
                  clear hK K hS
                  have hS := hSn
                  clear hSn
                  try simp only [Act.put, List.setIfInBounds_toArray, List.set_cons_zero, List.set_cons_succ, List.getElem_toArray, List.getElem_cons_succ, List.getElem_cons_zero]
                  clear hb
                  refine wpAnyH_ready (rs := [14]) (by kernel_rfl) (by simp) (AllReadyH.cons rfl (fun K hK => ?a7_14) AllReadyH.nil)
                  case' a7_14 =>
                    go_simp
                    refine (SQ.out hnm ca cb wc4 _ _ hS QA.out QB.out).mono ?_
                    rintro e wc5 ⟨rfl, hb⟩
                    refine hK.out _ _ (bl_on hS hb) (fun hSn => ?_)
                    clear hK K hS
                    have hS := hSn
                    clear hSn
                    try simp only [Act.put, List.setIfInBounds_toArray, List.set_cons_zero, List.set_cons_succ, List.getElem_toArray, List.getElem_cons_succ, List.getElem_cons_zero]
                    clear hb
                    refine wpAnyH_take (i := 15) (v := ?_) rfl (by kernel_rfl) (by kernel_rfl) (by kernel_rfl) (fun _ _ _ h => h) (Or.inl ⟨by rfl, ?_⟩) hS ?_
                    rotate_left
                    · intro wz hz; go_simp; try with_reducible rfl
                    try simp only [Act.put, List.setIfInBounds_toArray, List.set_cons_zero, List.set_cons_succ, List.getElem_toArray, List.getElem_cons_succ, List.getElem_cons_zero]
                    refine wpAnyH_ready (rs := [16]) (by kernel_rfl) (by simp) (AllReadyH.cons rfl (fun K hK => ?a8_16) AllReadyH.nil)
                    case' a8_16 =>
                      go_simp
                      refine (AQ.out wc5 hS).mono ?_
                      rintro e wc6 ⟨rfl, hb⟩
                      refine hK.out _ _ (bl_on hS hb) (fun hSn => ?_)
                      clear hK K hS
                      have hS := hSn
                      clear hSn
                      try simp only [Act.put, List.setIfInBounds_toArray, List.set_cons_zero, List.set_cons_succ, List.getElem_toArray, List.getElem_cons_succ, List.getElem_cons_zero]
                      clear hb
                      refine wpAnyH_take (i := 17) (v := ?_) rfl (by kernel_rfl) (by kernel_rfl) (by kernel_rfl) (fun _ _ _ h => h) (Or.inl ⟨by rfl, ?_⟩) hS ?_
                      rotate_left
                      · intro wz hz; go_simp; try with_reducible rfl
                      try simp only [Act.put, List.setIfInBounds_toArray, List.set_cons_zero, List.set_cons_succ, List.getElem_toArray, List.getElem_cons_succ, List.getElem_cons_zero]
                      refine wpAnyH_take (i := 18) (v := ?_) rfl (by kernel_rfl) (by kernel_rfl) (by kernel_rfl) (fun _ _ _ h => h) (Or.inl ⟨by rfl, ?_⟩) hS ?_
                      rotate_left
                      · intro wz hz; go_simp; try with_reducible rfl
                      try simp only [Act.put, List.setIfInBounds_toArray, List.set_cons_zero, List.set_cons_succ, List.getElem_toArray, List.getElem_cons_succ, List.getElem_cons_zero]
                      refine wpAnyH_done (by kernel_rfl) ?_ _
          all_goals (
            go_wp2
            go_ret
            exact ⟨rfl, bl_tr BW.out hS⟩)
        · subst hx0
          have gy : (ly : Int) > 0 := by omega
          clear hnm
          go_wp2_with (go_at_call 5; refine (AQ.out _ hS).mono ?_; rintro e w5 ⟨rfl, b5⟩; clear AQ)
          go_ret
          exact ⟨rfl, bl_tr BW.out (bl_tr hS b5)⟩
      · have gx : (lx : Int) > 0 := by omega
        clear hnm
        go_wp2_with (go_at_call 5; refine (AQ.out _ hS).mono ?_; rintro e w5 ⟨rfl, b5⟩; clear AQ)
        go_ret
        exact ⟨rfl, bl_tr BW.out (bl_tr hS b5)⟩)
end Go.Proofs.YtfeppchgmobfpaaDoor
