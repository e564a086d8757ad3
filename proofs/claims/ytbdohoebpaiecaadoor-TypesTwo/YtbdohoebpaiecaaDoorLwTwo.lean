/- TypesTwo: the walk. -/
import Derived.Test.YtbdohoebpaiecaaDoorTpH
import Derived.Test.YtbdohoebpaiecaaDoorTpE
namespace Go.Proofs.YtbdohoebpaiecaaDoor
open Go.RowKit
set_option linter.unusedVariables false
set_option linter.unusedSimpArgs false

set_option maxHeartbeats 8000000 in
set_option maxRecDepth 100000 in
theorem twoTypes_walk (w : World) (hW : Tab w) (na nb : Nat) (va vb : List Value) (a b : Tp) (ha : TAt w Any na va a) (hb : TAt w Any nb vb b) :
    Calls Tryd.prog 4 #[.agg va.toArray, .agg vb.toArray] w fun e w' => e = .returned (.bool true) ∧ Below w.heap.size w w' := by
  obtain ⟨a2, ca, rfl⟩ := ha.form
  obtain ⟨b2, cb, rfl⟩ := hb.form
  have HA : Hid (TAt w Any na _ a) := ha
  have HB : Hid (TAt w Any nb _ b) := hb
  have HW : Hid (Tab w) := hW
  clear ha hb hW
  go_enter Tryd.func4, Tryd.ntmps4
  go_wp2
  have X : Hid (Arr ((w.alloc (.cells #[.int .i64 a.k, .int .i64 a.n, .slice a2 a.ks.length ca] 24)).alloc (.cells #[.int .i64 b.k, .int .i64 b.n, .slice b2 b.ks.length cb] 24)) w.heap.size 24 [.int .i64 a.k, .int .i64 a.n, .slice a2 a.ks.length ca] ∧ Arr ((w.alloc (.cells #[.int .i64 a.k, .int .i64 a.n, .slice a2 a.ks.length ca] 24)).alloc (.cells #[.int .i64 b.k, .int .i64 b.n, .slice b2 b.ks.length cb] 24)) (w.heap.size + 1) 24 [.int .i64 b.k, .int .i64 b.n, .slice b2 b.ks.length cb] ∧ Below w.heap.size w ((w.alloc (.cells #[.int .i64 a.k, .int .i64 a.n, .slice a2 a.ks.length ca] 24)).alloc (.cells #[.int .i64 b.k, .int .i64 b.n, .slice b2 b.ks.length cb] 24))) := by
    have e0 := heap_alloc_at w (.cells #[.int .i64 a.k, .int .i64 a.n, .slice a2 a.ks.length ca] 24)
    have e1 := heap_alloc_at (w.alloc (.cells #[.int .i64 a.k, .int .i64 a.n, .slice a2 a.ks.length ca] 24)) (.cells #[.int .i64 b.k, .int .i64 b.n, .slice b2 b.ks.length cb] 24)
    rw [size_alloc] at e1
    exact ⟨Arr.stays (⟨e0⟩) (bl_alloc (Below.refl _ _) _), ⟨e1⟩, bl_alloc (bl_alloc (Below.refl _ _) _) _⟩
  generalize ((w.alloc (.cells #[.int .i64 a.k, .int .i64 a.n, .slice a2 a.ks.length ca] 24)).alloc (.cells #[.int .i64 b.k, .int .i64 b.n, .slice b2 b.ks.length cb] 24)) = W1 at X ⊢
  have qa : Hid (∀ wz, Below W1.heap.size W1 wz → TAt wz Any na [.int .i64 a.k, .int .i64 a.n, .slice a2 a.ks.length ca] a) := fun wz hz => (HA.out.below X.out.2.2).below hz
  have qb : Hid (∀ wz, Below W1.heap.size W1 wz → TAt wz Any nb [.int .i64 b.k, .int .i64 b.n, .slice b2 b.ks.length cb] b) := fun wz hz => (HB.out.below X.out.2.2).below hz
  have s1 : Hid (∀ wz, Below W1.heap.size W1 wz → Calls Tryd.prog 27 #[.agg #[.int .i64 a.k, .int .i64 a.n, .slice a2 a.ks.length ca], .agg #[.int .i64 b.k, .int .i64 b.n, .slice b2 b.ks.length cb]] wz fun e w' => e = .returned (.bool (Tp.cmp a b == 0)) ∧ Below wz.heap.size wz w') := fun wz hz => Same_any wz _ _ _ _ _ _ (qa.out wz hz) (qb.out wz hz)
  have s2 : Hid (∀ wz, Below W1.heap.size W1 wz → Calls Tryd.prog 28 #[.agg #[.int .i64 a.k, .int .i64 a.n, .slice a2 a.ks.length ca], .agg #[.int .i64 b.k, .int .i64 b.n, .slice b2 b.ks.length cb]] wz fun e w' => e = .returned (.bool (Tp.cmp a b == 0)) ∧ Below wz.heap.size wz w') := fun wz hz => refSame_any wz _ _ _ _ _ _ (qa.out wz hz) (qb.out wz hz)
  have s3 : Hid (∀ wz, Below W1.heap.size W1 wz → Calls Tryd.prog 29 #[.agg #[.int .i64 a.k, .int .i64 a.n, .slice a2 a.ks.length ca], .agg #[.int .i64 b.k, .int .i64 b.n, .slice b2 b.ks.length cb]] wz fun e w' => e = .returned (.int .i64 (Tp.cmp a b)) ∧ Below wz.heap.size wz w') := fun wz hz => Cmp_any _ wz _ _ _ _ _ (qa.out wz hz) (qb.out wz hz)
  have s4 : Hid (∀ wz, Below W1.heap.size W1 wz → Calls Tryd.prog 30 #[.agg #[.int .i64 a.k, .int .i64 a.n, .slice a2 a.ks.length ca], .agg #[.int .i64 b.k, .int .i64 b.n, .slice b2 b.ks.length cb]] wz fun e w' => e = .returned (.int .i64 (Tp.cmp a b)) ∧ Below wz.heap.size wz w') := fun wz hz => refCmp_any _ wz _ _ _ _ _ (qa.out wz hz) (qb.out wz hz)
  have s7 : Hid (∀ wz, Below W1.heap.size W1 wz → Calls Tryd.prog 26 #[] wz fun e w' => e = .returned (.bool true) ∧ Below wz.heap.size wz w') := fun wz hz => alive_any wz (HW.out.stays (bl_tr X.out.2.2 hz))
  have B1 : Hid (Below w.heap.size w W1) := X.out.2.2
  have hs0 : Hid (W1.drew.cell? ⟨w.heap.size, 0, none⟩ = some (.int .i64 a.k) ∧ W1.drew.cell? ⟨w.heap.size, 1, none⟩ = some (.int .i64 a.n) ∧ W1.drew.cell? ⟨w.heap.size, 2, none⟩ = some (.slice a2 a.ks.length ca) ∧ W1.drew.cell? ⟨w.heap.size + 1, 0, none⟩ = some (.int .i64 b.k) ∧ W1.drew.cell? ⟨w.heap.size + 1, 1, none⟩ = some (.int .i64 b.n) ∧ W1.drew.cell? ⟨w.heap.size + 1, 2, none⟩ = some (.slice b2 b.ks.length cb) ∧ Below W1.heap.size W1 W1.drew) := ⟨X.out.1.cell 0, X.out.1.cell 1, X.out.1.cell 2, X.out.2.1.cell 0, X.out.2.1.cell 1, X.out.2.1.cell 2, (Below.refl _ _).drew⟩
  clear HA HB HW qa qb X
  generalize (Tp.cmp a b == 0) = z at s1 s2
  generalize Tp.cmp a b = y at s3 s4
  have hz : (z == z) = true := by simp
  have hy : (y == y) = true := by simp
  go_region_held (fun w' => w'.cell? ⟨w.heap.size, 0, none⟩ = some (.int .i64 a.k) ∧ w'.cell? ⟨w.heap.size, 1, none⟩ = some (.int .i64 a.n) ∧ w'.cell? ⟨w.heap.size, 2, none⟩ = some (.slice a2 a.ks.length ca) ∧ w'.cell? ⟨w.heap.size + 1, 0, none⟩ = some (.int .i64 b.k) ∧ w'.cell? ⟨w.heap.size + 1, 1, none⟩ = some (.int .i64 b.n) ∧ w'.cell? ⟨w.heap.size + 1, 2, none⟩ = some (.slice b2 b.ks.length cb) ∧ Below W1.heap.size W1 w') (first | exact hs0.out | exact keep6 (by assumption) (by assumption)) (first | (go_at_call 27; refine (s1.out _ (belo6 (by assumption))).mono ?_; rintro e wa ⟨rfl, ba⟩) | (go_at_call 28; refine (s2.out _ (belo6 (by assumption))).mono ?_; rintro e wb ⟨rfl, bb⟩) | (go_at_call 29; refine (s3.out _ (belo6 (by assumption))).mono ?_; rintro e wc ⟨rfl, bc⟩) | (go_at_call 30; refine (s4.out _ (belo6 (by assumption))).mono ?_; rintro e wd ⟨rfl, bd⟩) | (go_at_call 26; refine (s7.out _ (belo6 (by assumption))).mono ?_; rintro e we ⟨rfl, be⟩))
  all_goals go_wp2
  all_goals go_ret
  all_goals exact ⟨rfl, bl_tr B1.out (belo6 (by assumption))⟩
end Go.Proofs.YtbdohoebpaiecaaDoor
