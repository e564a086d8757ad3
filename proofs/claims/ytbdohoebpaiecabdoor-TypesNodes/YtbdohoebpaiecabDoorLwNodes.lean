/- TypesNodes: the walk. -/
import Derived.Test.YtbdohoebpaiecabDoorTpH
namespace Go.Proofs.YtbdohoebpaiecabDoor
open Go.RowKit
set_option linter.unusedVariables false
set_option linter.unusedSimpArgs false

set_option maxHeartbeats 8000000 in
set_option maxRecDepth 100000 in
theorem nodes_walk (w : World) (hW : Tab w) (na nb : Nat) (va vb : List Value) (a b : Tp) (ha : TAt w Any na va a) (hb : TAt w Any nb vb b) (n : Int) (hn : R64 n) :
    Calls Tryd.prog 5 #[.agg va.toArray, .agg vb.toArray, .int .i64 n] w fun e w' => e = .returned (.bool true) ∧ Below w.heap.size w w' := by
  obtain ⟨a2, ca, rfl⟩ := ha.form
  obtain ⟨b2, cb, rfl⟩ := hb.form
  have HA : Hid (TAt w Any na _ a) := ha
  have HB : Hid (TAt w Any nb _ b) := hb
  have HW : Hid (Tab w) := hW
  clear ha hb hW
  go_enter Tryd.func5, Tryd.ntmps5
  go_wp2_with fail
  have X : Hid (Arr ((((w.alloc (.cells #[.int .i64 a.k, .int .i64 a.n, .slice a2 a.ks.length ca] 24)).alloc (.cells #[.int .i64 b.k, .int .i64 b.n, .slice b2 b.ks.length cb] 24)).alloc (.cells #[.int .i64 a.k, .int .i64 a.n, .slice a2 a.ks.length ca, .int .i64 b.k, .int .i64 b.n, .slice b2 b.ks.length cb] 24)).alloc (.cells #[.int .i64 n, .int .i64 0, .slice (some ⟨w.heap.size + 1 + 1, 0, none⟩) 2 2] 24)) w.heap.size 24 [.int .i64 a.k, .int .i64 a.n, .slice a2 a.ks.length ca] ∧ Arr ((((w.alloc (.cells #[.int .i64 a.k, .int .i64 a.n, .slice a2 a.ks.length ca] 24)).alloc (.cells #[.int .i64 b.k, .int .i64 b.n, .slice b2 b.ks.length cb] 24)).alloc (.cells #[.int .i64 a.k, .int .i64 a.n, .slice a2 a.ks.length ca, .int .i64 b.k, .int .i64 b.n, .slice b2 b.ks.length cb] 24)).alloc (.cells #[.int .i64 n, .int .i64 0, .slice (some ⟨w.heap.size + 1 + 1, 0, none⟩) 2 2] 24)) (w.heap.size + 1) 24 [.int .i64 b.k, .int .i64 b.n, .slice b2 b.ks.length cb] ∧ Arr ((((w.alloc (.cells #[.int .i64 a.k, .int .i64 a.n, .slice a2 a.ks.length ca] 24)).alloc (.cells #[.int .i64 b.k, .int .i64 b.n, .slice b2 b.ks.length cb] 24)).alloc (.cells #[.int .i64 a.k, .int .i64 a.n, .slice a2 a.ks.length ca, .int .i64 b.k, .int .i64 b.n, .slice b2 b.ks.length cb] 24)).alloc (.cells #[.int .i64 n, .int .i64 0, .slice (some ⟨w.heap.size + 1 + 1, 0, none⟩) 2 2] 24)) (w.heap.size + 1 + 1 + 1) 24 [.int .i64 n, .int .i64 0, .slice (some ⟨w.heap.size + 1 + 1, 0, none⟩) 2 2] ∧ Below w.heap.size w ((((w.alloc (.cells #[.int .i64 a.k, .int .i64 a.n, .slice a2 a.ks.length ca] 24)).alloc (.cells #[.int .i64 b.k, .int .i64 b.n, .slice b2 b.ks.length cb] 24)).alloc (.cells #[.int .i64 a.k, .int .i64 a.n, .slice a2 a.ks.length ca, .int .i64 b.k, .int .i64 b.n, .slice b2 b.ks.length cb] 24)).alloc (.cells #[.int .i64 n, .int .i64 0, .slice (some ⟨w.heap.size + 1 + 1, 0, none⟩) 2 2] 24)) ∧ TAt ((((w.alloc (.cells #[.int .i64 a.k, .int .i64 a.n, .slice a2 a.ks.length ca] 24)).alloc (.cells #[.int .i64 b.k, .int .i64 b.n, .slice b2 b.ks.length cb] 24)).alloc (.cells #[.int .i64 a.k, .int .i64 a.n, .slice a2 a.ks.length ca, .int .i64 b.k, .int .i64 b.n, .slice b2 b.ks.length cb] 24)).alloc (.cells #[.int .i64 n, .int .i64 0, .slice (some ⟨w.heap.size + 1 + 1, 0, none⟩) 2 2] 24)) Any (max na nb + 1) [.int .i64 n, .int .i64 0, .slice (some ⟨w.heap.size + 1 + 1, 0, none⟩) 2 2] (.mk n 0 [a, b])) := by
    have hb2 : Below w.heap.size w (((w.alloc (.cells #[.int .i64 a.k, .int .i64 a.n, .slice a2 a.ks.length ca] 24)).alloc (.cells #[.int .i64 b.k, .int .i64 b.n, .slice b2 b.ks.length cb] 24))) := bl_alloc (bl_alloc (Below.refl _ _) _) _
    have e0 := heap_alloc_at w (.cells #[.int .i64 a.k, .int .i64 a.n, .slice a2 a.ks.length ca] 24)
    have e1 := heap_alloc_at (w.alloc (.cells #[.int .i64 a.k, .int .i64 a.n, .slice a2 a.ks.length ca] 24)) (.cells #[.int .i64 b.k, .int .i64 b.n, .slice b2 b.ks.length cb] 24)
    have e2 := heap_alloc_at ((((w.alloc (.cells #[.int .i64 a.k, .int .i64 a.n, .slice a2 a.ks.length ca] 24)).alloc (.cells #[.int .i64 b.k, .int .i64 b.n, .slice b2 b.ks.length cb] 24)).alloc (.cells #[.int .i64 a.k, .int .i64 a.n, .slice a2 a.ks.length ca, .int .i64 b.k, .int .i64 b.n, .slice b2 b.ks.length cb] 24))) (.cells #[.int .i64 n, .int .i64 0, .slice (some ⟨w.heap.size + 1 + 1, 0, none⟩) 2 2] 24)
    rw [size_alloc] at e1
    rw [size_alloc, size_alloc, size_alloc] at e2
    have hp := TAtL.pair (w := ((w.alloc (.cells #[.int .i64 a.k, .int .i64 a.n, .slice a2 a.ks.length ca] 24)).alloc (.cells #[.int .i64 b.k, .int .i64 b.n, .slice b2 b.ks.length cb] 24))) (HA.out.below hb2) (HB.out.below hb2) 24 trivial
    rw [size_alloc, size_alloc] at hp
    exact ⟨((Arr.stays (⟨e0⟩) (bl_alloc (Below.refl _ _) _)).stays (bl_alloc (Below.refl _ _) _)).stays (bl_alloc (Below.refl _ _) _), ((Arr.stays (⟨e1⟩) (bl_alloc (Below.refl _ _) _)).stays (bl_alloc (Below.refl _ _) _)), ⟨e2⟩, bl_alloc (bl_alloc hb2 _) _, ⟨_, rfl, hn, (show R64 0 from ⟨by decide, by decide⟩), TAtL.below hp (bl_alloc (Below.refl _ _) _)⟩⟩
  generalize ((((w.alloc (.cells #[.int .i64 a.k, .int .i64 a.n, .slice a2 a.ks.length ca] 24)).alloc (.cells #[.int .i64 b.k, .int .i64 b.n, .slice b2 b.ks.length cb] 24)).alloc (.cells #[.int .i64 a.k, .int .i64 a.n, .slice a2 a.ks.length ca, .int .i64 b.k, .int .i64 b.n, .slice b2 b.ks.length cb] 24)).alloc (.cells #[.int .i64 n, .int .i64 0, .slice (some ⟨w.heap.size + 1 + 1, 0, none⟩) 2 2] 24)) = W1 at X ⊢
  have qa : Hid (∀ wz, Below W1.heap.size W1 wz → TAt wz Any na [.int .i64 a.k, .int .i64 a.n, .slice a2 a.ks.length ca] a) := fun wz hz => (HA.out.below X.out.2.2.2.1).below hz
  have qb : Hid (∀ wz, Below W1.heap.size W1 wz → TAt wz Any nb [.int .i64 b.k, .int .i64 b.n, .slice b2 b.ks.length cb] b) := fun wz hz => (HB.out.below X.out.2.2.2.1).below hz
  have s1 : Hid (Calls Tryd.prog 13 #[.agg #[.int .i64 n, .int .i64 0, .slice (some ⟨w.heap.size + 1 + 1, 0, none⟩) 2 2]] W1 fun e w' => e = .returned (.int .i64 (Tp.upto (Tp.mk n 0 [a, b]).cnt).1) ∧ Below W1.heap.size W1 w') := Size_any W1 _ _ _ X.out.2.2.2.2
  have s2 : Hid (∀ wz, Below W1.heap.size W1 wz → Calls Tryd.prog 14 #[.agg #[.int .i64 n, .int .i64 0, .slice (some ⟨w.heap.size + 1 + 1, 0, none⟩) 2 2]] wz fun e w' => e = .returned (.bool (Tp.upto (Tp.mk n 0 [a, b]).cnt).2) ∧ Below wz.heap.size wz w') := fun wz hz => Fits_any wz _ _ _ (X.out.2.2.2.2.below hz)
  have s3 : Hid (∀ wz, Below W1.heap.size W1 wz → Calls Tryd.prog 13 #[.agg #[.int .i64 a.k, .int .i64 a.n, .slice a2 a.ks.length ca]] wz fun e w' => e = .returned (.int .i64 (Tp.upto a.cnt).1) ∧ Below wz.heap.size wz w') := fun wz hz => Size_any wz _ _ _ (qa.out wz hz)
  have s4 : Hid (∀ wz, Below W1.heap.size W1 wz → Calls Tryd.prog 13 #[.agg #[.int .i64 b.k, .int .i64 b.n, .slice b2 b.ks.length cb]] wz fun e w' => e = .returned (.int .i64 (Tp.upto b.cnt).1) ∧ Below wz.heap.size wz w') := fun wz hz => Size_any wz _ _ _ (qb.out wz hz)
  have s5 : Hid (∀ wz, Below W1.heap.size W1 wz → Calls Tryd.prog 14 #[.agg #[.int .i64 a.k, .int .i64 a.n, .slice a2 a.ks.length ca]] wz fun e w' => e = .returned (.bool (Tp.upto a.cnt).2) ∧ Below wz.heap.size wz w') := fun wz hz => Fits_any wz _ _ _ (qa.out wz hz)
  have s6 : Hid (∀ wz, Below W1.heap.size W1 wz → Calls Tryd.prog 14 #[.agg #[.int .i64 b.k, .int .i64 b.n, .slice b2 b.ks.length cb]] wz fun e w' => e = .returned (.bool (Tp.upto b.cnt).2) ∧ Below wz.heap.size wz w') := fun wz hz => Fits_any wz _ _ _ (qb.out wz hz)
  have s7 : Hid (∀ wz, Below W1.heap.size W1 wz → Calls Tryd.prog 8 #[] wz fun e w' => e = .returned (.bool true) ∧ Below wz.heap.size wz w') := fun wz hz => alive_any wz (HW.out.stays (bl_tr X.out.2.2.2.1 hz))
  have B1 : Hid (Below w.heap.size w W1) := X.out.2.2.2.1
  have hcn : (Tp.mk n 0 [a, b]).cnt = a.cnt + b.cnt + 1 := by rw [Tp.cnt, Tp.cntL, Tp.cntL, Tp.cntL]; rfl
  rw [hcn] at s1 s2
  clear HA HB HW qa qb hcn
  generalize a.cnt = A at s3 s5 s1 s2
  generalize b.cnt = B at s4 s6 s1 s2
  have st : ∀ wz, Below W1.heap.size W1 wz → wz.cell? ⟨w.heap.size, 0, none⟩ = some (.int .i64 a.k) ∧ wz.cell? ⟨w.heap.size, 1, none⟩ = some (.int .i64 a.n) ∧ wz.cell? ⟨w.heap.size, 2, none⟩ = some (.slice a2 a.ks.length ca) ∧ wz.cell? ⟨w.heap.size + 1, 0, none⟩ = some (.int .i64 b.k) ∧ wz.cell? ⟨w.heap.size + 1, 1, none⟩ = some (.int .i64 b.n) ∧ wz.cell? ⟨w.heap.size + 1, 2, none⟩ = some (.slice b2 b.ks.length cb) ∧ Below W1.heap.size W1 wz := fun wz hz => ⟨(X.out.1.stays hz).cell 0, (X.out.1.stays hz).cell 1, (X.out.1.stays hz).cell 2, (X.out.2.1.stays hz).cell 0, (X.out.2.1.stays hz).cell 1, (X.out.2.1.stays hz).cell 2, hz⟩
  have ST : Hid _ := st
  clear st
  have bx : Hid (∀ wz, Below W1.heap.size W1 wz → ∀ j, wz.cell? ⟨w.heap.size + 1 + 1 + 1, j, none⟩ = [.int .i64 n, .int .i64 0, .slice (some ⟨w.heap.size + 1 + 1, 0, none⟩) 2 2][j]?) := fun wz hz => (X.out.2.2.1.stays hz).cell
  clear X
  have m0 := True.intro
  by_cases hf : A + B + 1 ≤ 1000
  · have e1 : Tp.upto ((A + B + 1 : Nat) : Int) = (((A + B + 1 : Nat) : Int), true) := by unfold Tp.upto; rw [if_pos (by omega)]
    have e2 : Tp.upto (A : Int) = ((A : Int), true) := by unfold Tp.upto; rw [if_pos (by omega)]
    have e3 : Tp.upto (B : Int) = ((B : Int), true) := by unfold Tp.upto; rw [if_pos (by omega)]
    rw [e1] at s1 s2
    rw [e2] at s3 s5
    rw [e3] at s4 s6
    have hA : (A : Int) ≤ 1000 := by omega
    have hB : (B : Int) ≤ 1000 := by omega
    have hs : (((A + B + 1 : Nat) : Int) == 1 + (A : Int) + (B : Int)) = true := by rw [beq_iff_eq]; omega
    have hs' : ((A : Int) + (B : Int) + 1 == 1 + (A : Int) + (B : Int)) = true := by rw [beq_iff_eq]; omega
    have hw1 : IntKind.i64.wrap (1 + (A : Int)) = 1 + (A : Int) := by rw [IntKind.wrap_i64]; omega
    have hw2 : IntKind.i64.wrap (1 + (A : Int) + (B : Int)) = 1 + (A : Int) + (B : Int) := by rw [IntKind.wrap_i64]; omega
    clear e1 e2 e3 hf
    refine (s1.out).mono ?_
    rintro e w2 ⟨rfl, b2'⟩
    have c2 := bx.out _ b2'
    have D2 : Hid (Below W1.heap.size W1 w2) := b2'
    clear b2'
    go_wp2_with (first | (go_at_call 14; have := m0; refine (s2.out _ D2.out).mono ?_; rintro e w3 ⟨rfl, b3⟩; have D3 : Hid (Below W1.heap.size W1 w3) := bl_tr D2.out b3; clear b3 m0))
    have hs0 : Hid _ := ST.out _ (bl_dr D3.out)
    go_region_held (fun w' => w'.cell? ⟨w.heap.size, 0, none⟩ = some (.int .i64 a.k) ∧ w'.cell? ⟨w.heap.size, 1, none⟩ = some (.int .i64 a.n) ∧ w'.cell? ⟨w.heap.size, 2, none⟩ = some (.slice a2 a.ks.length ca) ∧ w'.cell? ⟨w.heap.size + 1, 0, none⟩ = some (.int .i64 b.k) ∧ w'.cell? ⟨w.heap.size + 1, 1, none⟩ = some (.int .i64 b.n) ∧ w'.cell? ⟨w.heap.size + 1, 2, none⟩ = some (.slice b2 b.ks.length cb) ∧ Below W1.heap.size W1 w') (first | exact hs0.out | exact keep6 (by assumption) (by assumption)) (first | (go_at_call 13; refine (s3.out _ (belo6 (by assumption))).mono ?_; rintro e wa ⟨rfl, ba⟩; clear s3) | (go_at_call 13; refine (s4.out _ (belo6 (by assumption))).mono ?_; rintro e wb ⟨rfl, bb⟩; clear s4) | (go_at_call 14; refine (s5.out _ (belo6 (by assumption))).mono ?_; rintro e wc ⟨rfl, bc⟩; clear s5) | (go_at_call 14; refine (s6.out _ (belo6 (by assumption))).mono ?_; rintro e wd ⟨rfl, bd⟩; clear s6) | (go_at_call 8; refine (s7.out _ (belo6 (by assumption))).mono ?_; rintro e we ⟨rfl, be⟩))
    all_goals go_wp2
    all_goals go_ret
    all_goals exact ⟨rfl, bl_tr B1.out (belo6 (by assumption))⟩
  · have e1 : Tp.upto ((A + B + 1 : Nat) : Int) = (1001, false) := by unfold Tp.upto; rw [if_neg (by omega)]
    rw [e1] at s1 s2
    obtain ⟨x, hx, hx0, hx1⟩ : ∃ x : Int, (Tp.upto (A : Int)).1 = x ∧ 0 ≤ x ∧ x ≤ 1001 := ⟨_, rfl, by unfold Tp.upto; split <;> simp <;> omega, by unfold Tp.upto; split <;> simp <;> omega⟩
    obtain ⟨y, hy, hy0, hy1⟩ : ∃ y : Int, (Tp.upto (B : Int)).1 = y ∧ 0 ≤ y ∧ y ≤ 1001 := ⟨_, rfl, by unfold Tp.upto; split <;> simp <;> omega, by unfold Tp.upto; split <;> simp <;> omega⟩
    have hxy : decide (1000 < 1 + x + y) = true := decide_eq_true (by rw [← hx, ← hy]; unfold Tp.upto; split <;> split <;> simp <;> omega)
    rw [hx] at s3
    rw [hy] at s4
    have hw1 : IntKind.i64.wrap (1 + x) = 1 + x := by rw [IntKind.wrap_i64]; omega
    have hw2 : IntKind.i64.wrap (1 + x + y) = 1 + x + y := by rw [IntKind.wrap_i64]; omega
    clear e1 hf hx hy s5 s6
    refine (s1.out).mono ?_
    rintro e w2 ⟨rfl, b2'⟩
    have c2 := bx.out _ b2'
    have D2 : Hid (Below W1.heap.size W1 w2) := b2'
    clear b2'
    go_wp2_with (first | (go_at_call 14; have := m0; refine (s2.out _ D2.out).mono ?_; rintro e w3 ⟨rfl, b3⟩; have D3 : Hid (Below W1.heap.size W1 w3) := bl_tr D2.out b3; clear b3 m0))
    have hs0 : Hid _ := ST.out _ (bl_dr D3.out)
    go_region_held (fun w' => w'.cell? ⟨w.heap.size, 0, none⟩ = some (.int .i64 a.k) ∧ w'.cell? ⟨w.heap.size, 1, none⟩ = some (.int .i64 a.n) ∧ w'.cell? ⟨w.heap.size, 2, none⟩ = some (.slice a2 a.ks.length ca) ∧ w'.cell? ⟨w.heap.size + 1, 0, none⟩ = some (.int .i64 b.k) ∧ w'.cell? ⟨w.heap.size + 1, 1, none⟩ = some (.int .i64 b.n) ∧ w'.cell? ⟨w.heap.size + 1, 2, none⟩ = some (.slice b2 b.ks.length cb) ∧ Below W1.heap.size W1 w') (first | exact hs0.out | exact keep6 (by assumption) (by assumption)) (first | (go_at_call 13; refine (s3.out _ (belo6 (by assumption))).mono ?_; rintro e wa ⟨rfl, ba⟩; clear s3) | (go_at_call 13; refine (s4.out _ (belo6 (by assumption))).mono ?_; rintro e wb ⟨rfl, bb⟩; clear s4) | (go_at_call 8; refine (s7.out _ (belo6 (by assumption))).mono ?_; rintro e we ⟨rfl, be⟩))
    all_goals go_wp2
    all_goals go_ret
    all_goals exact ⟨rfl, bl_tr B1.out (belo6 (by assumption))⟩
end Go.Proofs.YtbdohoebpaiecabDoor
