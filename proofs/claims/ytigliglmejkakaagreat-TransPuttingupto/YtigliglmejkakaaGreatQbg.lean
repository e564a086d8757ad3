/- stands, renumbered. -/
import Derived.Test.YtigliglmejkakaaGreatQbd
namespace Go.Proofs.YtigliglmejkakaaGreat.Tgt
open Go.RowKit
set_option linter.unusedVariables false
set_option linter.unusedSimpArgs false

theorem drewN_add (w : World) (a b : Nat) : (w.drewN a).drewN b = w.drewN (a + b) := by simp
/-- Is it one in whose place the other one is put? -/
def Tt.stands (t : Tt) (num : Int) (e : List (Int × Int)) : Bool := decide (t.k = 6) && (decide (t.n = num) && !(lk e t.n).isSome)

set_option maxHeartbeats 1000000 in
set_option maxRecDepth 100000 in
theorem stands_any (N M : Nat) (num : Int) (u : Tt) (C : Int → Bool) (l : List Int) (w : World) (own : Nat → Prop) (e : List (Int × Int)) (nx : Int) (n : Nat) (K : Nat → Prop) (k b o : Nat) (t : Tt) (h : Pt N M num u C l w own e nx n) (hP : PAt w K k b o t) :
    Calls Tryz.prog 71 #[.pointer (some ⟨M, 0, none⟩), .pointer (some ⟨b, o, none⟩)] w fun r w' => r = .returned (.bool (t.stands num e)) ∧ ∃ m, w' = w.drewN m := by
  have hlt := hP.lt
  obtain ⟨kk, rfl⟩ := hP.pos
  obtain ⟨-, -, -, -, e0, e1, -, -, hk, hN, -, -⟩ := hP.cells
  obtain ⟨Cc, Ct, c6, -⟩ := h.cells
  have HS : Hid (t.stands num e = (decide (t.k = 6) && (decide (t.n = num) && !(lk e t.n).isSome))) := rfl
  have H0 := hid h
  have HN := hid hN
  have HY : Hid (∀ m, (w.drewN m).cell? ⟨b, o + 1, none⟩ = some (.int .i64 t.n)) := fun m => ((bl_drewN w m).cell (p := ⟨b, o + 1, none⟩) hlt).trans e1
  generalize t.stands num e = res at HS ⊢
  clear h hP hk hN
  by_cases h6 : t.k = 6
  · have g6 : (t.k != 6) = false := by simp [h6]
    by_cases hn : t.n = num
    · subst hn
      have gn : (t.n != t.n) = false := by simp
      have HR : Hid (res = !(lk e t.n).isSome) := by show _ = _; rw [HS.out, h6]; simp
      clear HS h6
      go_enter Tryz.func71, Tryz.ntmps71
      go_wp2_with fail
      go_quiet (fail)
      go_wp2_with fail
      have P1 := hid (H0.out.stays (bl_drewN w nq))
      have y1 := HY.out nq
      have HA : Hid (∀ m, (w.drewN nq).drewN m = w.drewN (nq + m)) := fun m => drewN_add w nq m
      clear HY e0 e1 c6 H0
      generalize w.drewN nq = W1 at P1 y1 HA ⊢
      have FQ : Hid (∀ m, Calls Tryz.prog 98 #[.pointer (some ⟨M, 2, none⟩), .int .i64 t.n] (W1.drewN m) fun r w' => r = .returned (.tuple #[.int .i64 ((lk e t.n).getD 0), .bool (lk e t.n).isSome]) ∧ w' = W1.drewN m) := fun m => findP N M t.n u C l _ own e nx n t.n HN.out (P1.out.stays (bl_drewN _ _))
      generalize (lk e t.n).isSome = bs at FQ HR
      generalize (lk e t.n).getD 0 = as_ at FQ
      go_quiet (first | (go_at_call 98; refine Calls.quiet_of_same (FQ.out _)))
      go_wp2
      go_ret
      exact ⟨ret_bool HR.out.symm, _, HA.out _⟩
    · have gn : (t.n != num) = true := by simp [hn]
      have HR : Hid (res = false) := by show _ = _; rw [HS.out]; simp [hn]
      clear HS h6 hn HY
      go_enter Tryz.func71, Tryz.ntmps71
      go_wp2_with fail
      go_quiet (fail)
      go_wp2
      go_ret
      exact ⟨ret_bool HR.out.symm, _, rfl⟩
  · have g6 : (t.k != 6) = true := by simp [h6]
    have HR : Hid (res = false) := by show _ = _; rw [HS.out]; simp [h6]
    clear HS h6 HY
    go_enter Tryz.func71, Tryz.ntmps71
    go_wp2_with fail
    go_quiet (fail)
    go_wp2
    go_ret
    exact ⟨ret_bool HR.out.symm, _, rfl⟩

set_option maxHeartbeats 1000000 in
set_option maxRecDepth 100000 in
theorem renumbered_any (N M : Nat) (num : Int) (u : Tt) (C : Int → Bool) (l : List Int) (w : World) (own : Nat → Prop) (e : List (Int × Int)) (nx : Int) (n : Nat) (I : Nat → Prop) (k b o : Nat) (t : Tt) (h : Pt N M num u C l w own e nx n) (hI : ∀ b, I b → b < w.heap.size ∧ ¬ own b) (hP : PAt w I k b o t) (q1 : e.length ≤ 2097152) (q2 : n + 1 ≤ 2305843009213693952) (q3 : nx + from_ l nx ≤ 4611686018427387904) :
    Calls Tryz.prog 73 #[.pointer (some ⟨M, 0, none⟩), .pointer (some ⟨b, o, none⟩)] w fun r w' => r = .returned (.int .i64 (t.own3 C l e nx).1) ∧ R64 (t.own3 C l e nx).1 ∧ (∃ own', Pt N M num u C l w' own' (t.own3 C l e nx).2.1 (t.own3 C l e nx).2.2 (n + 1) ∧ Ev own w own' w') ∧ (t.own3 C l e nx).2.2 + from_ l (t.own3 C l e nx).2.2 ≤ nx + from_ l nx + 1 := by
  have hlt := hP.lt
  have hno := (hI b hP.1).2
  have BQ := hid (binds_any w I k b o t hP)
  obtain ⟨kk, rfl⟩ := hP.pos
  obtain ⟨-, -, -, -, e0, e1, -, -, hk, hN, -, -⟩ := hP.cells
  have HN := hid hN
  have H0 := hid h
  have HX : Hid (∀ wz own', Ev own w own' wz → wz.cell? ⟨b, o + 1, none⟩ = some (.int .i64 t.n)) := fun wz own' hz => (hz.cell (p := ⟨b, o + 1, none⟩) hlt hno).trans e1
  have HQ := hid (And.intro q1 (And.intro q2 q3))
  have hO : t.own3 C l e nx = if t.k = 6 then ((lk e t.n).getD t.n, e, nx) else if t.binds then ((give C l nx t.n).1, (t.n, (give C l nx t.n).1) :: e, (give C l nx t.n).2) else (t.n, e, nx) := rfl
  generalize t.own3 C l e nx = R at hO ⊢
  clear hP hk hN h q1 q2 q3 hI
  by_cases h6 : t.k = 6
  · have g6 : (t.k == 6) = true := by simp [h6]
    rw [if_pos h6] at hO
    have FQ : Hid (∀ m, Calls Tryz.prog 98 #[.pointer (some ⟨M, 2, none⟩), .int .i64 t.n] (w.drewN m) fun r w' => r = .returned (.tuple #[.int .i64 ((lk e t.n).getD 0), .bool (lk e t.n).isSome]) ∧ w' = w.drewN m) := fun m => findP N M num u C l _ own e nx n t.n HN.out (H0.out.stays (bl_drewN _ _))
    have FIN : Hid (∀ m, ∃ own', Pt N M num u C l (w.drewN m) own' e nx (n + 1) ∧ Ev own w own' (w.drewN m)) := fun m => ⟨own, (H0.out.stays (bl_drewN w m)).up (Nat.le_succ _), Ev.of_below (bl_drewN w m)⟩
    have HE : Hid (∀ m, (w.drewN m).cell? ⟨b, o + 1, none⟩ = some (.int .i64 t.n)) := fun m => HX.out _ _ (Ev.of_below (bl_drewN w m))
    cases hlk : lk e t.n with
    | some a =>
      rw [hlk] at FQ hO
      have ha : R64 a := (H0.out.good _ (lk_mem hlk)).2
      have HO : Hid (R = (a, e, nx)) := hO
      clear hO hlk BQ h6 HX HE
      go_enter Tryz.func73, Tryz.ntmps73
      go_wp2_with fail
      go_quiet (first | (go_at_call 98; refine Calls.quiet_of_same (FQ.out _)))
      go_wp2
      go_ret
      rw [HO.out]
      exact ⟨rfl, ha, FIN.out _, by show nx + (from_ l nx : Int) ≤ nx + from_ l nx + 1; omega⟩
    | none =>
      rw [hlk] at FQ hO
      have HO : Hid (R = (t.n, e, nx)) := hO
      clear hO hlk BQ h6 HX
      go_enter Tryz.func73, Tryz.ntmps73
      go_wp2_with fail
      go_quiet (first | (go_at_call 98; refine Calls.quiet_of_same (FQ.out _)))
      have y1 := HE.out nq
      have F1 := hid (FIN.out nq)
      clear HE FIN FQ e0 e1
      generalize w.drewN nq = W1 at y1 F1 ⊢
      go_wp2
      go_ret
      rw [HO.out]
      exact ⟨rfl, HN.out, F1.out, by show nx + (from_ l nx : Int) ≤ nx + from_ l nx + 1; omega⟩
  · have g6 : (t.k == 6) = false := by simp [h6]
    rw [if_neg h6] at hO
    cases hb : t.binds with
    | false =>
      rw [hb] at BQ
      have HO : Hid (R = (t.n, e, nx)) := by show _ = _; rw [hO, hb]; rfl
      clear hO hb h6 HX
      go_enter Tryz.func73, Tryz.ntmps73
      go_wp2_with (go_at_call 90; refine (BQ.out).mono ?_; rintro r w3 ⟨rfl, hw⟩; rw [hw]; clear hw w3)
      go_ret
      rw [HO.out]
      exact ⟨rfl, HN.out, ⟨own, H0.out.up (Nat.le_succ _), Ev.refl _ _⟩, by show nx + (from_ l nx : Int) ≤ nx + from_ l nx + 1; omega⟩
    | true =>
      rw [hb] at BQ
      have GQ := hid (given_any N M num u C l w own e nx n t.n HN.out H0.out HQ.out.2.2)
      have HO : Hid (R = ((give C l nx t.n).1, (t.n, (give C l nx t.n).1) :: e, (give C l nx t.n).2)) := by show _ = _; rw [hO, hb]; rfl
      have HG : Hid (R64 (give C l nx t.n).1) := by
        show R64 _
        unfold give
        split
        · have h1 := fresh_ge l l.length nx
          have h2 := fresh_more l l.length (from_ l nx) nx (from_le l nx) (Nat.le_refl _)
          have h3 := fresh_ge l (from_ l nx) nx
          have h4 := H0.out.lo
          have h5 := HQ.out.2.2
          show R64 (fresh l l.length nx)
          rw [h2]
          constructor <;> omega
        · exact HN.out
      generalize give C l nx t.n = G at GQ HO HG
      obtain ⟨g1, g2⟩ := G
      have GQ : Hid (Calls Tryz.prog 99 #[.pointer (some ⟨M, 0, none⟩), .int .i64 t.n] w fun r w' => r = .returned (.int .i64 g1) ∧ Pt N M num u C l w' own e g2 n ∧ Ev own w own w' ∧ g2 + from_ l g2 ≤ nx + from_ l nx + 1) := GQ
      clear hO hb h6
      go_enter Tryz.func73, Tryz.ntmps73
      go_wp2_with (first
        | (go_at_call 90; refine (BQ.out).mono ?_; rintro r w3 ⟨rfl, hw⟩; rw [hw]; clear hw w3 BQ)
        | (go_at_call 99; refine (GQ.out).mono ?_; rintro r w4 ⟨rfl, hP4, hE4, hN4⟩; clear GQ))
      have y1 : w4.drew.cell? ⟨b, o + 1, none⟩ = some (.int .i64 t.n) := HX.out _ _ hE4.drew
      have LQ := hid (bindP N M num u C l w4.drew own e g2 n t.n g1 HN.out HG.out (hP4.stays (Below.refl _ _).drew) (by have := HQ.out; omega) (by have := HQ.out; omega))
      have E4 := hid hE4.drew
      have N4 := hid hN4
      clear hP4 hE4 hN4 HX e1
      go_region_with (go_at_call 100; refine (LQ.out).mono ?_; rintro r w5 ⟨rfl, own5, hP5, hE5⟩)
      all_goals go_wp2
      all_goals go_ret
      all_goals rw [HO.out]
      all_goals exact ⟨rfl, HG.out, ⟨own5, hP5, E4.out.trans hE5⟩, N4.out⟩
end Go.Proofs.YtigliglmejkakaaGreat.Tgt
