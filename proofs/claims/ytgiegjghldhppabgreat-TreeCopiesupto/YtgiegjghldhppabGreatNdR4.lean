/- When a node of one sort is right. -/
import Derived.Deep.RegionHeld
import Derived.Test.YtgiegjghldhppabGreatNdQ1
import Derived.BigRegion
namespace Go.Proofs.YtgiegjghldhppabGreat
open Go.RowKit
set_option linter.unusedVariables false
set_option linter.unusedSimpArgs false

set_option maxHeartbeats 4000000 in
set_option maxRecDepth 100000 in
theorem right4 (n : Nat) (q0 : ErrLOf 52 53 (Nd.err 0) n 0) : ErrOf 56 (Nd.err 4) (n + 1) 4 := by
  intro w b o vs nd hb hc ha
  obtain ⟨s, vl, l, rfl, rfl, hs, kl⟩ := At.con ha
  clear ha
  have hp := pn_any
  have Rl : Hid (∀ w', Below w.heap.size w w' → Calls Tryz.prog 52 #[vl, .func (.func 53) #[] #[]] w' fun e w'' => e = outc (Nd.errF (Nd.err 0) l) ∧ Below w'.heap.size w' w'') := fun w' h' => q0 w' vl l (kl.below h')
  obtain ⟨al, cl, rfl, -⟩ := kl.form
  clear kl
  have d0 : w.cell? ⟨b, o, none⟩ = some (.string s) := hc 0 _ rfl
  have D0 : Hid (∀ w', Below w.heap.size w w' → w'.cell? ⟨b, o, none⟩ = some (.string s)) := fun w' h' => (h'.cell hb).trans (hc 0 _ rfl)
  have d1 : w.cell? ⟨b, o + 1, none⟩ = some (.slice al l.length cl) := hc 1 _ rfl
  have D1 : Hid (∀ w', Below w.heap.size w w' → w'.cell? ⟨b, o + 1, none⟩ = some (.slice al l.length cl)) := fun w' h' => (h'.cell hb).trans (hc 1 _ rfl)
  clear hc q0
  have HE0 : Hid ((Nd.err 4) (.mk [.str s] [l]) = Nd.firstE (Nd.fitE { tys := (l.length : Int) } { tys := min (l.length : Int) 1 }) (Nd.firstE (Nd.nameE s (Nm.upper s)) (Nd.errF (Nd.err 0) l))) := by
    show _ = _
    rw [Nd.err, show Nd.own 4 [.str s] [l] = Nd.ownCon s l from rfl]
    rw [Nd.ownCon]
    simp only [Nd.subs, Nd.errLL, Nd.errL_eq, Nd.firstE_assoc, Nd.firstE_right]
  go_enter Tryz.func56, Tryz.ntmps56
  go_wp2_with (first | (go_at_call 52; refine (Rl.out _ hB1).mono ?_; rintro e w2 ⟨rfl, hb⟩; have hB2 := bl_tr hB1 hb; clear hb; refine (outc_cases (Nd.errF (Nd.err 0) l)).elim (fun ⟨hz, he⟩ => ?_) (fun ⟨hz, he⟩ => by rw [he]; exact ⟨rfl, (by rw [HE2.out]; exact he.symm), hB2⟩); rw [he]; have HE3 : Hid (outc ((Nd.err 4) (.mk [.str s] [l])) = .returned (.tuple #[])) := (by show _ = _; rw [HE2.out]; exact he); clear HE2 hz he; have f0_2 := D0.out _ hB2; have f1_2 := D1.out _ hB2; skip) | (go_at_call 86; refine (named_any s hs 85 Nm.upper sort_upper _).mono ?_; rintro e w2 ⟨rfl, hw⟩; rw [hw]; clear hw w2; refine (outc_cases (Nd.nameE s (Nm.upper s))).elim (fun ⟨hz, he⟩ => ?_) (fun ⟨hz, he⟩ => by rw [he]; exact ⟨rfl, (by rw [HE1.out, Nd.firstE_ne hz]; exact he.symm), hB1⟩); rw [he]; have HE2 := HE1.out.trans (Nd.firstE_zero hz); replace HE2 : Hid ((Nd.err 4) (.mk [.str s] [l]) = Nd.errF (Nd.err 0) l) := HE2; clear HE1 hz he) | (go_at_call 84; refine (fit_any { tys := (l.length : Int) } { tys := min (l.length : Int) 1 } _).mono ?_; rintro e w1 ⟨rfl, hb1⟩; have hB1 : Below w.heap.size w w1 := (by refine bl_tr ?_ hb1; first | exact (bl_alloc (Below.refl _ _) _).drew | exact bl_alloc (Below.refl _ _) _ | exact bl_alloc (Below.refl _ _).drew _); clear hb1; refine (outc_cases (Nd.fitE { tys := (l.length : Int) } { tys := min (l.length : Int) 1 })).elim (fun ⟨hz, he⟩ => ?_) (fun ⟨hz, he⟩ => by rw [he]; exact ⟨rfl, (by rw [HE0.out, Nd.firstE_ne hz]; exact he.symm), hB1⟩); rw [he]; have HE1 := HE0.out.trans (Nd.firstE_zero hz); replace HE1 : Hid ((Nd.err 4) (.mk [.str s] [l]) = Nd.firstE (Nd.nameE s (Nm.upper s)) (Nd.errF (Nd.err 0) l)) := HE1; clear HE0 hz he; have f0_1 := D0.out _ hB1; have f1_1 := D1.out _ hB1; skip))
  first | go_end0 | refine bodyPost_ret (results_none rfl _ _ _) rfl ?_
  exact ⟨HE3.out.symm, hB2⟩

end Go.Proofs.YtgiegjghldhppabGreat
