/- When a node of one sort is right. -/
import Derived.Deep.RegionHeld
import Derived.Test.YtgiegjghldhppabGreatNdQ1
import Derived.BigRegion
namespace Go.Proofs.YtgiegjghldhppabGreat
open Go.RowKit
set_option linter.unusedVariables false
set_option linter.unusedSimpArgs false

set_option maxHeartbeats 4000000 in
set_option maxRecDepth 100000 in
theorem right6 (n : Nat) (q7 : ErrLOf 90 91 (Nd.err 7) n 7) (q6 : ErrLOf 59 60 (Nd.err 6) n 6) (q0 : ErrLOf 52 53 (Nd.err 0) n 0) : ErrOf 60 (Nd.err 6) (n + 1) 6 := by
  intro w b o vs nd hb hc ha
  obtain ⟨k, vp, p, vl0, l0, vl1, l1, vl2, l2, rfl, rfl, -, ⟨tx, hpx, hpl⟩, kl0, kl1, kl2⟩ := At.sig ha
  clear ha
  have hp := pn_any
  have TX : Hid (∀ w', Below w.heap.size w w' → Strs w' vp p) := fun w' h' => (tx.move (Keeps.of_below h') (fun _ h => h)).strs
  have Rl0 : Hid (∀ w', Below w.heap.size w w' → Calls Tryz.prog 90 #[vl0, .func (.func 91) #[] #[]] w' fun e w'' => e = outc (Nd.errF (Nd.err 7) l0) ∧ Below w'.heap.size w' w'') := fun w' h' => q7 w' vl0 l0 (kl0.below h')
  have Rl1 : Hid (∀ w', Below w.heap.size w w' → Calls Tryz.prog 59 #[vl1, .func (.func 60) #[] #[]] w' fun e w'' => e = outc (Nd.errF (Nd.err 6) l1) ∧ Below w'.heap.size w' w'') := fun w' h' => q6 w' vl1 l1 (kl1.below h')
  have Rl2 : Hid (∀ w', Below w.heap.size w w' → Calls Tryz.prog 52 #[vl2, .func (.func 53) #[] #[]] w' fun e w'' => e = outc (Nd.errF (Nd.err 0) l2) ∧ Below w'.heap.size w' w'') := fun w' h' => q0 w' vl2 l2 (kl2.below h')
  obtain ⟨ap, cp, rfl⟩ := tx.form
  clear tx
  obtain ⟨al0, cl0, rfl, -⟩ := kl0.form
  clear kl0
  obtain ⟨al1, cl1, rfl, -⟩ := kl1.form
  clear kl1
  obtain ⟨al2, cl2, rfl, -⟩ := kl2.form
  clear kl2
  have d0 : w.cell? ⟨b, o, none⟩ = some (.int .i64 k) := hc 0 _ rfl
  have D0 : Hid (∀ w', Below w.heap.size w w' → w'.cell? ⟨b, o, none⟩ = some (.int .i64 k)) := fun w' h' => (h'.cell hb).trans (hc 0 _ rfl)
  have d1 : w.cell? ⟨b, o + 1, none⟩ = some (.slice ap p.length cp) := hc 1 _ rfl
  have D1 : Hid (∀ w', Below w.heap.size w w' → w'.cell? ⟨b, o + 1, none⟩ = some (.slice ap p.length cp)) := fun w' h' => (h'.cell hb).trans (hc 1 _ rfl)
  have d2 : w.cell? ⟨b, o + 2, none⟩ = some (.slice al0 l0.length cl0) := hc 2 _ rfl
  have D2 : Hid (∀ w', Below w.heap.size w w' → w'.cell? ⟨b, o + 2, none⟩ = some (.slice al0 l0.length cl0)) := fun w' h' => (h'.cell hb).trans (hc 2 _ rfl)
  have d3 : w.cell? ⟨b, o + 3, none⟩ = some (.slice al1 l1.length cl1) := hc 3 _ rfl
  have D3 : Hid (∀ w', Below w.heap.size w w' → w'.cell? ⟨b, o + 3, none⟩ = some (.slice al1 l1.length cl1)) := fun w' h' => (h'.cell hb).trans (hc 3 _ rfl)
  have d4 : w.cell? ⟨b, o + 4, none⟩ = some (.slice al2 l2.length cl2) := hc 4 _ rfl
  have D4 : Hid (∀ w', Below w.heap.size w w' → w'.cell? ⟨b, o + 4, none⟩ = some (.slice al2 l2.length cl2)) := fun w' h' => (h'.cell hb).trans (hc 4 _ rfl)
  clear hc q0 q6 q7
  go_enter Tryz.func60, Tryz.ntmps60
  go_wp2
  go_region
  by_cases hk1 : k = 1
  · subst hk1
    have HE0 : Hid ((Nd.err 6) (.mk [.int 1, .strs p] [l0, l1, l2]) = Nd.firstE (Nd.fitE { path := (p.length : Int), tys := (l2.length : Int), sigs := (l1.length : Int), specs := (l0.length : Int) } { path := (p.length : Int) }) (Nd.firstE (Nd.pathE p Nm.upper) (Nd.firstE (Nd.errF (Nd.err 7) l0) (Nd.firstE (Nd.errF (Nd.err 6) l1) (Nd.errF (Nd.err 0) l2))))) := by
      show _ = _
      rw [Nd.err, show Nd.own 6 [.int 1, .strs p] [l0, l1, l2] = Nd.ownSig 1 p l0 l1 l2 from rfl]
      rw [Nd.ownSig, if_pos (by omega)]
      simp only [Nd.subs, Nd.errLL, Nd.errL_eq, Nd.firstE_assoc, Nd.firstE_right]
    go_wp2_with (first | (go_at_call 52; refine (Rl2.out _ hB3).mono ?_; rintro e w4 ⟨rfl, hb⟩; have hB4 := bl_tr hB3 hb; clear hb; refine (outc_cases (Nd.errF (Nd.err 0) l2)).elim (fun ⟨hz, he⟩ => ?_) (fun ⟨hz, he⟩ => by rw [he]; exact ⟨rfl, (by rw [HE4.out]; exact he.symm), hB4⟩); rw [he]; have HE5 : Hid (outc ((Nd.err 6) (.mk [.int 1, .strs p] [l0, l1, l2])) = .returned (.tuple #[])) := (by show _ = _; rw [HE4.out]; exact he); clear HE4 hz he; have f0_4 := D0.out _ hB4; have f1_4 := D1.out _ hB4; have f2_4 := D2.out _ hB4; have f3_4 := D3.out _ hB4; have f4_4 := D4.out _ hB4; skip) | (go_at_call 59; refine (Rl1.out _ hB2).mono ?_; rintro e w3 ⟨rfl, hb⟩; have hB3 := bl_tr hB2 hb; clear hb; refine (outc_cases (Nd.errF (Nd.err 6) l1)).elim (fun ⟨hz, he⟩ => ?_) (fun ⟨hz, he⟩ => by rw [he]; exact ⟨rfl, (by rw [HE3.out, Nd.firstE_ne hz]; exact he.symm), hB3⟩); rw [he]; have HE4 := HE3.out.trans (Nd.firstE_zero hz); replace HE4 : Hid ((Nd.err 6) (.mk [.int 1, .strs p] [l0, l1, l2]) = Nd.errF (Nd.err 0) l2) := HE4; clear HE3 hz he; have f0_3 := D0.out _ hB3; have f1_3 := D1.out _ hB3; have f2_3 := D2.out _ hB3; have f3_3 := D3.out _ hB3; have f4_3 := D4.out _ hB3; skip) | (go_at_call 90; refine (Rl0.out _ hB1).mono ?_; rintro e w2 ⟨rfl, hb⟩; have hB2 := bl_tr hB1 hb; clear hb; refine (outc_cases (Nd.errF (Nd.err 7) l0)).elim (fun ⟨hz, he⟩ => ?_) (fun ⟨hz, he⟩ => by rw [he]; exact ⟨rfl, (by rw [HE2.out, Nd.firstE_ne hz]; exact he.symm), hB2⟩); rw [he]; have HE3 := HE2.out.trans (Nd.firstE_zero hz); replace HE3 : Hid ((Nd.err 6) (.mk [.int 1, .strs p] [l0, l1, l2]) = Nd.firstE (Nd.errF (Nd.err 6) l1) (Nd.errF (Nd.err 0) l2)) := HE3; clear HE2 hz he; have f0_2 := D0.out _ hB2; have f1_2 := D1.out _ hB2; have f2_2 := D2.out _ hB2; have f3_2 := D3.out _ hB2; have f4_2 := D4.out _ hB2; skip) | (go_at_call 89; refine (pathed_any _ p _ (TX.out _ hB1) hpx hpl 85 Nm.upper sort_upper).mono ?_; rintro e w2 ⟨rfl, hw⟩; rw [hw]; clear hw w2; refine (outc_cases (Nd.pathE p Nm.upper)).elim (fun ⟨hz, he⟩ => ?_) (fun ⟨hz, he⟩ => by rw [he]; exact ⟨rfl, (by rw [HE1.out, Nd.firstE_ne hz]; exact he.symm), hB1⟩); rw [he]; have HE2 := HE1.out.trans (Nd.firstE_zero hz); replace HE2 : Hid ((Nd.err 6) (.mk [.int 1, .strs p] [l0, l1, l2]) = Nd.firstE (Nd.errF (Nd.err 7) l0) (Nd.firstE (Nd.errF (Nd.err 6) l1) (Nd.errF (Nd.err 0) l2))) := HE2; clear HE1 hz he) | (go_at_call 84; refine (fit_any { path := (p.length : Int), tys := (l2.length : Int), sigs := (l1.length : Int), specs := (l0.length : Int) } { path := (p.length : Int) } _).mono ?_; rintro e w1 ⟨rfl, hb1⟩; have hB1 : Below w.heap.size w w1 := (by refine bl_tr ?_ hb1; first | exact (bl_alloc (Below.refl _ _) _).drew | exact bl_alloc (Below.refl _ _) _ | exact bl_alloc (Below.refl _ _).drew _); clear hb1; refine (outc_cases (Nd.fitE { path := (p.length : Int), tys := (l2.length : Int), sigs := (l1.length : Int), specs := (l0.length : Int) } { path := (p.length : Int) })).elim (fun ⟨hz, he⟩ => ?_) (fun ⟨hz, he⟩ => by rw [he]; exact ⟨rfl, (by rw [HE0.out, Nd.firstE_ne hz]; exact he.symm), hB1⟩); rw [he]; have HE1 := HE0.out.trans (Nd.firstE_zero hz); replace HE1 : Hid ((Nd.err 6) (.mk [.int 1, .strs p] [l0, l1, l2]) = Nd.firstE (Nd.pathE p Nm.upper) (Nd.firstE (Nd.errF (Nd.err 7) l0) (Nd.firstE (Nd.errF (Nd.err 6) l1) (Nd.errF (Nd.err 0) l2)))) := HE1; clear HE0 hz he; have f0_1 := D0.out _ hB1; have f1_1 := D1.out _ hB1; have f2_1 := D2.out _ hB1; have f3_1 := D3.out _ hB1; have f4_1 := D4.out _ hB1; skip))
    first | go_end0 | refine bodyPost_ret (results_none rfl _ _ _) rfl ?_
    exact ⟨HE5.out.symm, hB4⟩
  by_cases hk2 : k = 2
  · subst hk2
    have HE0 : Hid ((Nd.err 6) (.mk [.int 2, .strs p] [l0, l1, l2]) = Nd.firstE (Nd.fitE { path := (p.length : Int), tys := (l2.length : Int), sigs := (l1.length : Int), specs := (l0.length : Int) } { specs := (l0.length : Int) }) (Nd.firstE (Nd.errF (Nd.err 7) l0) (Nd.firstE (Nd.errF (Nd.err 6) l1) (Nd.errF (Nd.err 0) l2)))) := by
      show _ = _
      rw [Nd.err, show Nd.own 6 [.int 2, .strs p] [l0, l1, l2] = Nd.ownSig 2 p l0 l1 l2 from rfl]
      rw [Nd.ownSig, if_neg (by omega), if_pos (by omega)]
      simp only [Nd.subs, Nd.errLL, Nd.errL_eq, Nd.firstE_right]
    go_wp2_with (first | (go_at_call 52; refine (Rl2.out _ hB3).mono ?_; rintro e w4 ⟨rfl, hb⟩; have hB4 := bl_tr hB3 hb; clear hb; refine (outc_cases (Nd.errF (Nd.err 0) l2)).elim (fun ⟨hz, he⟩ => ?_) (fun ⟨hz, he⟩ => by rw [he]; exact ⟨rfl, (by rw [HE3.out]; exact he.symm), hB4⟩); rw [he]; have HE4 : Hid (outc ((Nd.err 6) (.mk [.int 2, .strs p] [l0, l1, l2])) = .returned (.tuple #[])) := (by show _ = _; rw [HE3.out]; exact he); clear HE3 hz he; have f0_4 := D0.out _ hB4; have f1_4 := D1.out _ hB4; have f2_4 := D2.out _ hB4; have f3_4 := D3.out _ hB4; have f4_4 := D4.out _ hB4; skip) | (go_at_call 59; refine (Rl1.out _ hB2).mono ?_; rintro e w3 ⟨rfl, hb⟩; have hB3 := bl_tr hB2 hb; clear hb; refine (outc_cases (Nd.errF (Nd.err 6) l1)).elim (fun ⟨hz, he⟩ => ?_) (fun ⟨hz, he⟩ => by rw [he]; exact ⟨rfl, (by rw [HE2.out, Nd.firstE_ne hz]; exact he.symm), hB3⟩); rw [he]; have HE3 := HE2.out.trans (Nd.firstE_zero hz); replace HE3 : Hid ((Nd.err 6) (.mk [.int 2, .strs p] [l0, l1, l2]) = Nd.errF (Nd.err 0) l2) := HE3; clear HE2 hz he; have f0_3 := D0.out _ hB3; have f1_3 := D1.out _ hB3; have f2_3 := D2.out _ hB3; have f3_3 := D3.out _ hB3; have f4_3 := D4.out _ hB3; skip) | (go_at_call 90; refine (Rl0.out _ hB1).mono ?_; rintro e w2 ⟨rfl, hb⟩; have hB2 := bl_tr hB1 hb; clear hb; refine (outc_cases (Nd.errF (Nd.err 7) l0)).elim (fun ⟨hz, he⟩ => ?_) (fun ⟨hz, he⟩ => by rw [he]; exact ⟨rfl, (by rw [HE1.out, Nd.firstE_ne hz]; exact he.symm), hB2⟩); rw [he]; have HE2 := HE1.out.trans (Nd.firstE_zero hz); replace HE2 : Hid ((Nd.err 6) (.mk [.int 2, .strs p] [l0, l1, l2]) = Nd.firstE (Nd.errF (Nd.err 6) l1) (Nd.errF (Nd.err 0) l2)) := HE2; clear HE1 hz he; have f0_2 := D0.out _ hB2; have f1_2 := D1.out _ hB2; have f2_2 := D2.out _ hB2; have f3_2 := D3.out _ hB2; have f4_2 := D4.out _ hB2; skip) | (go_at_call 84; refine (fit_any { path := (p.length : Int), tys := (l2.length : Int), sigs := (l1.length : Int), specs := (l0.length : Int) } { specs := (l0.length : Int) } _).mono ?_; rintro e w1 ⟨rfl, hb1⟩; have hB1 : Below w.heap.size w w1 := (by refine bl_tr ?_ hb1; first | exact (bl_alloc (Below.refl _ _) _).drew | exact bl_alloc (Below.refl _ _) _ | exact bl_alloc (Below.refl _ _).drew _); clear hb1; refine (outc_cases (Nd.fitE { path := (p.length : Int), tys := (l2.length : Int), sigs := (l1.length : Int), specs := (l0.length : Int) } { specs := (l0.length : Int) })).elim (fun ⟨hz, he⟩ => ?_) (fun ⟨hz, he⟩ => by rw [he]; exact ⟨rfl, (by rw [HE0.out, Nd.firstE_ne hz]; exact he.symm), hB1⟩); rw [he]; have HE1 := HE0.out.trans (Nd.firstE_zero hz); replace HE1 : Hid ((Nd.err 6) (.mk [.int 2, .strs p] [l0, l1, l2]) = Nd.firstE (Nd.errF (Nd.err 7) l0) (Nd.firstE (Nd.errF (Nd.err 6) l1) (Nd.errF (Nd.err 0) l2))) := HE1; clear HE0 hz he; have f0_1 := D0.out _ hB1; have f1_1 := D1.out _ hB1; have f2_1 := D2.out _ hB1; have f3_1 := D3.out _ hB1; have f4_1 := D4.out _ hB1; skip))
    first | go_end0 | refine bodyPost_ret (results_none rfl _ _ _) rfl ?_
    exact ⟨HE4.out.symm, hB4⟩
  by_cases hk3 : k = 3
  · subst hk3
    have HE0 : Hid ((Nd.err 6) (.mk [.int 3, .strs p] [l0, l1, l2]) = Nd.firstE (Nd.fitE { path := (p.length : Int), tys := (l2.length : Int), sigs := (l1.length : Int), specs := (l0.length : Int) } { path := (p.length : Int), tys := 1, sigs := 1 }) (Nd.firstE (Nd.pathE p Nm.lower) (Nd.firstE (Nd.errF (Nd.err 7) l0) (Nd.firstE (Nd.errF (Nd.err 6) l1) (Nd.errF (Nd.err 0) l2))))) := by
      show _ = _
      rw [Nd.err, show Nd.own 6 [.int 3, .strs p] [l0, l1, l2] = Nd.ownSig 3 p l0 l1 l2 from rfl]
      rw [Nd.ownSig, if_neg (by omega), if_neg (by omega), if_pos (by omega)]
      simp only [Nd.subs, Nd.errLL, Nd.errL_eq, Nd.firstE_assoc, Nd.firstE_right]
    go_wp2_with (first | (go_at_call 52; refine (Rl2.out _ hB3).mono ?_; rintro e w4 ⟨rfl, hb⟩; have hB4 := bl_tr hB3 hb; clear hb; refine (outc_cases (Nd.errF (Nd.err 0) l2)).elim (fun ⟨hz, he⟩ => ?_) (fun ⟨hz, he⟩ => by rw [he]; exact ⟨rfl, (by rw [HE4.out]; exact he.symm), hB4⟩); rw [he]; have HE5 : Hid (outc ((Nd.err 6) (.mk [.int 3, .strs p] [l0, l1, l2])) = .returned (.tuple #[])) := (by show _ = _; rw [HE4.out]; exact he); clear HE4 hz he; have f0_4 := D0.out _ hB4; have f1_4 := D1.out _ hB4; have f2_4 := D2.out _ hB4; have f3_4 := D3.out _ hB4; have f4_4 := D4.out _ hB4; skip) | (go_at_call 59; refine (Rl1.out _ hB2).mono ?_; rintro e w3 ⟨rfl, hb⟩; have hB3 := bl_tr hB2 hb; clear hb; refine (outc_cases (Nd.errF (Nd.err 6) l1)).elim (fun ⟨hz, he⟩ => ?_) (fun ⟨hz, he⟩ => by rw [he]; exact ⟨rfl, (by rw [HE3.out, Nd.firstE_ne hz]; exact he.symm), hB3⟩); rw [he]; have HE4 := HE3.out.trans (Nd.firstE_zero hz); replace HE4 : Hid ((Nd.err 6) (.mk [.int 3, .strs p] [l0, l1, l2]) = Nd.errF (Nd.err 0) l2) := HE4; clear HE3 hz he; have f0_3 := D0.out _ hB3; have f1_3 := D1.out _ hB3; have f2_3 := D2.out _ hB3; have f3_3 := D3.out _ hB3; have f4_3 := D4.out _ hB3; skip) | (go_at_call 90; refine (Rl0.out _ hB1).mono ?_; rintro e w2 ⟨rfl, hb⟩; have hB2 := bl_tr hB1 hb; clear hb; refine (outc_cases (Nd.errF (Nd.err 7) l0)).elim (fun ⟨hz, he⟩ => ?_) (fun ⟨hz, he⟩ => by rw [he]; exact ⟨rfl, (by rw [HE2.out, Nd.firstE_ne hz]; exact he.symm), hB2⟩); rw [he]; have HE3 := HE2.out.trans (Nd.firstE_zero hz); replace HE3 : Hid ((Nd.err 6) (.mk [.int 3, .strs p] [l0, l1, l2]) = Nd.firstE (Nd.errF (Nd.err 6) l1) (Nd.errF (Nd.err 0) l2)) := HE3; clear HE2 hz he; have f0_2 := D0.out _ hB2; have f1_2 := D1.out _ hB2; have f2_2 := D2.out _ hB2; have f3_2 := D3.out _ hB2; have f4_2 := D4.out _ hB2; skip) | (go_at_call 89; refine (pathed_any _ p _ (TX.out _ hB1) hpx hpl 83 Nm.lower sort_lower).mono ?_; rintro e w2 ⟨rfl, hw⟩; rw [hw]; clear hw w2; refine (outc_cases (Nd.pathE p Nm.lower)).elim (fun ⟨hz, he⟩ => ?_) (fun ⟨hz, he⟩ => by rw [he]; exact ⟨rfl, (by rw [HE1.out, Nd.firstE_ne hz]; exact he.symm), hB1⟩); rw [he]; have HE2 := HE1.out.trans (Nd.firstE_zero hz); replace HE2 : Hid ((Nd.err 6) (.mk [.int 3, .strs p] [l0, l1, l2]) = Nd.firstE (Nd.errF (Nd.err 7) l0) (Nd.firstE (Nd.errF (Nd.err 6) l1) (Nd.errF (Nd.err 0) l2))) := HE2; clear HE1 hz he) | (go_at_call 84; refine (fit_any { path := (p.length : Int), tys := (l2.length : Int), sigs := (l1.length : Int), specs := (l0.length : Int) } { path := (p.length : Int), tys := 1, sigs := 1 } _).mono ?_; rintro e w1 ⟨rfl, hb1⟩; have hB1 : Below w.heap.size w w1 := (by refine bl_tr ?_ hb1; first | exact (bl_alloc (Below.refl _ _) _).drew | exact bl_alloc (Below.refl _ _) _ | exact bl_alloc (Below.refl _ _).drew _); clear hb1; refine (outc_cases (Nd.fitE { path := (p.length : Int), tys := (l2.length : Int), sigs := (l1.length : Int), specs := (l0.length : Int) } { path := (p.length : Int), tys := 1, sigs := 1 })).elim (fun ⟨hz, he⟩ => ?_) (fun ⟨hz, he⟩ => by rw [he]; exact ⟨rfl, (by rw [HE0.out, Nd.firstE_ne hz]; exact he.symm), hB1⟩); rw [he]; have HE1 := HE0.out.trans (Nd.firstE_zero hz); replace HE1 : Hid ((Nd.err 6) (.mk [.int 3, .strs p] [l0, l1, l2]) = Nd.firstE (Nd.pathE p Nm.lower) (Nd.firstE (Nd.errF (Nd.err 7) l0) (Nd.firstE (Nd.errF (Nd.err 6) l1) (Nd.errF (Nd.err 0) l2)))) := HE1; clear HE0 hz he; have f0_1 := D0.out _ hB1; have f1_1 := D1.out _ hB1; have f2_1 := D2.out _ hB1; have f3_1 := D3.out _ hB1; have f4_1 := D4.out _ hB1; skip))
    first | go_end0 | refine bodyPost_ret (results_none rfl _ _ _) rfl ?_
    exact ⟨HE5.out.symm, hB4⟩
  have HE : Hid (outc ((Nd.err 6) (.mk [.int k, .strs p] [l0, l1, l2])) = .panicked [{ v := .iface 36 (.int .i64 1), recovered := false }]) := by
    show _ = _
    rw [Nd.err, show Nd.own 6 [.int k, .strs p] [l0, l1, l2] = Nd.ownSig k p l0 l1 l2 from rfl]
    rw [Nd.ownSig, if_neg (by omega), if_neg (by omega), if_neg (by omega), Nd.firstE_ne (by decide)]
    exact outc_err (by decide)
  replace hk1 : (k == 1) = false := by rw [beq_eq_false_iff_ne]; exact hk1
  replace hk2 : (k == 2) = false := by rw [beq_eq_false_iff_ne]; exact hk2
  replace hk3 : (k == 3) = false := by rw [beq_eq_false_iff_ne]; exact hk3
  go_wp2
  exact ⟨rfl, HE.out.symm, (by first | exact (bl_alloc (Below.refl _ _) _).drew | exact bl_alloc (Below.refl _ _) _ | exact bl_alloc (Below.refl _ _).drew _)⟩

end Go.Proofs.YtgiegjghldhppabGreat
