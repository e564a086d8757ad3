/- Pieces: NdR6 NdRW NdRZ NdT NdU NdSA NdSB NdSC NdSD NdSZ NdA NdXZ. -/
import Derived.Deep.RegionHeld
import Derived.Test.YtjebepnphoeiaabGreatDoorQat
import Derived.BigRegion
import Derived.Test.YtjebepnphoeiaabGreatDoorQav
import Derived.Test.YtjebepnphoeiaabGreatDoorQaw
import Derived.Test.YtjebepnphoeiaabGreatDoorQaz
import Derived.Test.YtjebepnphoeiaabGreatDoorQba
import Derived.Test.YtjebepnphoeiaabGreatDoorQbb
import Derived.Test.YtjebepnphoeiaabGreatDoorQbc
import Derived.Test.YtjebepnphoeiaabGreatDoorQax
import Derived.Test.YtjebepnphoeiaabGreatDoorQac
import Derived.Test.YtjebepnphoeiaabGreatDoorQay
import Derived.Test.YtjebepnphoeiaabGreatDoorQal
import Derived.Test.YtjebepnphoeiaabGreatDoorQam
import Derived.Test.YtjebepnphoeiaabGreatDoorQan
import Derived.Test.YtjebepnphoeiaabGreatDoorQao
import Derived.Test.YtjebepnphoeiaabGreatDoorQap
namespace Go.Proofs.YtjebepnphoeiaabGreatDoor
open Go.RowKit
set_option linter.unusedVariables false
set_option linter.unusedSimpArgs false

set_option maxHeartbeats 4000000 in
set_option maxRecDepth 100000 in
theorem right6 (n : Nat) (q7 : ErrLOf 102 108 (Nd.err 7) n 7) (q6 : ErrLOf 74 85 (Nd.err 6) n 6) (q0 : ErrLOf 48 54 (Nd.err 0) n 0) : ErrOf 85 (Nd.err 6) (n + 1) 6 := by
 intro w b o vs nd hb hc ha
 obtain ⟨k, vp, p, vl0, l0, vl1, l1, vl2, l2, rfl, rfl, -, ⟨tx, hpx, hpl⟩, kl0, kl1, kl2⟩ := At.sig ha
 clear ha
 have hp := pn_any
 have TX : Hid (∀ w', Below w.heap.size w w' → Strs w' vp p) := fun w' h' => (tx.move (Keeps.of_below h') (fun _ h => h)).strs
 have Rl0 : Hid (∀ w', Below w.heap.size w w' → Calls Tryz.prog 102 #[vl0, .func (.func 108) #[] #[]] w' fun e w'' => e = outc (Nd.errF (Nd.err 7) l0) ∧ Below w'.heap.size w' w'') := fun w' h' => q7 w' vl0 l0 (kl0.below h')
 have Rl1 : Hid (∀ w', Below w.heap.size w w' → Calls Tryz.prog 74 #[vl1, .func (.func 85) #[] #[]] w' fun e w'' => e = outc (Nd.errF (Nd.err 6) l1) ∧ Below w'.heap.size w' w'') := fun w' h' => q6 w' vl1 l1 (kl1.below h')
 have Rl2 : Hid (∀ w', Below w.heap.size w w' → Calls Tryz.prog 48 #[vl2, .func (.func 54) #[] #[]] w' fun e w'' => e = outc (Nd.errF (Nd.err 0) l2) ∧ Below w'.heap.size w' w'') := fun w' h' => q0 w' vl2 l2 (kl2.below h')
 obtain ⟨ap, cp, rfl⟩ := tx.form
 clear tx
 obtain ⟨al0, cl0, rfl, -⟩ := kl0.form
 clear kl0
 obtain ⟨al1, cl1, rfl, -⟩ := kl1.form
 clear kl1
 obtain ⟨al2, cl2, rfl, -⟩ := kl2.form
 clear kl2
 have d0 : w.cell? ⟨b, o, none⟩ = some (.int .i64 k) := hc 0 _ rfl
 have D0 : Hid (∀ w', Below w.heap.size w w' → w'.cell? ⟨b, o, none⟩ = some (.int .i64 k)) := fun w' h' => (h'.cell hb).trans (hc 0 _ rfl)
 have d1 : w.cell? ⟨b, o + 1, none⟩ = some (.slice ap p.length cp) := hc 1 _ rfl
 have D1 : Hid (∀ w', Below w.heap.size w w' → w'.cell? ⟨b, o + 1, none⟩ = some (.slice ap p.length cp)) := fun w' h' => (h'.cell hb).trans (hc 1 _ rfl)
 have d2 : w.cell? ⟨b, o + 2, none⟩ = some (.slice al0 l0.length cl0) := hc 2 _ rfl
 have D2 : Hid (∀ w', Below w.heap.size w w' → w'.cell? ⟨b, o + 2, none⟩ = some (.slice al0 l0.length cl0)) := fun w' h' => (h'.cell hb).trans (hc 2 _ rfl)
 have d3 : w.cell? ⟨b, o + 3, none⟩ = some (.slice al1 l1.length cl1) := hc 3 _ rfl
 have D3 : Hid (∀ w', Below w.heap.size w w' → w'.cell? ⟨b, o + 3, none⟩ = some (.slice al1 l1.length cl1)) := fun w' h' => (h'.cell hb).trans (hc 3 _ rfl)
 have d4 : w.cell? ⟨b, o + 4, none⟩ = some (.slice al2 l2.length cl2) := hc 4 _ rfl
 have D4 : Hid (∀ w', Below w.heap.size w w' → w'.cell? ⟨b, o + 4, none⟩ = some (.slice al2 l2.length cl2)) := fun w' h' => (h'.cell hb).trans (hc 4 _ rfl)
 clear hc q0 q6 q7
 go_enter Tryz.func85, Tryz.ntmps85
 go_wp2
 go_region
 by_cases hk1 : k = 1
 ·
  subst hk1
  have HE0 : Hid ((Nd.err 6) (.mk [.int 1, .strs p] [l0, l1, l2]) = Nd.firstE (Nd.fitE { path := (p.length : Int), tys := (l2.length : Int), sigs := (l1.length : Int), specs := (l0.length : Int) } { path := (p.length : Int) }) (Nd.firstE (Nd.pathE p Nm.upper) (Nd.firstE (Nd.errF (Nd.err 7) l0) (Nd.firstE (Nd.errF (Nd.err 6) l1) (Nd.errF (Nd.err 0) l2))))) := by
   show _ = _
   rw [Nd.err, show Nd.own 6 [.int 1, .strs p] [l0, l1, l2] = Nd.ownSig 1 p l0 l1 l2 from rfl]
   rw [Nd.ownSig, if_pos (by omega)]
   simp only [Nd.subs, Nd.errLL, Nd.errL_eq, Nd.firstE_assoc, Nd.firstE_right]
  go_wp2_with (first | (go_at_call 48; refine (Rl2.out _ hB3).mono ?_; rintro e w4 ⟨rfl, hb⟩; have hB4 := bl_tr hB3 hb; clear hb; refine (outc_cases (Nd.errF (Nd.err 0) l2)).elim (fun ⟨hz, he⟩ => ?_) (fun ⟨hz, he⟩ => by rw [he]; exact ⟨rfl, (by rw [HE4.out]; exact he.symm), hB4⟩); rw [he]; have HE5 : Hid (outc ((Nd.err 6) (.mk [.int 1, .strs p] [l0, l1, l2])) = .returned (.tuple #[])) := (by show _ = _; rw [HE4.out]; exact he); clear HE4 hz he; have f0_4 := D0.out _ hB4; have f1_4 := D1.out _ hB4; have f2_4 := D2.out _ hB4; have f3_4 := D3.out _ hB4; have f4_4 := D4.out _ hB4; skip) | (go_at_call 74; refine (Rl1.out _ hB2).mono ?_; rintro e w3 ⟨rfl, hb⟩; have hB3 := bl_tr hB2 hb; clear hb; refine (outc_cases (Nd.errF (Nd.err 6) l1)).elim (fun ⟨hz, he⟩ => ?_) (fun ⟨hz, he⟩ => by rw [he]; exact ⟨rfl, (by rw [HE3.out, Nd.firstE_ne hz]; exact he.symm), hB3⟩); rw [he]; have HE4 := HE3.out.trans (Nd.firstE_zero hz); replace HE4 : Hid ((Nd.err 6) (.mk [.int 1, .strs p] [l0, l1, l2]) = Nd.errF (Nd.err 0) l2) := HE4; clear HE3 hz he; have f0_3 := D0.out _ hB3; have f1_3 := D1.out _ hB3; have f2_3 := D2.out _ hB3; have f3_3 := D3.out _ hB3; have f4_3 := D4.out _ hB3; skip) | (go_at_call 102; refine (Rl0.out _ hB1).mono ?_; rintro e w2 ⟨rfl, hb⟩; have hB2 := bl_tr hB1 hb; clear hb; refine (outc_cases (Nd.errF (Nd.err 7) l0)).elim (fun ⟨hz, he⟩ => ?_) (fun ⟨hz, he⟩ => by rw [he]; exact ⟨rfl, (by rw [HE2.out, Nd.firstE_ne hz]; exact he.symm), hB2⟩); rw [he]; have HE3 := HE2.out.trans (Nd.firstE_zero hz); replace HE3 : Hid ((Nd.err 6) (.mk [.int 1, .strs p] [l0, l1, l2]) = Nd.firstE (Nd.errF (Nd.err 6) l1) (Nd.errF (Nd.err 0) l2)) := HE3; clear HE2 hz he; have f0_2 := D0.out _ hB2; have f1_2 := D1.out _ hB2; have f2_2 := D2.out _ hB2; have f3_2 := D3.out _ hB2; have f4_2 := D4.out _ hB2; skip) | (go_at_call 77; refine (pathed_any _ p _ (TX.out _ hB1) hpx hpl 79 Nm.upper sort_upper).mono ?_; rintro e w2 ⟨rfl, hw⟩; rw [hw]; clear hw w2; refine (outc_cases (Nd.pathE p Nm.upper)).elim (fun ⟨hz, he⟩ => ?_) (fun ⟨hz, he⟩ => by rw [he]; exact ⟨rfl, (by rw [HE1.out, Nd.firstE_ne hz]; exact he.symm), hB1⟩); rw [he]; have HE2 := HE1.out.trans (Nd.firstE_zero hz); replace HE2 : Hid ((Nd.err 6) (.mk [.int 1, .strs p] [l0, l1, l2]) = Nd.firstE (Nd.errF (Nd.err 7) l0) (Nd.firstE (Nd.errF (Nd.err 6) l1) (Nd.errF (Nd.err 0) l2))) := HE2; clear HE1 hz he) | (go_at_call 76; refine (fit_any { path := (p.length : Int), tys := (l2.length : Int), sigs := (l1.length : Int), specs := (l0.length : Int) } { path := (p.length : Int) } _).mono ?_; rintro e w1 ⟨rfl, hb1⟩; have hB1 : Below w.heap.size w w1 := (by refine bl_tr ?_ hb1; first | exact (bl_alloc (Below.refl _ _) _).drew | exact bl_alloc (Below.refl _ _) _ | exact bl_alloc (Below.refl _ _).drew _); clear hb1; refine (outc_cases (Nd.fitE { path := (p.length : Int), tys := (l2.length : Int), sigs := (l1.length : Int), specs := (l0.length : Int) } { path := (p.length : Int) })).elim (fun ⟨hz, he⟩ => ?_) (fun ⟨hz, he⟩ => by rw [he]; exact ⟨rfl, (by rw [HE0.out, Nd.firstE_ne hz]; exact he.symm), hB1⟩); rw [he]; have HE1 := HE0.out.trans (Nd.firstE_zero hz); replace HE1 : Hid ((Nd.err 6) (.mk [.int 1, .strs p] [l0, l1, l2]) = Nd.firstE (Nd.pathE p Nm.upper) (Nd.firstE (Nd.errF (Nd.err 7) l0) (Nd.firstE (Nd.errF (Nd.err 6) l1) (Nd.errF (Nd.err 0) l2)))) := HE1; clear HE0 hz he; have f0_1 := D0.out _ hB1; have f1_1 := D1.out _ hB1; have f2_1 := D2.out _ hB1; have f3_1 := D3.out _ hB1; have f4_1 := D4.out _ hB1; skip))
  first | go_end0 | refine bodyPost_ret (results_none rfl _ _ _) rfl ?_
  exact ⟨HE5.out.symm, hB4⟩
 by_cases hk2 : k = 2
 ·
  subst hk2
  have HE0 : Hid ((Nd.err 6) (.mk [.int 2, .strs p] [l0, l1, l2]) = Nd.firstE (Nd.fitE { path := (p.length : Int), tys := (l2.length : Int), sigs := (l1.length : Int), specs := (l0.length : Int) } { specs := (l0.length : Int) }) (Nd.firstE (Nd.errF (Nd.err 7) l0) (Nd.firstE (Nd.errF (Nd.err 6) l1) (Nd.errF (Nd.err 0) l2)))) := by
   show _ = _
   rw [Nd.err, show Nd.own 6 [.int 2, .strs p] [l0, l1, l2] = Nd.ownSig 2 p l0 l1 l2 from rfl]
   rw [Nd.ownSig, if_neg (by omega), if_pos (by omega)]
   simp only [Nd.subs, Nd.errLL, Nd.errL_eq, Nd.firstE_right]
  go_wp2_with (first | (go_at_call 48; refine (Rl2.out _ hB3).mono ?_; rintro e w4 ⟨rfl, hb⟩; have hB4 := bl_tr hB3 hb; clear hb; refine (outc_cases (Nd.errF (Nd.err 0) l2)).elim (fun ⟨hz, he⟩ => ?_) (fun ⟨hz, he⟩ => by rw [he]; exact ⟨rfl, (by rw [HE3.out]; exact he.symm), hB4⟩); rw [he]; have HE4 : Hid (outc ((Nd.err 6) (.mk [.int 2, .strs p] [l0, l1, l2])) = .returned (.tuple #[])) := (by show _ = _; rw [HE3.out]; exact he); clear HE3 hz he; have f0_4 := D0.out _ hB4; have f1_4 := D1.out _ hB4; have f2_4 := D2.out _ hB4; have f3_4 := D3.out _ hB4; have f4_4 := D4.out _ hB4; skip) | (go_at_call 74; refine (Rl1.out _ hB2).mono ?_; rintro e w3 ⟨rfl, hb⟩; have hB3 := bl_tr hB2 hb; clear hb; refine (outc_cases (Nd.errF (Nd.err 6) l1)).elim (fun ⟨hz, he⟩ => ?_) (fun ⟨hz, he⟩ => by rw [he]; exact ⟨rfl, (by rw [HE2.out, Nd.firstE_ne hz]; exact he.symm), hB3⟩); rw [he]; have HE3 := HE2.out.trans (Nd.firstE_zero hz); replace HE3 : Hid ((Nd.err 6) (.mk [.int 2, .strs p] [l0, l1, l2]) = Nd.errF (Nd.err 0) l2) := HE3; clear HE2 hz he; have f0_3 := D0.out _ hB3; have f1_3 := D1.out _ hB3; have f2_3 := D2.out _ hB3; have f3_3 := D3.out _ hB3; have f4_3 := D4.out _ hB3; skip) | (go_at_call 102; refine (Rl0.out _ hB1).mono ?_; rintro e w2 ⟨rfl, hb⟩; have hB2 := bl_tr hB1 hb; clear hb; refine (outc_cases (Nd.errF (Nd.err 7) l0)).elim (fun ⟨hz, he⟩ => ?_) (fun ⟨hz, he⟩ => by rw [he]; exact ⟨rfl, (by rw [HE1.out, Nd.firstE_ne hz]; exact he.symm), hB2⟩); rw [he]; have HE2 := HE1.out.trans (Nd.firstE_zero hz); replace HE2 : Hid ((Nd.err 6) (.mk [.int 2, .strs p] [l0, l1, l2]) = Nd.firstE (Nd.errF (Nd.err 6) l1) (Nd.errF (Nd.err 0) l2)) := HE2; clear HE1 hz he; have f0_2 := D0.out _ hB2; have f1_2 := D1.out _ hB2; have f2_2 := D2.out _ hB2; have f3_2 := D3.out _ hB2; have f4_2 := D4.out _ hB2; skip) | (go_at_call 76; refine (fit_any { path := (p.length : Int), tys := (l2.length : Int), sigs := (l1.length : Int), specs := (l0.length : Int) } { specs := (l0.length : Int) } _).mono ?_; rintro e w1 ⟨rfl, hb1⟩; have hB1 : Below w.heap.size w w1 := (by refine bl_tr ?_ hb1; first | exact (bl_alloc (Below.refl _ _) _).drew | exact bl_alloc (Below.refl _ _) _ | exact bl_alloc (Below.refl _ _).drew _); clear hb1; refine (outc_cases (Nd.fitE { path := (p.length : Int), tys := (l2.length : Int), sigs := (l1.length : Int), specs := (l0.length : Int) } { specs := (l0.length : Int) })).elim (fun ⟨hz, he⟩ => ?_) (fun ⟨hz, he⟩ => by rw [he]; exact ⟨rfl, (by rw [HE0.out, Nd.firstE_ne hz]; exact he.symm), hB1⟩); rw [he]; have HE1 := HE0.out.trans (Nd.firstE_zero hz); replace HE1 : Hid ((Nd.err 6) (.mk [.int 2, .strs p] [l0, l1, l2]) = Nd.firstE (Nd.errF (Nd.err 7) l0) (Nd.firstE (Nd.errF (Nd.err 6) l1) (Nd.errF (Nd.err 0) l2))) := HE1; clear HE0 hz he; have f0_1 := D0.out _ hB1; have f1_1 := D1.out _ hB1; have f2_1 := D2.out _ hB1; have f3_1 := D3.out _ hB1; have f4_1 := D4.out _ hB1; skip))
  first | go_end0 | refine bodyPost_ret (results_none rfl _ _ _) rfl ?_
  exact ⟨HE4.out.symm, hB4⟩
 by_cases hk3 : k = 3
 ·
  subst hk3
  have HE0 : Hid ((Nd.err 6) (.mk [.int 3, .strs p] [l0, l1, l2]) = Nd.firstE (Nd.fitE { path := (p.length : Int), tys := (l2.length : Int), sigs := (l1.length : Int), specs := (l0.length : Int) } { path := (p.length : Int), tys := 1, sigs := 1 }) (Nd.firstE (Nd.pathE p Nm.lower) (Nd.firstE (Nd.errF (Nd.err 7) l0) (Nd.firstE (Nd.errF (Nd.err 6) l1) (Nd.errF (Nd.err 0) l2))))) := by
   show _ = _
   rw [Nd.err, show Nd.own 6 [.int 3, .strs p] [l0, l1, l2] = Nd.ownSig 3 p l0 l1 l2 from rfl]
   rw [Nd.ownSig, if_neg (by omega), if_neg (by omega), if_pos (by omega)]
   simp only [Nd.subs, Nd.errLL, Nd.errL_eq, Nd.firstE_assoc, Nd.firstE_right]
  go_wp2_with (first | (go_at_call 48; refine (Rl2.out _ hB3).mono ?_; rintro e w4 ⟨rfl, hb⟩; have hB4 := bl_tr hB3 hb; clear hb; refine (outc_cases (Nd.errF (Nd.err 0) l2)).elim (fun ⟨hz, he⟩ => ?_) (fun ⟨hz, he⟩ => by rw [he]; exact ⟨rfl, (by rw [HE4.out]; exact he.symm), hB4⟩); rw [he]; have HE5 : Hid (outc ((Nd.err 6) (.mk [.int 3, .strs p] [l0, l1, l2])) = .returned (.tuple #[])) := (by show _ = _; rw [HE4.out]; exact he); clear HE4 hz he; have f0_4 := D0.out _ hB4; have f1_4 := D1.out _ hB4; have f2_4 := D2.out _ hB4; have f3_4 := D3.out _ hB4; have f4_4 := D4.out _ hB4; skip) | (go_at_call 74; refine (Rl1.out _ hB2).mono ?_; rintro e w3 ⟨rfl, hb⟩; have hB3 := bl_tr hB2 hb; clear hb; refine (outc_cases (Nd.errF (Nd.err 6) l1)).elim (fun ⟨hz, he⟩ => ?_) (fun ⟨hz, he⟩ => by rw [he]; exact ⟨rfl, (by rw [HE3.out, Nd.firstE_ne hz]; exact he.symm), hB3⟩); rw [he]; have HE4 := HE3.out.trans (Nd.firstE_zero hz); replace HE4 : Hid ((Nd.err 6) (.mk [.int 3, .strs p] [l0, l1, l2]) = Nd.errF (Nd.err 0) l2) := HE4; clear HE3 hz he; have f0_3 := D0.out _ hB3; have f1_3 := D1.out _ hB3; have f2_3 := D2.out _ hB3; have f3_3 := D3.out _ hB3; have f4_3 := D4.out _ hB3; skip) | (go_at_call 102; refine (Rl0.out _ hB1).mono ?_; rintro e w2 ⟨rfl, hb⟩; have hB2 := bl_tr hB1 hb; clear hb; refine (outc_cases (Nd.errF (Nd.err 7) l0)).elim (fun ⟨hz, he⟩ => ?_) (fun ⟨hz, he⟩ => by rw [he]; exact ⟨rfl, (by rw [HE2.out, Nd.firstE_ne hz]; exact he.symm), hB2⟩); rw [he]; have HE3 := HE2.out.trans (Nd.firstE_zero hz); replace HE3 : Hid ((Nd.err 6) (.mk [.int 3, .strs p] [l0, l1, l2]) = Nd.firstE (Nd.errF (Nd.err 6) l1) (Nd.errF (Nd.err 0) l2)) := HE3; clear HE2 hz he; have f0_2 := D0.out _ hB2; have f1_2 := D1.out _ hB2; have f2_2 := D2.out _ hB2; have f3_2 := D3.out _ hB2; have f4_2 := D4.out _ hB2; skip) | (go_at_call 77; refine (pathed_any _ p _ (TX.out _ hB1) hpx hpl 78 Nm.lower sort_lower).mono ?_; rintro e w2 ⟨rfl, hw⟩; rw [hw]; clear hw w2; refine (outc_cases (Nd.pathE p Nm.lower)).elim (fun ⟨hz, he⟩ => ?_) (fun ⟨hz, he⟩ => by rw [he]; exact ⟨rfl, (by rw [HE1.out, Nd.firstE_ne hz]; exact he.symm), hB1⟩); rw [he]; have HE2 := HE1.out.trans (Nd.firstE_zero hz); replace HE2 : Hid ((Nd.err 6) (.mk [.int 3, .strs p] [l0, l1, l2]) = Nd.firstE (Nd.errF (Nd.err 7) l0) (Nd.firstE (Nd.errF (Nd.err 6) l1) (Nd.errF (Nd.err 0) l2))) := HE2; clear HE1 hz he) | (go_at_call 76; refine (fit_any { path := (p.length : Int), tys := (l2.length : Int), sigs := (l1.length : Int), specs := (l0.length : Int) } { path := (p.length : Int), tys := 1, sigs := 1 } _).mono ?_; rintro e w1 ⟨rfl, hb1⟩; have hB1 : Below w.heap.size w w1 := (by refine bl_tr ?_ hb1; first | exact (bl_alloc (Below.refl _ _) _).drew | exact bl_alloc (Below.refl _ _) _ | exact bl_alloc (Below.refl _ _).drew _); clear hb1; refine (outc_cases (Nd.fitE { path := (p.length : Int), tys := (l2.length : Int), sigs := (l1.length : Int), specs := (l0.length : Int) } { path := (p.length : Int), tys := 1, sigs := 1 })).elim (fun ⟨hz, he⟩ => ?_) (fun ⟨hz, he⟩ => by rw [he]; exact ⟨rfl, (by rw [HE0.out, Nd.firstE_ne hz]; exact he.symm), hB1⟩); rw [he]; have HE1 := HE0.out.trans (Nd.firstE_zero hz); replace HE1 : Hid ((Nd.err 6) (.mk [.int 3, .strs p] [l0, l1, l2]) = Nd.firstE (Nd.pathE p Nm.lower) (Nd.firstE (Nd.errF (Nd.err 7) l0) (Nd.firstE (Nd.errF (Nd.err 6) l1) (Nd.errF (Nd.err 0) l2)))) := HE1; clear HE0 hz he; have f0_1 := D0.out _ hB1; have f1_1 := D1.out _ hB1; have f2_1 := D2.out _ hB1; have f3_1 := D3.out _ hB1; have f4_1 := D4.out _ hB1; skip))
  first | go_end0 | refine bodyPost_ret (results_none rfl _ _ _) rfl ?_
  exact ⟨HE5.out.symm, hB4⟩
 have HE : Hid (outc ((Nd.err 6) (.mk [.int k, .strs p] [l0, l1, l2])) = .panicked [{ v := .iface 29 (.int .i64 1), recovered := false }]) := by
  show _ = _
  rw [Nd.err, show Nd.own 6 [.int k, .strs p] [l0, l1, l2] = Nd.ownSig k p l0 l1 l2 from rfl]
  rw [Nd.ownSig, if_neg (by omega), if_neg (by omega), if_neg (by omega), Nd.firstE_ne (by decide)]
  exact outc_err (by decide)
 replace hk1 : (k == 1) = false := by rw [beq_eq_false_iff_ne]; exact hk1
 replace hk2 : (k == 2) = false := by rw [beq_eq_false_iff_ne]; exact hk2
 replace hk3 : (k == 3) = false := by rw [beq_eq_false_iff_ne]; exact hk3
 go_wp2
 exact ⟨rfl, HE.out.symm, (by first | exact (bl_alloc (Below.refl _ _) _).drew | exact bl_alloc (Below.refl _ _) _ | exact bl_alloc (Below.refl _ _).drew _)⟩

set_option maxRecDepth 100000 in
theorem inLet_any (n : Nat) : ErrOf 80 Nd.letE n 3 := by
 intro w b o vs nd hb hc ha
 cases n with
 | zero => exact ha.elim
 | succ n =>
  obtain ⟨k, pl, s, vp, p, v0, l0, v1, l1, v2, l2, v3, l3, v4, l4, rfl, rfl, -⟩ := At.dec ha
  have hp := pn_any
  have d0 : w.cell? ⟨b, o, none⟩ = some (.int .i64 k) := hc 0 _ rfl
  clear hc ha
  by_cases h1 : k = 1
  ·
   subst h1
   go_enter Tryz.func80, Tryz.ntmps80
   go_wp2
   go_end0
   exact ⟨rfl, Below.refl _ _⟩
  ·
   by_cases h2 : k = 2
   ·
    subst h2
    go_enter Tryz.func80, Tryz.ntmps80
    go_wp2
    go_end0
    exact ⟨rfl, Below.refl _ _⟩
   ·
    have H : Hid (outc (Nd.letE (.mk [.int k, .int 0, .str s, .strs p] [l0, l1, l2, l3, l4])) = .panicked [{ v := .iface 29 (.int .i64 1), recovered := false }]) := by
     show outc (if k = 1 ∨ k = 2 then 0 else 1) = _
     rw [if_neg (by omega)]
     exact outc_err (by decide)
    have e1 : (k != 1) = true := by rw [bne_iff_ne]; exact h1
    have e2 : (k != 2) = true := by rw [bne_iff_ne]; exact h2
    clear h1 h2
    go_enter Tryz.func80, Tryz.ntmps80
    go_wp2
    exact ⟨rfl, H.out.symm, Below.refl _ _⟩

set_option maxHeartbeats 2000000 in
set_option maxRecDepth 100000 in
theorem right2 (n : Nat) (qo : ErrOf 51 (Nd.ownN 2) (n + 1) 2) (q1 : ErrLOf 43 52 (Nd.err 1) n 1) (q2 : ErrLOf 45 21 (Nd.err 2) n 2) (q3 : ErrLOf 46 53 (Nd.err 3) n 3) (q0 : ErrLOf 48 54 (Nd.err 0) n 0) : ErrOf 21 (Nd.err 2) (n + 1) 2 := by
 intro w b o vs nd hb hc ha
 have Q := qo w b o vs nd hb hc ha
 obtain ⟨k, op, m, vp, p, vl0, l0, vl1, l1, vl2, l2, vl3, l3, rfl, rfl, -, -, -, -, kl0, kl1, kl2, kl3⟩ := At.exp ha
 clear ha qo
 have Rl0 : Hid (∀ w', Below w.heap.size w w' → Calls Tryz.prog 43 #[vl0, .func (.func 52) #[] #[]] w' fun e w'' => e = outc (Nd.errF (Nd.err 1) l0) ∧ Below w'.heap.size w' w'') := fun w' h' => q1 w' vl0 l0 (kl0.below h')
 have Dl0 : Hid (∀ w', Below w.heap.size w w' → w'.cell? ⟨b, o + 4, none⟩ = some vl0) := fun w' h' => (h'.cell hb).trans (hc 4 _ rfl)
 have Rl1 : Hid (∀ w', Below w.heap.size w w' → Calls Tryz.prog 45 #[vl1, .func (.func 21) #[] #[]] w' fun e w'' => e = outc (Nd.errF (Nd.err 2) l1) ∧ Below w'.heap.size w' w'') := fun w' h' => q2 w' vl1 l1 (kl1.below h')
 have Dl1 : Hid (∀ w', Below w.heap.size w w' → w'.cell? ⟨b, o + 5, none⟩ = some vl1) := fun w' h' => (h'.cell hb).trans (hc 5 _ rfl)
 have Rl2 : Hid (∀ w', Below w.heap.size w w' → Calls Tryz.prog 46 #[vl2, .func (.func 53) #[] #[]] w' fun e w'' => e = outc (Nd.errF (Nd.err 3) l2) ∧ Below w'.heap.size w' w'') := fun w' h' => q3 w' vl2 l2 (kl2.below h')
 have Dl2 : Hid (∀ w', Below w.heap.size w w' → w'.cell? ⟨b, o + 6, none⟩ = some vl2) := fun w' h' => (h'.cell hb).trans (hc 6 _ rfl)
 have Rl3 : Hid (∀ w', Below w.heap.size w w' → Calls Tryz.prog 48 #[vl3, .func (.func 54) #[] #[]] w' fun e w'' => e = outc (Nd.errF (Nd.err 0) l3) ∧ Below w'.heap.size w' w'') := fun w' h' => q0 w' vl3 l3 (kl3.below h')
 have Dl3 : Hid (∀ w', Below w.heap.size w w' → w'.cell? ⟨b, o + 7, none⟩ = some vl3) := fun w' h' => (h'.cell hb).trans (hc 7 _ rfl)
 clear hc kl0 kl1 kl2 kl3 q1 q2 q3 q0
 have HE0 : Hid (Nd.err 2 (.mk [.int k, .int op, .int m, .strs p] [l0, l1, l2, l3]) = Nd.firstE (Nd.ownN 2 (.mk [.int k, .int op, .int m, .strs p] [l0, l1, l2, l3])) (Nd.firstE (Nd.errF (Nd.err 1) l0) (Nd.firstE (Nd.errF (Nd.err 2) l1) (Nd.firstE (Nd.errF (Nd.err 3) l2) (Nd.errF (Nd.err 0) l3))))) := by
  show _ = _
  rw [Nd.err]
  simp only [Nd.subs, Nd.errLL, Nd.errL_eq, Nd.firstE_right]
  rfl
 go_enter Tryz.func21, Tryz.ntmps21
 go_wp2_with (first | (go_at_call 48; refine (Rl3.out _ hB4).mono ?_; rintro e w5 ⟨rfl, hb5⟩; have hB5 := bl_tr hB4 hb5; clear hb5; refine (outc_cases (Nd.errF (Nd.err 0) l3)).elim (fun ⟨hz, he⟩ => ?_) (fun ⟨hz, he⟩ => by rw [he]; exact ⟨rfl, (by rw [HE4.out]; exact he.symm), hB5⟩); rw [he]; have HE5 : Hid (outc (Nd.err 2 (.mk [.int k, .int op, .int m, .strs p] [l0, l1, l2, l3])) = .returned (.tuple #[])) := (by show _ = _; rw [HE4.out]; exact he); clear HE4 hz he) | (go_at_call 46; refine (Rl2.out _ hB3).mono ?_; rintro e w4 ⟨rfl, hb4⟩; have hB4 := bl_tr hB3 hb4; clear hb4; refine (outc_cases (Nd.errF (Nd.err 3) l2)).elim (fun ⟨hz, he⟩ => ?_) (fun ⟨hz, he⟩ => by rw [he]; exact ⟨rfl, (by rw [HE3.out, Nd.firstE_ne hz]; exact he.symm), hB4⟩); rw [he]; have HE4 : Hid (Nd.err 2 (.mk [.int k, .int op, .int m, .strs p] [l0, l1, l2, l3]) = Nd.errF (Nd.err 0) l3) := HE3.out.trans (Nd.firstE_zero hz); clear HE3 hz he; have f3 := Dl3.out _ hB4) | (go_at_call 45; refine (Rl1.out _ hB2).mono ?_; rintro e w3 ⟨rfl, hb3⟩; have hB3 := bl_tr hB2 hb3; clear hb3; refine (outc_cases (Nd.errF (Nd.err 2) l1)).elim (fun ⟨hz, he⟩ => ?_) (fun ⟨hz, he⟩ => by rw [he]; exact ⟨rfl, (by rw [HE2.out, Nd.firstE_ne hz]; exact he.symm), hB3⟩); rw [he]; have HE3 : Hid (Nd.err 2 (.mk [.int k, .int op, .int m, .strs p] [l0, l1, l2, l3]) = Nd.firstE (Nd.errF (Nd.err 3) l2) (Nd.errF (Nd.err 0) l3)) := HE2.out.trans (Nd.firstE_zero hz); clear HE2 hz he; have f2 := Dl2.out _ hB3) | (go_at_call 43; refine (Rl0.out _ hB1).mono ?_; rintro e w2 ⟨rfl, hb2⟩; have hB2 := bl_tr hB1 hb2; clear hb2; refine (outc_cases (Nd.errF (Nd.err 1) l0)).elim (fun ⟨hz, he⟩ => ?_) (fun ⟨hz, he⟩ => by rw [he]; exact ⟨rfl, (by rw [HE1.out, Nd.firstE_ne hz]; exact he.symm), hB2⟩); rw [he]; have HE2 : Hid (Nd.err 2 (.mk [.int k, .int op, .int m, .strs p] [l0, l1, l2, l3]) = Nd.firstE (Nd.errF (Nd.err 2) l1) (Nd.firstE (Nd.errF (Nd.err 3) l2) (Nd.errF (Nd.err 0) l3))) := HE1.out.trans (Nd.firstE_zero hz); clear HE1 hz he; have f1 := Dl1.out _ hB2) | (go_at_call 51; refine Q.mono ?_; rintro e w1 ⟨rfl, hB1⟩; refine (outc_cases (Nd.ownN 2 (.mk [.int k, .int op, .int m, .strs p] [l0, l1, l2, l3]))).elim (fun ⟨hz, he⟩ => ?_) (fun ⟨hz, he⟩ => by rw [he]; exact ⟨rfl, (by rw [HE0.out, Nd.firstE_ne hz]; exact he.symm), hB1⟩); rw [he]; have HE1 : Hid (Nd.err 2 (.mk [.int k, .int op, .int m, .strs p] [l0, l1, l2, l3]) = Nd.firstE (Nd.errF (Nd.err 1) l0) (Nd.firstE (Nd.errF (Nd.err 2) l1) (Nd.firstE (Nd.errF (Nd.err 3) l2) (Nd.errF (Nd.err 0) l3)))) := HE0.out.trans (Nd.firstE_zero hz); clear HE0 hz he; have f0 := Dl0.out _ hB1))
 go_end0
 exact ⟨HE5.out.symm, hB5⟩

set_option maxHeartbeats 2000000 in
set_option maxRecDepth 100000 in
theorem right3 (n : Nat) (qo : ErrOf 82 (Nd.ownN 3) (n + 1) 3) (q0 : ErrLOf 48 54 (Nd.err 0) n 0) (q2 : ErrLOf 45 21 (Nd.err 2) n 2) (q4 : ErrLOf 70 83 (Nd.err 4) n 4) (q5 : ErrLOf 72 84 (Nd.err 5) n 5) (q6 : ErrLOf 74 85 (Nd.err 6) n 6) : ErrOf 53 (Nd.err 3) (n + 1) 3 := by
 intro w b o vs nd hb hc ha
 have Q := qo w b o vs nd hb hc ha
 obtain ⟨k, pl, s, vp, p, vl0, l0, vl1, l1, vl2, l2, vl3, l3, vl4, l4, rfl, rfl, -, -, -, -, kl0, kl1, kl2, kl3, kl4⟩ := At.dec ha
 clear ha qo
 have Rl0 : Hid (∀ w', Below w.heap.size w w' → Calls Tryz.prog 48 #[vl0, .func (.func 54) #[] #[]] w' fun e w'' => e = outc (Nd.errF (Nd.err 0) l0) ∧ Below w'.heap.size w' w'') := fun w' h' => q0 w' vl0 l0 (kl0.below h')
 have Dl0 : Hid (∀ w', Below w.heap.size w w' → w'.cell? ⟨b, o + 4, none⟩ = some vl0) := fun w' h' => (h'.cell hb).trans (hc 4 _ rfl)
 have Rl1 : Hid (∀ w', Below w.heap.size w w' → Calls Tryz.prog 45 #[vl1, .func (.func 21) #[] #[]] w' fun e w'' => e = outc (Nd.errF (Nd.err 2) l1) ∧ Below w'.heap.size w' w'') := fun w' h' => q2 w' vl1 l1 (kl1.below h')
 have Dl1 : Hid (∀ w', Below w.heap.size w w' → w'.cell? ⟨b, o + 5, none⟩ = some vl1) := fun w' h' => (h'.cell hb).trans (hc 5 _ rfl)
 have Rl2 : Hid (∀ w', Below w.heap.size w w' → Calls Tryz.prog 70 #[vl2, .func (.func 83) #[] #[]] w' fun e w'' => e = outc (Nd.errF (Nd.err 4) l2) ∧ Below w'.heap.size w' w'') := fun w' h' => q4 w' vl2 l2 (kl2.below h')
 have Dl2 : Hid (∀ w', Below w.heap.size w w' → w'.cell? ⟨b, o + 6, none⟩ = some vl2) := fun w' h' => (h'.cell hb).trans (hc 6 _ rfl)
 have Rl3 : Hid (∀ w', Below w.heap.size w w' → Calls Tryz.prog 72 #[vl3, .func (.func 84) #[] #[]] w' fun e w'' => e = outc (Nd.errF (Nd.err 5) l3) ∧ Below w'.heap.size w' w'') := fun w' h' => q5 w' vl3 l3 (kl3.below h')
 have Dl3 : Hid (∀ w', Below w.heap.size w w' → w'.cell? ⟨b, o + 7, none⟩ = some vl3) := fun w' h' => (h'.cell hb).trans (hc 7 _ rfl)
 have Rl4 : Hid (∀ w', Below w.heap.size w w' → Calls Tryz.prog 74 #[vl4, .func (.func 85) #[] #[]] w' fun e w'' => e = outc (Nd.errF (Nd.err 6) l4) ∧ Below w'.heap.size w' w'') := fun w' h' => q6 w' vl4 l4 (kl4.below h')
 have Dl4 : Hid (∀ w', Below w.heap.size w w' → w'.cell? ⟨b, o + 8, none⟩ = some vl4) := fun w' h' => (h'.cell hb).trans (hc 8 _ rfl)
 clear hc kl0 kl1 kl2 kl3 kl4 q0 q2 q4 q5 q6
 have HE0 : Hid (Nd.err 3 (.mk [.int k, .int 0, .str s, .strs p] [l0, l1, l2, l3, l4]) = Nd.firstE (Nd.ownN 3 (.mk [.int k, .int 0, .str s, .strs p] [l0, l1, l2, l3, l4])) (Nd.firstE (Nd.errF (Nd.err 0) l0) (Nd.firstE (Nd.errF (Nd.err 2) l1) (Nd.firstE (Nd.errF (Nd.err 4) l2) (Nd.firstE (Nd.errF (Nd.err 5) l3) (Nd.errF (Nd.err 6) l4)))))) := by
  show _ = _
  rw [Nd.err]
  simp only [Nd.subs, Nd.errLL, Nd.errL_eq, Nd.firstE_right]
  rfl
 go_enter Tryz.func53, Tryz.ntmps53
 go_wp2_with (first | (go_at_call 74; refine (Rl4.out _ hB5).mono ?_; rintro e w6 ⟨rfl, hb6⟩; have hB6 := bl_tr hB5 hb6; clear hb6; refine (outc_cases (Nd.errF (Nd.err 6) l4)).elim (fun ⟨hz, he⟩ => ?_) (fun ⟨hz, he⟩ => by rw [he]; exact ⟨rfl, (by rw [HE5.out]; exact he.symm), hB6⟩); rw [he]; have HE6 : Hid (outc (Nd.err 3 (.mk [.int k, .int 0, .str s, .strs p] [l0, l1, l2, l3, l4])) = .returned (.tuple #[])) := (by show _ = _; rw [HE5.out]; exact he); clear HE5 hz he) | (go_at_call 72; refine (Rl3.out _ hB4).mono ?_; rintro e w5 ⟨rfl, hb5⟩; have hB5 := bl_tr hB4 hb5; clear hb5; refine (outc_cases (Nd.errF (Nd.err 5) l3)).elim (fun ⟨hz, he⟩ => ?_) (fun ⟨hz, he⟩ => by rw [he]; exact ⟨rfl, (by rw [HE4.out, Nd.firstE_ne hz]; exact he.symm), hB5⟩); rw [he]; have HE5 : Hid (Nd.err 3 (.mk [.int k, .int 0, .str s, .strs p] [l0, l1, l2, l3, l4]) = Nd.errF (Nd.err 6) l4) := HE4.out.trans (Nd.firstE_zero hz); clear HE4 hz he; have f4 := Dl4.out _ hB5) | (go_at_call 70; refine (Rl2.out _ hB3).mono ?_; rintro e w4 ⟨rfl, hb4⟩; have hB4 := bl_tr hB3 hb4; clear hb4; refine (outc_cases (Nd.errF (Nd.err 4) l2)).elim (fun ⟨hz, he⟩ => ?_) (fun ⟨hz, he⟩ => by rw [he]; exact ⟨rfl, (by rw [HE3.out, Nd.firstE_ne hz]; exact he.symm), hB4⟩); rw [he]; have HE4 : Hid (Nd.err 3 (.mk [.int k, .int 0, .str s, .strs p] [l0, l1, l2, l3, l4]) = Nd.firstE (Nd.errF (Nd.err 5) l3) (Nd.errF (Nd.err 6) l4)) := HE3.out.trans (Nd.firstE_zero hz); clear HE3 hz he; have f3 := Dl3.out _ hB4) | (go_at_call 45; refine (Rl1.out _ hB2).mono ?_; rintro e w3 ⟨rfl, hb3⟩; have hB3 := bl_tr hB2 hb3; clear hb3; refine (outc_cases (Nd.errF (Nd.err 2) l1)).elim (fun ⟨hz, he⟩ => ?_) (fun ⟨hz, he⟩ => by rw [he]; exact ⟨rfl, (by rw [HE2.out, Nd.firstE_ne hz]; exact he.symm), hB3⟩); rw [he]; have HE3 : Hid (Nd.err 3 (.mk [.int k, .int 0, .str s, .strs p] [l0, l1, l2, l3, l4]) = Nd.firstE (Nd.errF (Nd.err 4) l2) (Nd.firstE (Nd.errF (Nd.err 5) l3) (Nd.errF (Nd.err 6) l4))) := HE2.out.trans (Nd.firstE_zero hz); clear HE2 hz he; have f2 := Dl2.out _ hB3) | (go_at_call 48; refine (Rl0.out _ hB1).mono ?_; rintro e w2 ⟨rfl, hb2⟩; have hB2 := bl_tr hB1 hb2; clear hb2; refine (outc_cases (Nd.errF (Nd.err 0) l0)).elim (fun ⟨hz, he⟩ => ?_) (fun ⟨hz, he⟩ => by rw [he]; exact ⟨rfl, (by rw [HE1.out, Nd.firstE_ne hz]; exact he.symm), hB2⟩); rw [he]; have HE2 : Hid (Nd.err 3 (.mk [.int k, .int 0, .str s, .strs p] [l0, l1, l2, l3, l4]) = Nd.firstE (Nd.errF (Nd.err 2) l1) (Nd.firstE (Nd.errF (Nd.err 4) l2) (Nd.firstE (Nd.errF (Nd.err 5) l3) (Nd.errF (Nd.err 6) l4)))) := HE1.out.trans (Nd.firstE_zero hz); clear HE1 hz he; have f1 := Dl1.out _ hB2) | (go_at_call 82; refine Q.mono ?_; rintro e w1 ⟨rfl, hB1⟩; refine (outc_cases (Nd.ownN 3 (.mk [.int k, .int 0, .str s, .strs p] [l0, l1, l2, l3, l4]))).elim (fun ⟨hz, he⟩ => ?_) (fun ⟨hz, he⟩ => by rw [he]; exact ⟨rfl, (by rw [HE0.out, Nd.firstE_ne hz]; exact he.symm), hB1⟩); rw [he]; have HE1 : Hid (Nd.err 3 (.mk [.int k, .int 0, .str s, .strs p] [l0, l1, l2, l3, l4]) = Nd.firstE (Nd.errF (Nd.err 0) l0) (Nd.firstE (Nd.errF (Nd.err 2) l1) (Nd.firstE (Nd.errF (Nd.err 4) l2) (Nd.firstE (Nd.errF (Nd.err 5) l3) (Nd.errF (Nd.err 6) l4))))) := HE0.out.trans (Nd.firstE_zero hz); clear HE0 hz he; have f0 := Dl0.out _ hB1))
 go_end0
 exact ⟨HE6.out.symm, hB6⟩

structure RightAll (n : Nat) : Prop where
 s0 : ErrOf 54 (Nd.err 0) n 0
 s1 : ErrOf 52 (Nd.err 1) n 1
 s2 : ErrOf 21 (Nd.err 2) n 2
 s3 : ErrOf 53 (Nd.err 3) n 3
 s4 : ErrOf 83 (Nd.err 4) n 4
 s5 : ErrOf 84 (Nd.err 5) n 5
 s6 : ErrOf 85 (Nd.err 6) n 6
 s7 : ErrOf 108 (Nd.err 7) n 7
theorem enters_right0 : Enters 54 := enters_of Tryz.func54 (by kernel_rfl) rfl
theorem enters_right1 : Enters 52 := enters_of Tryz.func52 (by kernel_rfl) rfl
theorem enters_right2 : Enters 21 := enters_of Tryz.func21 (by kernel_rfl) rfl
theorem enters_right3 : Enters 53 := enters_of Tryz.func53 (by kernel_rfl) rfl
theorem enters_right4 : Enters 83 := enters_of Tryz.func83 (by kernel_rfl) rfl
theorem enters_right5 : Enters 84 := enters_of Tryz.func84 (by kernel_rfl) rfl
theorem enters_right6 : Enters 85 := enters_of Tryz.func85 (by kernel_rfl) rfl
theorem enters_right7 : Enters 108 := enters_of Tryz.func108 (by kernel_rfl) rfl
theorem enters_inLet : Enters 80 := enters_of Tryz.func80 (by kernel_rfl) rfl
theorem right_all : ∀ n, RightAll n
 | 0 => ⟨fun _ _ _ _ _ _ _ h => h.elim, fun _ _ _ _ _ _ _ h => h.elim, fun _ _ _ _ _ _ _ h => h.elim, fun _ _ _ _ _ _ _ h => h.elim, fun _ _ _ _ _ _ _ h => h.elim, fun _ _ _ _ _ _ _ h => h.elim, fun _ _ _ _ _ _ _ h => h.elim, fun _ _ _ _ _ _ _ h => h.elim⟩
 | n + 1 =>
  have h := right_all n
  have q0 := eachR0 54 (Nd.err 0) n enters_right0 h.s0
  have q1 := eachR1 52 (Nd.err 1) n enters_right1 h.s1
  have q2 := eachR2 21 (Nd.err 2) n enters_right2 h.s2
  have q3 := eachR3 53 (Nd.err 3) n enters_right3 h.s3
  have q4 := eachR4 83 (Nd.err 4) n enters_right4 h.s4
  have q5 := eachR5 84 (Nd.err 5) n enters_right5 h.s5
  have q6 := eachR6 85 (Nd.err 6) n enters_right6 h.s6
  have q7 := eachR7 108 (Nd.err 7) n enters_right7 h.s7
  have qlet := eachR3 80 Nd.letE n enters_inLet (inLet_any n)
  ⟨right0 n q0, right1 n q1, right2 n (own2 n qlet) q1 q2 q3 q0, right3 n (own3 n) q0 q2 q4 q5 q6, right4 n q0, right5 n q3 q5 q6, right6 n q7 q6 q0, right7 n q0 q4 q6⟩
def Nd.rightX (nd : Nd) : Int := if 100 < (nd.run ⟨0, 0, 0⟩).d then 4 else Nd.err 2 nd
theorem Mt.start1 (w : World) : Mt (w.alloc (.cells #[.int .i64 0, .int .i64 0, .int .i64 0] 86)) w.heap.size ⟨0, 0, 0⟩ := by
 refine ⟨?_, ?_, ?_, ?_, ?_, ?_⟩
 all_goals simp [go_sem]

set_option maxHeartbeats 1000000 in
set_option maxRecDepth 100000 in
theorem alone_any (n : Nat) (w : World) (b o : Nat) (vs : List Value) (nd : Nd) (hb : b < w.heap.size) (hc : Cells w b o vs) (ha : At w Any n 2 vs nd) :
  Calls Tryz.prog 19 #[.pointer (some ⟨b, o, none⟩), .func (.func 20) #[] #[], .func (.func 21) #[] #[]] w fun e w' => e = .returned (.int .i64 (Nd.rightX nd)) ∧ Below w.heap.size w w' := by
 have q : Hid (∀ ob, Mt (w.alloc ob) w.heap.size ⟨0, 0, 0⟩ → _) := fun ob hm => (meter_all n).s2 (w.alloc ob) (Old w) w.heap.size ⟨0, 0, 0⟩ b o vs nd (Nat.lt_irrefl _) hb (hc.move trivial (Keeps.of_below (K := Any) (bl_alloc (Below.refl _ _) _))) (At.move (Keeps.of_below (bl_alloc (Below.refl _ _) _)) (fun _ h => h) _ _ _ _ (At.old _ _ _ _ ha)) hm
 have r : Hid (∀ w', Below w.heap.size w w' → _) := fun w' h' => caughtExp n (right_all n).s2 w' b o vs nd (Nat.lt_of_lt_of_le hb h'.size) (hc.move trivial (Keeps.of_below (K := Any) h')) (At.move (Keeps.of_below h') (fun _ h => h) _ _ _ _ ha)
 clear hc ha hb
 by_cases hd : 100 < (nd.run ⟨0, 0, 0⟩).d
 ·
  have H : Hid (Nd.rightX nd = 4) := by show _ = _; unfold Nd.rightX; rw [if_pos hd]
  clear r
  go_enter Tryz.func19, Tryz.ntmps19
  go_wp2_with (go_at_call 20; refine (q.out _ (Mt.start1 _)).mono ?_; rintro e w1 ⟨rfl, hm1, hs1⟩; have m1 := hm1.d; have hB : Hid (Below w.heap.size w w1) := Save.below (bl_alloc (Below.refl _ _) _) hs1 (Nat.le_refl _); clear hm1 hs1)
  go_ret
  exact ⟨ret_int H.out.symm, hB⟩
 ·
  have H : Hid (Nd.rightX nd = Nd.err 2 nd) := by show _ = _; unfold Nd.rightX; rw [if_neg hd]
  go_enter Tryz.func19, Tryz.ntmps19
  go_wp2_with (first | (go_at_call 41; refine (r.out _ hB.out).mono ?_; rintro e w2 ⟨rfl, hb2⟩; have hB2 := bl_tr hB.out hb2) | (go_at_call 20; refine (q.out _ (Mt.start1 _)).mono ?_; rintro e w1 ⟨rfl, hm1, hs1⟩; have m1 := hm1.d; have hB : Hid (Below w.heap.size w w1) := Save.below (bl_alloc (Below.refl _ _) _) hs1 (Nat.le_refl _); clear hm1 hs1))
  go_ret
  exact ⟨ret_int H.out.symm, hB2⟩

set_option maxHeartbeats 1000000 in
set_option maxRecDepth 100000 in
theorem rightExp_any (n : Nat) (w : World) (vs : List Value) (nd : Nd) (ha : At w Any n 2 vs nd) :
  Calls Tryz.prog 9 #[.agg vs.toArray] w fun e w' => e = .returned (.int .i64 (Nd.rightX nd)) ∧ Below w.heap.size w w' := by
 have q : Hid (∀ t, Cells (w.alloc (.cells vs.toArray t)) w.heap.size 0 vs → _) := fun t hc => alone_any n (w.alloc (.cells vs.toArray t)) w.heap.size 0 vs nd (by simp) hc (At.move (Keeps.of_below (bl_alloc (Below.refl _ _) _)) (fun _ h => h) _ _ _ _ ha)
 have hc : ∀ t, Cells (w.alloc (.cells vs.toArray t)) w.heap.size 0 vs := fun t j v hv => by
  rw [World.cell?_alloc_at _ _ _ _ rfl]
  simpa using hv
 obtain ⟨i0, i1, i2, a3, n3, c3, d0, m0, e0, d1, m1, e1, d2, m2, e2, d3, m3, e3, rfl⟩ := At.exp_form ha
 have q2 := q.out _ (hc 28)
 clear q hc ha
 go_enter Tryz.func9, Tryz.ntmps9
 go_wp2_with (go_at_call 19; refine q2.mono ?_; rintro e w1 ⟨rfl, hb1⟩; have hB := bl_tr (bl_alloc (Below.refl _ _) _) hb1)
 go_ret
 exact ⟨rfl, hB⟩

def Nd.deepAt : Nat → List Nd → Option Nat
 | _, [] => none
 | k, x :: r => if 100 < (Nd.meter [x]).d then some k else Nd.deepAt (k + 1) r
def Nd.errAt : Nat → List Nd → Int × Int
 | _, [] => (0, 0)
 | k, x :: r => if Nd.err 3 x = 0 then Nd.errAt (k + 1) r else ((k : Int), Nd.err 3 x)
def Nd.rightL (l : List Nd) : Int × Int := match Nd.deepAt 0 l with
 | some k => ((k : Int), 4)
 | none => if 4096 < (Nd.meter l).a then (0, 3) else Nd.errAt 0 l
theorem Nd.rightL_deep {l : List Nd} {k : Nat} (h : Nd.deepAt 0 l = some k) : Nd.rightL l = ((k : Int), 4) := by unfold Nd.rightL; rw [h]
theorem Nd.rightL_big {l : List Nd} (h : Nd.deepAt 0 l = none) (hb : 4096 < (Nd.meter l).a) : Nd.rightL l = (0, 3) := by unfold Nd.rightL; rw [h]; exact if_pos hb
theorem Nd.rightL_err {l : List Nd} (h : Nd.deepAt 0 l = none) (hb : ¬ 4096 < (Nd.meter l).a) : Nd.rightL l = Nd.errAt 0 l := by unfold Nd.rightL; rw [h]; exact if_neg hb
theorem Nd.deepAt_at {l : List Nd} {k : Nat} {x : Nd} (hx : l[k]? = some x) (j : Nat) : Nd.deepAt j (l.drop k) = if 100 < (Nd.meter [x]).d then some j else Nd.deepAt (j + 1) (l.drop (k + 1)) := by
 obtain ⟨h1, e1⟩ := List.getElem?_eq_some_iff.1 hx
 rw [List.drop_eq_getElem_cons h1, e1, Nd.deepAt]
theorem Nd.errAt_at {l : List Nd} {k : Nat} {x : Nd} (hx : l[k]? = some x) (j : Nat) : Nd.errAt j (l.drop k) = if Nd.err 3 x = 0 then Nd.errAt (j + 1) (l.drop (k + 1)) else ((j : Int), Nd.err 3 x) := by
 obtain ⟨h1, e1⟩ := List.getElem?_eq_some_iff.1 hx
 rw [List.drop_eq_getElem_cons h1, e1, Nd.errAt]
theorem nd_ret_two {a b : Int} {p : Int × Int} (h : p = (a, b)) : Ending.returned (.tuple #[.int .i64 a, .int .i64 b]) = .returned (.tuple #[.int .i64 p.1, .int .i64 p.2]) := by rw [h]
theorem AtL.one {w : World} {n s b o c k : Nat} {l : List Nd} {x : Nd} (hk : ∀ (i : Nat) x, l[i]? = some x → ∃ vs, vs.length = Nd.size s ∧ Cells w b (o + i * Nd.size s) vs ∧ At w Any n s vs x) (hx : l[k]? = some x) (hc : 1 ≤ c) : AtL w Any n s (.slice (some ⟨b, o + k * Nd.size s, none⟩) 1 c) [x] := by
 refine .inl ⟨b, o + k * Nd.size s, c, rfl, trivial, hc, (by rw [List.length_singleton]; unfold maxLen; omega), fun i y hy => ?_⟩
 cases i with
 | zero =>
  obtain rfl : x = y := by simpa using hy
  obtain ⟨vs, h1, h2, h3⟩ := hk k x hx
  exact ⟨vs, h1, by simpa using h2, h3⟩
 | succ i => simp at hy
def Al.one : Nd := .mk [.int 1, .int 0, .int 1, .strs []] [[], [], [], []]
def Al.pair : Nd := .mk [.int 9, .int 0, .int 0, .strs []] [[], [Al.one, Al.one], [], []]
def Al.dec : Nd := .mk [.int 1, .int 0, .str ⟨#[120]⟩, .strs []] [[], [Al.pair], [], [], []]
def Al.fn : Nd := .mk [.int 7, .int 0, .int 0, .strs []] [[], [], [], []]
def Al.var : Nd := .mk [.int 5, .int 0, .int 0, .strs [⟨#[65]⟩]] [[], [], [], []]
theorem Al.r0 : Nd.rightL [Al.dec] = (0, 0) := by kernel_rfl
theorem Al.r1 : (Nd.meter [Al.dec]).a = 4 := by kernel_rfl
theorem Al.r2 : (Nd.meter [Al.dec]).d = 3 := by kernel_rfl
theorem Al.r3 : Nd.rightX Al.fn = 1 := by kernel_rfl
theorem Al.r4 : Nd.rightX Al.var = 12 := by kernel_rfl

theorem AtL.none (W : World) (n s : Nat) (p : Option Addr) (c : Nat) : AtL W Any n s (.slice p 0 c) [] := .inr ⟨rfl, p, c, rfl⟩
theorem Tx.none (W : World) (p : Option Addr) (c : Nat) : Tx W Any (.slice p 0 c) [] := .inr ⟨rfl, p, c, rfl⟩
theorem AtL.made {W : World} {n s : Nat} {arr : List Value} {t : TypeId} {l : List Nd} {m : Nat} (hm : l.length = m) (hl : m ≤ maxLen) (h : ∀ (i : Nat) x, l[i]? = some x → ∃ vs, vs.length = Nd.size s ∧ (∀ (j : Nat) v, vs[j]? = some v → arr[i * Nd.size s + j]? = some v) ∧ At W Any n s vs x) :
  AtL (W.alloc (.cells arr.toArray t)) Any n s (.slice (some ⟨W.heap.size, 0, .none⟩) m m) l := by
 subst hm
 refine .inl ⟨W.heap.size, 0, l.length, rfl, trivial, Nat.le_refl _, hl, fun i x hx => ?_⟩
 obtain ⟨vs, h1, h2, h3⟩ := h i x hx
 refine ⟨vs, h1, fun j v hv => ?_, At.move (Keeps.of_below (bl_alloc (Below.refl _ _) _)) (fun _ h => h) _ _ _ _ h3⟩
 rw [World.cell?_alloc_at _ _ _ _ rfl]
 have := h2 j v hv
 simpa using this
theorem Al.i64 : (-9223372036854775808 : Int) ≤ 0 ∧ (0 : Int) ≤ 9223372036854775807 := by decide
theorem Al.at_one (W : World) : At W Any 1 2 [.int .i64 1, .int .i64 0, .int .i64 1, .slice .none 0 0, .slice .none 0 0, .slice .none 0 0, .slice .none 0 0, .slice .none 0 0] Al.one :=
 At.exp_mk (by decide) (by decide) (by decide) (Tx.none _ _ _) (fun _ h => by cases h) (Nat.zero_le _) (AtL.none _ _ _ _ _) (AtL.none _ _ _ _ _) (AtL.none _ _ _ _ _) (AtL.none _ _ _ _ _)
theorem Al.at_fn (W : World) : At W Any 1 2 [.int .i64 7, .int .i64 0, .int .i64 0, .slice .none 0 0, .slice .none 0 0, .slice .none 0 0, .slice .none 0 0, .slice .none 0 0] Al.fn :=
 At.exp_mk (by decide) (by decide) (by decide) (Tx.none _ _ _) (fun _ h => by cases h) (Nat.zero_le _) (AtL.none _ _ _ _ _) (AtL.none _ _ _ _ _) (AtL.none _ _ _ _ _) (AtL.none _ _ _ _ _)
theorem Al.at_var (W : World) (b : Nat) (hc : W.cell? ⟨b, 0, .none⟩ = some (.string ⟨#[65]⟩)) : At W Any 1 2 [.int .i64 5, .int .i64 0, .int .i64 0, .slice (some ⟨b, 0, .none⟩) 1 1, .slice .none 0 0, .slice .none 0 0, .slice .none 0 0, .slice .none 0 0] Al.var :=
 At.exp_mk (by decide) (by decide) (by decide) (.inl ⟨b, 0, 1, rfl, trivial, Nat.le_refl _, fun j x hx => by
  cases j with
  | zero =>
   obtain rfl : (⟨#[65]⟩ : ByteArray) = x := by simpa using hx
   exact hc
  | succ j => simp at hx⟩) (fun x h => by
   obtain rfl : x = (⟨#[65]⟩ : ByteArray) := by simpa using h
   decide) (by decide) (AtL.none _ _ _ _ _) (AtL.none _ _ _ _ _) (AtL.none _ _ _ _ _) (AtL.none _ _ _ _ _)
theorem Al.list2 (W : World) (t : TypeId) : AtL (W.alloc (.cells [.int .i64 1, .int .i64 0, .int .i64 1, .slice .none 0 0, .slice .none 0 0, .slice .none 0 0, .slice .none 0 0, .slice .none 0 0, .int .i64 1, .int .i64 0, .int .i64 1, .slice .none 0 0, .slice .none 0 0, .slice .none 0 0, .slice .none 0 0, .slice .none 0 0].toArray t)) Any 1 2 (.slice (some ⟨W.heap.size, 0, .none⟩) 2 2) [Al.one, Al.one] := by
 refine AtL.made rfl (by decide) fun i x hx => ?_
 match i, hx with
 | 0, hx =>
  obtain rfl : Al.one = x := by simpa using hx
  exact ⟨_, rfl, fun j v hv => by
   obtain ⟨h1, h2⟩ := List.getElem?_eq_some_iff.1 hv
   subst h2
   have h8 : j < 8 := h1
   match j, h8 with
   | 0, _ => rfl
   | 1, _ => rfl
   | 2, _ => rfl
   | 3, _ => rfl
   | 4, _ => rfl
   | 5, _ => rfl
   | 6, _ => rfl
   | 7, _ => rfl, Al.at_one W⟩
 | 1, hx =>
  obtain rfl : Al.one = x := by simpa using hx
  exact ⟨_, rfl, fun j v hv => by
   obtain ⟨h1, h2⟩ := List.getElem?_eq_some_iff.1 hv
   subst h2
   have h8 : j < 8 := h1
   match j, h8 with
   | 0, _ => rfl
   | 1, _ => rfl
   | 2, _ => rfl
   | 3, _ => rfl
   | 4, _ => rfl
   | 5, _ => rfl
   | 6, _ => rfl
   | 7, _ => rfl, Al.at_one W⟩
 | i + 2, hx => simp at hx
theorem AtL.made1 {W : World} {n s : Nat} {vs : List Value} {t : TypeId} {x : Nd} (hl : vs.length = Nd.size s) (h : At W Any n s vs x) : AtL (W.alloc (.cells vs.toArray t)) Any n s (.slice (some ⟨W.heap.size, 0, .none⟩) 1 1) [x] := by
 refine AtL.made rfl (by decide) fun i y hy => ?_
 cases i with
 | zero =>
  obtain rfl : x = y := by simpa using hy
  exact ⟨vs, hl, fun j v hv => by simpa using hv, h⟩
 | succ i => simp at hy



theorem AtL.zero {w : World} {s : Nat} {v : Value} {l : List Nd} (h : AtL w Any 0 s v l) : l = [] := by
 rcases h with ⟨b, o, c, -, -, -, -, hk⟩ | ⟨h, -⟩
 ·
  cases l with
  | nil => rfl
  | cons x r => obtain ⟨vs, -, -, h⟩ := hk 0 x rfl; exact h.elim
 ·
  exact h

theorem refBase0 : RefSameOf 28 0 0 := by
 intro w v1 v2 xs ys h1 h2
 obtain rfl := h1.zero
 obtain rfl := h2.zero
 obtain ⟨a1, c1, rfl, -⟩ := h1.form
 obtain ⟨a2, c2, rfl, -⟩ := h2.form
 clear h1 h2
 go_enter Tryz.func28, Tryz.ntmps28
 go_wp2
 go_loopw [5] (fun v wr => v = .int .i64 0 ∧ wr = w) (fun _ _ => 0)
 case atStart => exact ⟨rfl, rfl⟩
 case round =>
  obtain ⟨rfl, rfl⟩ := hrel
  go_wp2
  go_ret
  exact ⟨ret_bool Nd.eqL_nil.symm, Below.refl _ _⟩

theorem refBase1 : RefSameOf 26 0 1 := by
 intro w v1 v2 xs ys h1 h2
 obtain rfl := h1.zero
 obtain rfl := h2.zero
 obtain ⟨a1, c1, rfl, -⟩ := h1.form
 obtain ⟨a2, c2, rfl, -⟩ := h2.form
 clear h1 h2
 go_enter Tryz.func26, Tryz.ntmps26
 go_wp2
 go_loopw [5] (fun v wr => v = .int .i64 0 ∧ wr = w) (fun _ _ => 0)
 case atStart => exact ⟨rfl, rfl⟩
 case round =>
  obtain ⟨rfl, rfl⟩ := hrel
  go_wp2
  go_ret
  exact ⟨ret_bool Nd.eqL_nil.symm, Below.refl _ _⟩

theorem refBase2 : RefSameOf 11 0 2 := by
 intro w v1 v2 xs ys h1 h2
 obtain rfl := h1.zero
 obtain rfl := h2.zero
 obtain ⟨a1, c1, rfl, -⟩ := h1.form
 obtain ⟨a2, c2, rfl, -⟩ := h2.form
 clear h1 h2
 go_enter Tryz.func11, Tryz.ntmps11
 go_wp2
 go_loopw [5] (fun v wr => v = .int .i64 0 ∧ wr = w) (fun _ _ => 0)
 case atStart => exact ⟨rfl, rfl⟩
 case round =>
  obtain ⟨rfl, rfl⟩ := hrel
  go_wp2
  go_ret
  exact ⟨ret_bool Nd.eqL_nil.symm, Below.refl _ _⟩

theorem refBase3 : RefSameOf 27 0 3 := by
 intro w v1 v2 xs ys h1 h2
 obtain rfl := h1.zero
 obtain rfl := h2.zero
 obtain ⟨a1, c1, rfl, -⟩ := h1.form
 obtain ⟨a2, c2, rfl, -⟩ := h2.form
 clear h1 h2
 go_enter Tryz.func27, Tryz.ntmps27
 go_wp2
 go_loopw [5] (fun v wr => v = .int .i64 0 ∧ wr = w) (fun _ _ => 0)
 case atStart => exact ⟨rfl, rfl⟩
 case round =>
  obtain ⟨rfl, rfl⟩ := hrel
  go_wp2
  go_ret
  exact ⟨ret_bool Nd.eqL_nil.symm, Below.refl _ _⟩

theorem refBase4 : RefSameOf 58 0 4 := by
 intro w v1 v2 xs ys h1 h2
 obtain rfl := h1.zero
 obtain rfl := h2.zero
 obtain ⟨a1, c1, rfl, -⟩ := h1.form
 obtain ⟨a2, c2, rfl, -⟩ := h2.form
 clear h1 h2
 go_enter Tryz.func58, Tryz.ntmps58
 go_wp2
 go_loopw [5] (fun v wr => v = .int .i64 0 ∧ wr = w) (fun _ _ => 0)
 case atStart => exact ⟨rfl, rfl⟩
 case round =>
  obtain ⟨rfl, rfl⟩ := hrel
  go_wp2
  go_ret
  exact ⟨ret_bool Nd.eqL_nil.symm, Below.refl _ _⟩

theorem refBase5 : RefSameOf 59 0 5 := by
 intro w v1 v2 xs ys h1 h2
 obtain rfl := h1.zero
 obtain rfl := h2.zero
 obtain ⟨a1, c1, rfl, -⟩ := h1.form
 obtain ⟨a2, c2, rfl, -⟩ := h2.form
 clear h1 h2
 go_enter Tryz.func59, Tryz.ntmps59
 go_wp2
 go_loopw [5] (fun v wr => v = .int .i64 0 ∧ wr = w) (fun _ _ => 0)
 case atStart => exact ⟨rfl, rfl⟩
 case round =>
  obtain ⟨rfl, rfl⟩ := hrel
  go_wp2
  go_ret
  exact ⟨ret_bool Nd.eqL_nil.symm, Below.refl _ _⟩

theorem refBase6 : RefSameOf 60 0 6 := by
 intro w v1 v2 xs ys h1 h2
 obtain rfl := h1.zero
 obtain rfl := h2.zero
 obtain ⟨a1, c1, rfl, -⟩ := h1.form
 obtain ⟨a2, c2, rfl, -⟩ := h2.form
 clear h1 h2
 go_enter Tryz.func60, Tryz.ntmps60
 go_wp2
 go_loopw [5] (fun v wr => v = .int .i64 0 ∧ wr = w) (fun _ _ => 0)
 case atStart => exact ⟨rfl, rfl⟩
 case round =>
  obtain ⟨rfl, rfl⟩ := hrel
  go_wp2
  go_ret
  exact ⟨ret_bool Nd.eqL_nil.symm, Below.refl _ _⟩

theorem refBase7 : RefSameOf 91 0 7 := by
 intro w v1 v2 xs ys h1 h2
 obtain rfl := h1.zero
 obtain rfl := h2.zero
 obtain ⟨a1, c1, rfl, -⟩ := h1.form
 obtain ⟨a2, c2, rfl, -⟩ := h2.form
 clear h1 h2
 go_enter Tryz.func91, Tryz.ntmps91
 go_wp2
 go_loopw [5] (fun v wr => v = .int .i64 0 ∧ wr = w) (fun _ _ => 0)
 case atStart => exact ⟨rfl, rfl⟩
 case round =>
  obtain ⟨rfl, rfl⟩ := hrel
  go_wp2
  go_ret
  exact ⟨ret_bool Nd.eqL_nil.symm, Below.refl _ _⟩
structure RefAll (n : Nat) : Prop where
  s0 : RefSameOf 28 n 0
  s1 : RefSameOf 26 n 1
  s2 : RefSameOf 11 n 2
  s3 : RefSameOf 27 n 3
  s4 : RefSameOf 58 n 4
  s5 : RefSameOf 59 n 5
  s6 : RefSameOf 60 n 6
  s7 : RefSameOf 91 n 7
theorem ref_all : ∀ n, RefAll n
  | 0 => ⟨refBase0, refBase1, refBase2, refBase3, refBase4, refBase5, refBase6, refBase7⟩
  | n + 1 =>
    have h := ref_all n
    ⟨refSame0 n h.s0, refSame1 n h.s1, refSame2 n h.s1 h.s2 h.s3 h.s0, refSame3 n h.s0 h.s2 h.s4 h.s5 h.s6, refSame4 n h.s0, refSame5 n h.s3 h.s5 h.s6, refSame6 n h.s7 h.s6 h.s0, refSame7 n h.s0 h.s4 h.s6⟩
theorem Nd.eqL_one (A B : Nd) : Nd.eqL [A] [B] = Nd.eq A B := by rw [Nd.eqL_cons, Nd.eqL_nil, Bool.and_true]



/-- Two lists of one node each, made behind two boxes. -/
theorem made2 {w : World} {n s : Nat} {va vb : List Value} {A B : Nd} (ha : va.length = Nd.size s) (hb : vb.length = Nd.size s) (hA : At w Any n s va A) (hB : At w Any n s vb B) (o1 o2 : Obj) (t : TypeId) :
    AtL ((((w.alloc o1).alloc o2).alloc (.cells va.toArray t)).alloc (.cells vb.toArray t)) Any n s (.slice (some ⟨w.heap.size + 1 + 1, 0, .none⟩) 1 1) [A] ∧ AtL ((((w.alloc o1).alloc o2).alloc (.cells va.toArray t)).alloc (.cells vb.toArray t)) Any n s (.slice (some ⟨w.heap.size + 1 + 1 + 1, 0, .none⟩) 1 1) [B] := by
  have k : Below w.heap.size w ((w.alloc o1).alloc o2) := bl_alloc (bl_alloc (Below.refl _ _) _) _
  have h1 := AtL.made1 (t := t) ha (At.move (Keeps.of_below k) (fun _ h => h) _ _ _ _ hA)
  have h2 := AtL.made1 (t := t) hb (At.move (Keeps.of_below (bl_alloc k (.cells va.toArray t))) (fun _ h => h) _ _ _ _ hB)
  rw [show ((w.alloc o1).alloc o2).heap.size = w.heap.size + 1 + 1 by simp] at h1
  rw [show (((w.alloc o1).alloc o2).alloc (.cells va.toArray t)).heap.size = w.heap.size + 1 + 1 + 1 by simp] at h2
  exact ⟨h1.below (bl_alloc (Below.refl _ _) _), h2⟩
set_option maxRecDepth 100000 in
theorem refOne2 (n : Nat) : SameOf 6 n 2 := by
 intro w va vb A B hA hB
 obtain ⟨i0x, i1x, i2x, a3x, n3x, c3x, d0x, m0x, e0x, d1x, m1x, e1x, d2x, m2x, e2x, d3x, m3x, e3x, rfl⟩ := At.exp_form hA
 obtain ⟨i0y, i1y, i2y, a3y, n3y, c3y, d0y, m0y, e0y, d1y, m1y, e1y, d2y, m2y, e2y, d3y, m3y, e3y, rfl⟩ := At.exp_form hB
 have hM : Hid (∀ o1 o2 t, _) := fun o1 o2 t => made2 rfl rfl hA hB o1 o2 t
 have q : Hid (∀ w v1 v2, _ → _ → _) := fun w v1 v2 h1 h2 => (ref_all n).s2 w v1 v2 [A] [B] h1 h2
 rw [Nd.eqL_one] at q
 clear hA hB
 go_enter Tryz.func6, Tryz.ntmps6
 go_wp2_with (go_at_call 11; refine (q.out _ _ _ (hM.out _ _ _).1 (hM.out _ _ _).2).mono ?_; rintro e w1 ⟨rfl, hb1⟩; have hB := bl_tr (bl_alloc (bl_alloc (bl_alloc (bl_alloc (Below.refl _ _) _) _) _) _) hb1)
 go_ret
 exact ⟨rfl, hB⟩





end Go.Proofs.YtjebepnphoeiaabGreatDoor
