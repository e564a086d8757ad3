/- When a node of one sort is right. -/
import Derived.Deep.RegionHeld
import Derived.Test.YtgiegjghldhppabGreatNdQ1
import Derived.BigRegion
namespace Go.Proofs.YtgiegjghldhppabGreat
open Go.RowKit
set_option linter.unusedVariables false
set_option linter.unusedSimpArgs false

set_option maxHeartbeats 4000000 in
set_option maxRecDepth 100000 in
theorem right1 (n : Nat) (q1 : ErrLOf 77 82 (Nd.err 1) n 1) : ErrOf 82 (Nd.err 1) (n + 1) 1 := by
  intro w b o vs nd hb hc ha
  obtain ⟨k, s, vp, p, m, vl, l, rfl, rfl, -, hs, ⟨tx, hpx, hpl⟩, -, kl⟩ := At.pat ha
  clear ha
  have hp := pn_any
  have TX : Hid (∀ w', Below w.heap.size w w' → Strs w' vp p) := fun w' h' => (tx.move (Keeps.of_below h') (fun _ h => h)).strs
  have Rl : Hid (∀ w', Below w.heap.size w w' → Calls Tryz.prog 77 #[vl, .func (.func 82) #[] #[]] w' fun e w'' => e = outc (Nd.errF (Nd.err 1) l) ∧ Below w'.heap.size w' w'') := fun w' h' => q1 w' vl l (kl.below h')
  obtain ⟨ap, cp, rfl⟩ := tx.form
  clear tx
  obtain ⟨al, cl, rfl, -⟩ := kl.form
  clear kl
  have d0 : w.cell? ⟨b, o, none⟩ = some (.int .i64 k) := hc 0 _ rfl
  have D0 : Hid (∀ w', Below w.heap.size w w' → w'.cell? ⟨b, o, none⟩ = some (.int .i64 k)) := fun w' h' => (h'.cell hb).trans (hc 0 _ rfl)
  have d1 : w.cell? ⟨b, o + 1, none⟩ = some (.string s) := hc 1 _ rfl
  have D1 : Hid (∀ w', Below w.heap.size w w' → w'.cell? ⟨b, o + 1, none⟩ = some (.string s)) := fun w' h' => (h'.cell hb).trans (hc 1 _ rfl)
  have d2 : w.cell? ⟨b, o + 2, none⟩ = some (.slice ap p.length cp) := hc 2 _ rfl
  have D2 : Hid (∀ w', Below w.heap.size w w' → w'.cell? ⟨b, o + 2, none⟩ = some (.slice ap p.length cp)) := fun w' h' => (h'.cell hb).trans (hc 2 _ rfl)
  have d3 : w.cell? ⟨b, o + 3, none⟩ = some (.int .i64 m) := hc 3 _ rfl
  have D3 : Hid (∀ w', Below w.heap.size w w' → w'.cell? ⟨b, o + 3, none⟩ = some (.int .i64 m)) := fun w' h' => (h'.cell hb).trans (hc 3 _ rfl)
  have d4 : w.cell? ⟨b, o + 4, none⟩ = some (.slice al l.length cl) := hc 4 _ rfl
  have D4 : Hid (∀ w', Below w.heap.size w w' → w'.cell? ⟨b, o + 4, none⟩ = some (.slice al l.length cl)) := fun w' h' => (h'.cell hb).trans (hc 4 _ rfl)
  clear hc q1
  go_enter Tryz.func82, Tryz.ntmps82
  go_wp2
  go_region
  by_cases hk1 : k = 1
  · subst hk1
    have HE0 : Hid ((Nd.err 1) (.mk [.int 1, .str s, .strs p, .int m] [l]) = Nd.firstE (Nd.fitE { n := m, name := s, path := (p.length : Int), kids := (l.length : Int) } {}) (Nd.errF (Nd.err 1) l)) := by
      show _ = _
      rw [Nd.err, show Nd.own 1 [.int 1, .str s, .strs p, .int m] [l] = Nd.ownPat 1 s p m l from rfl]
      rw [Nd.ownPat, if_pos (by omega)]
      simp only [Nd.subs, Nd.errLL, Nd.errL_eq, Nd.firstE_right]
    go_wp2_with (first | (go_at_call 77; refine (Rl.out _ hB1).mono ?_; rintro e w2 ⟨rfl, hb⟩; have hB2 := bl_tr hB1 hb; clear hb; refine (outc_cases (Nd.errF (Nd.err 1) l)).elim (fun ⟨hz, he⟩ => ?_) (fun ⟨hz, he⟩ => by rw [he]; exact ⟨rfl, (by rw [HE1.out]; exact he.symm), hB2⟩); rw [he]; have HE2 : Hid (outc ((Nd.err 1) (.mk [.int 1, .str s, .strs p, .int m] [l])) = .returned (.tuple #[])) := (by show _ = _; rw [HE1.out]; exact he); clear HE1 hz he; have f0_2 := D0.out _ hB2; have f1_2 := D1.out _ hB2; have f2_2 := D2.out _ hB2; have f3_2 := D3.out _ hB2; have f4_2 := D4.out _ hB2; skip) | (go_at_call 84; refine (fit_any { n := m, name := s, path := (p.length : Int), kids := (l.length : Int) } {} _).mono ?_; rintro e w1 ⟨rfl, hb1⟩; have hB1 : Below w.heap.size w w1 := (by refine bl_tr ?_ hb1; first | exact (bl_alloc (Below.refl _ _) _).drew | exact bl_alloc (Below.refl _ _) _ | exact bl_alloc (Below.refl _ _).drew _); clear hb1; refine (outc_cases (Nd.fitE { n := m, name := s, path := (p.length : Int), kids := (l.length : Int) } {})).elim (fun ⟨hz, he⟩ => ?_) (fun ⟨hz, he⟩ => by rw [he]; exact ⟨rfl, (by rw [HE0.out, Nd.firstE_ne hz]; exact he.symm), hB1⟩); rw [he]; have HE1 := HE0.out.trans (Nd.firstE_zero hz); replace HE1 : Hid ((Nd.err 1) (.mk [.int 1, .str s, .strs p, .int m] [l]) = Nd.errF (Nd.err 1) l) := HE1; clear HE0 hz he; have f0_1 := D0.out _ hB1; have f1_1 := D1.out _ hB1; have f2_1 := D2.out _ hB1; have f3_1 := D3.out _ hB1; have f4_1 := D4.out _ hB1; skip))
    first | go_end0 | refine bodyPost_ret (results_none rfl _ _ _) rfl ?_
    exact ⟨HE2.out.symm, hB2⟩
  by_cases hk4 : k = 4
  · subst hk4
    have HE0 : Hid ((Nd.err 1) (.mk [.int 4, .str s, .strs p, .int m] [l]) = Nd.firstE (Nd.fitE { n := m, name := s, path := (p.length : Int), kids := (l.length : Int) } {}) (Nd.errF (Nd.err 1) l)) := by
      show _ = _
      rw [Nd.err, show Nd.own 1 [.int 4, .str s, .strs p, .int m] [l] = Nd.ownPat 4 s p m l from rfl]
      rw [Nd.ownPat, if_pos (by omega)]
      simp only [Nd.subs, Nd.errLL, Nd.errL_eq, Nd.firstE_right]
    go_wp2_with (first | (go_at_call 77; refine (Rl.out _ hB1).mono ?_; rintro e w2 ⟨rfl, hb⟩; have hB2 := bl_tr hB1 hb; clear hb; refine (outc_cases (Nd.errF (Nd.err 1) l)).elim (fun ⟨hz, he⟩ => ?_) (fun ⟨hz, he⟩ => by rw [he]; exact ⟨rfl, (by rw [HE1.out]; exact he.symm), hB2⟩); rw [he]; have HE2 : Hid (outc ((Nd.err 1) (.mk [.int 4, .str s, .strs p, .int m] [l])) = .returned (.tuple #[])) := (by show _ = _; rw [HE1.out]; exact he); clear HE1 hz he; have f0_2 := D0.out _ hB2; have f1_2 := D1.out _ hB2; have f2_2 := D2.out _ hB2; have f3_2 := D3.out _ hB2; have f4_2 := D4.out _ hB2; skip) | (go_at_call 84; refine (fit_any { n := m, name := s, path := (p.length : Int), kids := (l.length : Int) } {} _).mono ?_; rintro e w1 ⟨rfl, hb1⟩; have hB1 : Below w.heap.size w w1 := (by refine bl_tr ?_ hb1; first | exact (bl_alloc (Below.refl _ _) _).drew | exact bl_alloc (Below.refl _ _) _ | exact bl_alloc (Below.refl _ _).drew _); clear hb1; refine (outc_cases (Nd.fitE { n := m, name := s, path := (p.length : Int), kids := (l.length : Int) } {})).elim (fun ⟨hz, he⟩ => ?_) (fun ⟨hz, he⟩ => by rw [he]; exact ⟨rfl, (by rw [HE0.out, Nd.firstE_ne hz]; exact he.symm), hB1⟩); rw [he]; have HE1 := HE0.out.trans (Nd.firstE_zero hz); replace HE1 : Hid ((Nd.err 1) (.mk [.int 4, .str s, .strs p, .int m] [l]) = Nd.errF (Nd.err 1) l) := HE1; clear HE0 hz he; have f0_1 := D0.out _ hB1; have f1_1 := D1.out _ hB1; have f2_1 := D2.out _ hB1; have f3_1 := D3.out _ hB1; have f4_1 := D4.out _ hB1; skip))
    first | go_end0 | refine bodyPost_ret (results_none rfl _ _ _) rfl ?_
    exact ⟨HE2.out.symm, hB2⟩
  by_cases hk5 : k = 5
  · subst hk5
    have HE0 : Hid ((Nd.err 1) (.mk [.int 5, .str s, .strs p, .int m] [l]) = Nd.firstE (Nd.fitE { n := m, name := s, path := (p.length : Int), kids := (l.length : Int) } {}) (Nd.errF (Nd.err 1) l)) := by
      show _ = _
      rw [Nd.err, show Nd.own 1 [.int 5, .str s, .strs p, .int m] [l] = Nd.ownPat 5 s p m l from rfl]
      rw [Nd.ownPat, if_pos (by omega)]
      simp only [Nd.subs, Nd.errLL, Nd.errL_eq, Nd.firstE_right]
    go_wp2_with (first | (go_at_call 77; refine (Rl.out _ hB1).mono ?_; rintro e w2 ⟨rfl, hb⟩; have hB2 := bl_tr hB1 hb; clear hb; refine (outc_cases (Nd.errF (Nd.err 1) l)).elim (fun ⟨hz, he⟩ => ?_) (fun ⟨hz, he⟩ => by rw [he]; exact ⟨rfl, (by rw [HE1.out]; exact he.symm), hB2⟩); rw [he]; have HE2 : Hid (outc ((Nd.err 1) (.mk [.int 5, .str s, .strs p, .int m] [l])) = .returned (.tuple #[])) := (by show _ = _; rw [HE1.out]; exact he); clear HE1 hz he; have f0_2 := D0.out _ hB2; have f1_2 := D1.out _ hB2; have f2_2 := D2.out _ hB2; have f3_2 := D3.out _ hB2; have f4_2 := D4.out _ hB2; skip) | (go_at_call 84; refine (fit_any { n := m, name := s, path := (p.length : Int), kids := (l.length : Int) } {} _).mono ?_; rintro e w1 ⟨rfl, hb1⟩; have hB1 : Below w.heap.size w w1 := (by refine bl_tr ?_ hb1; first | exact (bl_alloc (Below.refl _ _) _).drew | exact bl_alloc (Below.refl _ _) _ | exact bl_alloc (Below.refl _ _).drew _); clear hb1; refine (outc_cases (Nd.fitE { n := m, name := s, path := (p.length : Int), kids := (l.length : Int) } {})).elim (fun ⟨hz, he⟩ => ?_) (fun ⟨hz, he⟩ => by rw [he]; exact ⟨rfl, (by rw [HE0.out, Nd.firstE_ne hz]; exact he.symm), hB1⟩); rw [he]; have HE1 := HE0.out.trans (Nd.firstE_zero hz); replace HE1 : Hid ((Nd.err 1) (.mk [.int 5, .str s, .strs p, .int m] [l]) = Nd.errF (Nd.err 1) l) := HE1; clear HE0 hz he; have f0_1 := D0.out _ hB1; have f1_1 := D1.out _ hB1; have f2_1 := D2.out _ hB1; have f3_1 := D3.out _ hB1; have f4_1 := D4.out _ hB1; skip))
    first | go_end0 | refine bodyPost_ret (results_none rfl _ _ _) rfl ?_
    exact ⟨HE2.out.symm, hB2⟩
  by_cases hk6 : k = 6
  · subst hk6
    have HE0 : Hid ((Nd.err 1) (.mk [.int 6, .str s, .strs p, .int m] [l]) = Nd.firstE (Nd.fitE { n := m, name := s, path := (p.length : Int), kids := (l.length : Int) } {}) (Nd.errF (Nd.err 1) l)) := by
      show _ = _
      rw [Nd.err, show Nd.own 1 [.int 6, .str s, .strs p, .int m] [l] = Nd.ownPat 6 s p m l from rfl]
      rw [Nd.ownPat, if_pos (by omega)]
      simp only [Nd.subs, Nd.errLL, Nd.errL_eq, Nd.firstE_right]
    go_wp2_with (first | (go_at_call 77; refine (Rl.out _ hB1).mono ?_; rintro e w2 ⟨rfl, hb⟩; have hB2 := bl_tr hB1 hb; clear hb; refine (outc_cases (Nd.errF (Nd.err 1) l)).elim (fun ⟨hz, he⟩ => ?_) (fun ⟨hz, he⟩ => by rw [he]; exact ⟨rfl, (by rw [HE1.out]; exact he.symm), hB2⟩); rw [he]; have HE2 : Hid (outc ((Nd.err 1) (.mk [.int 6, .str s, .strs p, .int m] [l])) = .returned (.tuple #[])) := (by show _ = _; rw [HE1.out]; exact he); clear HE1 hz he; have f0_2 := D0.out _ hB2; have f1_2 := D1.out _ hB2; have f2_2 := D2.out _ hB2; have f3_2 := D3.out _ hB2; have f4_2 := D4.out _ hB2; skip) | (go_at_call 84; refine (fit_any { n := m, name := s, path := (p.length : Int), kids := (l.length : Int) } {} _).mono ?_; rintro e w1 ⟨rfl, hb1⟩; have hB1 : Below w.heap.size w w1 := (by refine bl_tr ?_ hb1; first | exact (bl_alloc (Below.refl _ _) _).drew | exact bl_alloc (Below.refl _ _) _ | exact bl_alloc (Below.refl _ _).drew _); clear hb1; refine (outc_cases (Nd.fitE { n := m, name := s, path := (p.length : Int), kids := (l.length : Int) } {})).elim (fun ⟨hz, he⟩ => ?_) (fun ⟨hz, he⟩ => by rw [he]; exact ⟨rfl, (by rw [HE0.out, Nd.firstE_ne hz]; exact he.symm), hB1⟩); rw [he]; have HE1 := HE0.out.trans (Nd.firstE_zero hz); replace HE1 : Hid ((Nd.err 1) (.mk [.int 6, .str s, .strs p, .int m] [l]) = Nd.errF (Nd.err 1) l) := HE1; clear HE0 hz he; have f0_1 := D0.out _ hB1; have f1_1 := D1.out _ hB1; have f2_1 := D2.out _ hB1; have f3_1 := D3.out _ hB1; have f4_1 := D4.out _ hB1; skip))
    first | go_end0 | refine bodyPost_ret (results_none rfl _ _ _) rfl ?_
    exact ⟨HE2.out.symm, hB2⟩
  by_cases hk2 : k = 2
  · subst hk2
    have HE0 : Hid ((Nd.err 1) (.mk [.int 2, .str s, .strs p, .int m] [l]) = Nd.firstE (Nd.fitE { n := m, name := s, path := (p.length : Int), kids := (l.length : Int) } { name := s }) (Nd.firstE (Nd.nameE s (Nm.lower s)) (Nd.errF (Nd.err 1) l))) := by
      show _ = _
      rw [Nd.err, show Nd.own 1 [.int 2, .str s, .strs p, .int m] [l] = Nd.ownPat 2 s p m l from rfl]
      rw [Nd.ownPat, if_neg (by omega), if_pos (by omega)]
      simp only [Nd.subs, Nd.errLL, Nd.errL_eq, Nd.firstE_assoc, Nd.firstE_right]
    go_wp2_with (first | (go_at_call 77; refine (Rl.out _ hB1).mono ?_; rintro e w2 ⟨rfl, hb⟩; have hB2 := bl_tr hB1 hb; clear hb; refine (outc_cases (Nd.errF (Nd.err 1) l)).elim (fun ⟨hz, he⟩ => ?_) (fun ⟨hz, he⟩ => by rw [he]; exact ⟨rfl, (by rw [HE2.out]; exact he.symm), hB2⟩); rw [he]; have HE3 : Hid (outc ((Nd.err 1) (.mk [.int 2, .str s, .strs p, .int m] [l])) = .returned (.tuple #[])) := (by show _ = _; rw [HE2.out]; exact he); clear HE2 hz he; have f0_2 := D0.out _ hB2; have f1_2 := D1.out _ hB2; have f2_2 := D2.out _ hB2; have f3_2 := D3.out _ hB2; have f4_2 := D4.out _ hB2; skip) | (go_at_call 86; refine (named_any s hs 83 Nm.lower sort_lower _).mono ?_; rintro e w2 ⟨rfl, hw⟩; rw [hw]; clear hw w2; refine (outc_cases (Nd.nameE s (Nm.lower s))).elim (fun ⟨hz, he⟩ => ?_) (fun ⟨hz, he⟩ => by rw [he]; exact ⟨rfl, (by rw [HE1.out, Nd.firstE_ne hz]; exact he.symm), hB1⟩); rw [he]; have HE2 := HE1.out.trans (Nd.firstE_zero hz); replace HE2 : Hid ((Nd.err 1) (.mk [.int 2, .str s, .strs p, .int m] [l]) = Nd.errF (Nd.err 1) l) := HE2; clear HE1 hz he) | (go_at_call 84; refine (fit_any { n := m, name := s, path := (p.length : Int), kids := (l.length : Int) } { name := s } _).mono ?_; rintro e w1 ⟨rfl, hb1⟩; have hB1 : Below w.heap.size w w1 := (by refine bl_tr ?_ hb1; first | exact (bl_alloc (Below.refl _ _) _).drew | exact bl_alloc (Below.refl _ _) _ | exact bl_alloc (Below.refl _ _).drew _); clear hb1; refine (outc_cases (Nd.fitE { n := m, name := s, path := (p.length : Int), kids := (l.length : Int) } { name := s })).elim (fun ⟨hz, he⟩ => ?_) (fun ⟨hz, he⟩ => by rw [he]; exact ⟨rfl, (by rw [HE0.out, Nd.firstE_ne hz]; exact he.symm), hB1⟩); rw [he]; have HE1 := HE0.out.trans (Nd.firstE_zero hz); replace HE1 : Hid ((Nd.err 1) (.mk [.int 2, .str s, .strs p, .int m] [l]) = Nd.firstE (Nd.nameE s (Nm.lower s)) (Nd.errF (Nd.err 1) l)) := HE1; clear HE0 hz he; have f0_1 := D0.out _ hB1; have f1_1 := D1.out _ hB1; have f2_1 := D2.out _ hB1; have f3_1 := D3.out _ hB1; have f4_1 := D4.out _ hB1; skip))
    first | go_end0 | refine bodyPost_ret (results_none rfl _ _ _) rfl ?_
    exact ⟨HE3.out.symm, hB2⟩
  by_cases hk3 : k = 3
  · subst hk3
    have HE0 : Hid ((Nd.err 1) (.mk [.int 3, .str s, .strs p, .int m] [l]) = Nd.firstE (Nd.fitE { n := m, name := s, path := (p.length : Int), kids := (l.length : Int) } { n := max m 0 }) (Nd.errF (Nd.err 1) l)) := by
      show _ = _
      rw [Nd.err, show Nd.own 1 [.int 3, .str s, .strs p, .int m] [l] = Nd.ownPat 3 s p m l from rfl]
      rw [Nd.ownPat, if_neg (by omega), if_neg (by omega), if_pos (by omega)]
      simp only [Nd.subs, Nd.errLL, Nd.errL_eq, Nd.firstE_right]
    go_wp2_with (first | (go_at_call 77; refine (Rl.out _ hB1).mono ?_; rintro e w2 ⟨rfl, hb⟩; have hB2 := bl_tr hB1 hb; clear hb; refine (outc_cases (Nd.errF (Nd.err 1) l)).elim (fun ⟨hz, he⟩ => ?_) (fun ⟨hz, he⟩ => by rw [he]; exact ⟨rfl, (by rw [HE1.out]; exact he.symm), hB2⟩); rw [he]; have HE2 : Hid (outc ((Nd.err 1) (.mk [.int 3, .str s, .strs p, .int m] [l])) = .returned (.tuple #[])) := (by show _ = _; rw [HE1.out]; exact he); clear HE1 hz he; have f0_2 := D0.out _ hB2; have f1_2 := D1.out _ hB2; have f2_2 := D2.out _ hB2; have f3_2 := D3.out _ hB2; have f4_2 := D4.out _ hB2; skip) | (go_at_call 84; refine (fit_any { n := m, name := s, path := (p.length : Int), kids := (l.length : Int) } { n := max m 0 } _).mono ?_; rintro e w1 ⟨rfl, hb1⟩; have hB1 : Below w.heap.size w w1 := (by refine bl_tr ?_ hb1; first | exact (bl_alloc (Below.refl _ _) _).drew | exact bl_alloc (Below.refl _ _) _ | exact bl_alloc (Below.refl _ _).drew _); clear hb1; refine (outc_cases (Nd.fitE { n := m, name := s, path := (p.length : Int), kids := (l.length : Int) } { n := max m 0 })).elim (fun ⟨hz, he⟩ => ?_) (fun ⟨hz, he⟩ => by rw [he]; exact ⟨rfl, (by rw [HE0.out, Nd.firstE_ne hz]; exact he.symm), hB1⟩); rw [he]; have HE1 := HE0.out.trans (Nd.firstE_zero hz); replace HE1 : Hid ((Nd.err 1) (.mk [.int 3, .str s, .strs p, .int m] [l]) = Nd.errF (Nd.err 1) l) := HE1; clear HE0 hz he; have f0_1 := D0.out _ hB1; have f1_1 := D1.out _ hB1; have f2_1 := D2.out _ hB1; have f3_1 := D3.out _ hB1; have f4_1 := D4.out _ hB1; skip))
    first | go_end0 | refine bodyPost_ret (results_none rfl _ _ _) rfl ?_
    exact ⟨HE2.out.symm, hB2⟩
  by_cases hk7 : k = 7
  · subst hk7
    have HE0 : Hid ((Nd.err 1) (.mk [.int 7, .str s, .strs p, .int m] [l]) = Nd.firstE (Nd.fitE { n := m, name := s, path := (p.length : Int), kids := (l.length : Int) } { kids := 2 }) (Nd.errF (Nd.err 1) l)) := by
      show _ = _
      rw [Nd.err, show Nd.own 1 [.int 7, .str s, .strs p, .int m] [l] = Nd.ownPat 7 s p m l from rfl]
      rw [Nd.ownPat, if_neg (by omega), if_neg (by omega), if_neg (by omega), if_pos (by omega)]
      simp only [Nd.subs, Nd.errLL, Nd.errL_eq, Nd.firstE_right]
    go_wp2_with (first | (go_at_call 77; refine (Rl.out _ hB1).mono ?_; rintro e w2 ⟨rfl, hb⟩; have hB2 := bl_tr hB1 hb; clear hb; refine (outc_cases (Nd.errF (Nd.err 1) l)).elim (fun ⟨hz, he⟩ => ?_) (fun ⟨hz, he⟩ => by rw [he]; exact ⟨rfl, (by rw [HE1.out]; exact he.symm), hB2⟩); rw [he]; have HE2 : Hid (outc ((Nd.err 1) (.mk [.int 7, .str s, .strs p, .int m] [l])) = .returned (.tuple #[])) := (by show _ = _; rw [HE1.out]; exact he); clear HE1 hz he; have f0_2 := D0.out _ hB2; have f1_2 := D1.out _ hB2; have f2_2 := D2.out _ hB2; have f3_2 := D3.out _ hB2; have f4_2 := D4.out _ hB2; skip) | (go_at_call 84; refine (fit_any { n := m, name := s, path := (p.length : Int), kids := (l.length : Int) } { kids := 2 } _).mono ?_; rintro e w1 ⟨rfl, hb1⟩; have hB1 : Below w.heap.size w w1 := (by refine bl_tr ?_ hb1; first | exact (bl_alloc (Below.refl _ _) _).drew | exact bl_alloc (Below.refl _ _) _ | exact bl_alloc (Below.refl _ _).drew _); clear hb1; refine (outc_cases (Nd.fitE { n := m, name := s, path := (p.length : Int), kids := (l.length : Int) } { kids := 2 })).elim (fun ⟨hz, he⟩ => ?_) (fun ⟨hz, he⟩ => by rw [he]; exact ⟨rfl, (by rw [HE0.out, Nd.firstE_ne hz]; exact he.symm), hB1⟩); rw [he]; have HE1 := HE0.out.trans (Nd.firstE_zero hz); replace HE1 : Hid ((Nd.err 1) (.mk [.int 7, .str s, .strs p, .int m] [l]) = Nd.errF (Nd.err 1) l) := HE1; clear HE0 hz he; have f0_1 := D0.out _ hB1; have f1_1 := D1.out _ hB1; have f2_1 := D2.out _ hB1; have f3_1 := D3.out _ hB1; have f4_1 := D4.out _ hB1; skip))
    first | go_end0 | refine bodyPost_ret (results_none rfl _ _ _) rfl ?_
    exact ⟨HE2.out.symm, hB2⟩
  by_cases hk8 : k = 8
  · subst hk8
    have HE0 : Hid ((Nd.err 1) (.mk [.int 8, .str s, .strs p, .int m] [l]) = Nd.firstE (Nd.fitE { n := m, name := s, path := (p.length : Int), kids := (l.length : Int) } { path := (p.length : Int), kids := min (l.length : Int) 1 }) (Nd.firstE (Nd.pathE p Nm.upper) (Nd.errF (Nd.err 1) l))) := by
      show _ = _
      rw [Nd.err, show Nd.own 1 [.int 8, .str s, .strs p, .int m] [l] = Nd.ownPat 8 s p m l from rfl]
      rw [Nd.ownPat, if_neg (by omega), if_neg (by omega), if_neg (by omega), if_neg (by omega), if_pos (by omega)]
      simp only [Nd.subs, Nd.errLL, Nd.errL_eq, Nd.firstE_assoc, Nd.firstE_right]
    go_wp2_with (first | (go_at_call 77; refine (Rl.out _ hB1).mono ?_; rintro e w2 ⟨rfl, hb⟩; have hB2 := bl_tr hB1 hb; clear hb; refine (outc_cases (Nd.errF (Nd.err 1) l)).elim (fun ⟨hz, he⟩ => ?_) (fun ⟨hz, he⟩ => by rw [he]; exact ⟨rfl, (by rw [HE2.out]; exact he.symm), hB2⟩); rw [he]; have HE3 : Hid (outc ((Nd.err 1) (.mk [.int 8, .str s, .strs p, .int m] [l])) = .returned (.tuple #[])) := (by show _ = _; rw [HE2.out]; exact he); clear HE2 hz he; have f0_2 := D0.out _ hB2; have f1_2 := D1.out _ hB2; have f2_2 := D2.out _ hB2; have f3_2 := D3.out _ hB2; have f4_2 := D4.out _ hB2; skip) | (go_at_call 89; refine (pathed_any _ p _ (TX.out _ hB1) hpx hpl 85 Nm.upper sort_upper).mono ?_; rintro e w2 ⟨rfl, hw⟩; rw [hw]; clear hw w2; refine (outc_cases (Nd.pathE p Nm.upper)).elim (fun ⟨hz, he⟩ => ?_) (fun ⟨hz, he⟩ => by rw [he]; exact ⟨rfl, (by rw [HE1.out, Nd.firstE_ne hz]; exact he.symm), hB1⟩); rw [he]; have HE2 := HE1.out.trans (Nd.firstE_zero hz); replace HE2 : Hid ((Nd.err 1) (.mk [.int 8, .str s, .strs p, .int m] [l]) = Nd.errF (Nd.err 1) l) := HE2; clear HE1 hz he) | (go_at_call 84; refine (fit_any { n := m, name := s, path := (p.length : Int), kids := (l.length : Int) } { path := (p.length : Int), kids := min (l.length : Int) 1 } _).mono ?_; rintro e w1 ⟨rfl, hb1⟩; have hB1 : Below w.heap.size w w1 := (by refine bl_tr ?_ hb1; first | exact (bl_alloc (Below.refl _ _) _).drew | exact bl_alloc (Below.refl _ _) _ | exact bl_alloc (Below.refl _ _).drew _); clear hb1; refine (outc_cases (Nd.fitE { n := m, name := s, path := (p.length : Int), kids := (l.length : Int) } { path := (p.length : Int), kids := min (l.length : Int) 1 })).elim (fun ⟨hz, he⟩ => ?_) (fun ⟨hz, he⟩ => by rw [he]; exact ⟨rfl, (by rw [HE0.out, Nd.firstE_ne hz]; exact he.symm), hB1⟩); rw [he]; have HE1 := HE0.out.trans (Nd.firstE_zero hz); replace HE1 : Hid ((Nd.err 1) (.mk [.int 8, .str s, .strs p, .int m] [l]) = Nd.firstE (Nd.pathE p Nm.upper) (Nd.errF (Nd.err 1) l)) := HE1; clear HE0 hz he; have f0_1 := D0.out _ hB1; have f1_1 := D1.out _ hB1; have f2_1 := D2.out _ hB1; have f3_1 := D3.out _ hB1; have f4_1 := D4.out _ hB1; skip))
    first | go_end0 | refine bodyPost_ret (results_none rfl _ _ _) rfl ?_
    exact ⟨HE3.out.symm, hB2⟩
  have HE : Hid (outc ((Nd.err 1) (.mk [.int k, .str s, .strs p, .int m] [l])) = .panicked [{ v := .iface 36 (.int .i64 1), recovered := false }]) := by
    show _ = _
    rw [Nd.err, show Nd.own 1 [.int k, .str s, .strs p, .int m] [l] = Nd.ownPat k s p m l from rfl]
    rw [Nd.ownPat, if_neg (by omega), if_neg (by omega), if_neg (by omega), if_neg (by omega), if_neg (by omega), Nd.firstE_ne (by decide)]
    exact outc_err (by decide)
  replace hk1 : (k == 1) = false := by rw [beq_eq_false_iff_ne]; exact hk1
  replace hk4 : (k == 4) = false := by rw [beq_eq_false_iff_ne]; exact hk4
  replace hk5 : (k == 5) = false := by rw [beq_eq_false_iff_ne]; exact hk5
  replace hk6 : (k == 6) = false := by rw [beq_eq_false_iff_ne]; exact hk6
  replace hk2 : (k == 2) = false := by rw [beq_eq_false_iff_ne]; exact hk2
  replace hk3 : (k == 3) = false := by rw [beq_eq_false_iff_ne]; exact hk3
  replace hk7 : (k == 7) = false := by rw [beq_eq_false_iff_ne]; exact hk7
  replace hk8 : (k == 8) = false := by rw [beq_eq_false_iff_ne]; exact hk8
  go_wp2
  exact ⟨rfl, HE.out.symm, (by first | exact (bl_alloc (Below.refl _ _) _).drew | exact bl_alloc (Below.refl _ _) _ | exact bl_alloc (Below.refl _ _).drew _)⟩

end Go.Proofs.YtgiegjghldhppabGreat
