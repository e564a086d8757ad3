/- Declarations within let; expressions and declarations as a whole. -/
import Derived.Test.YtgiegjghldhppabGreatNdQ1
namespace Go.Proofs.YtgiegjghldhppabGreat
open Go.RowKit
set_option linter.unusedVariables false

set_option maxRecDepth 100000 in
theorem inLet_any (n : Nat) : ErrOf 98 Nd.letE n 3 := by
  intro w b o vs nd hb hc ha
  cases n with
  | zero => exact ha.elim
  | succ n =>
    obtain ⟨k, pl, s, vp, p, v0, l0, v1, l1, v2, l2, v3, l3, v4, l4, rfl, rfl, -⟩ := At.dec ha
    have hp := pn_any
    have d0 : w.cell? ⟨b, o, none⟩ = some (.int .i64 k) := hc 0 _ rfl
    clear hc ha
    by_cases h1 : k = 1
    · subst h1
      go_enter Tryz.func98, Tryz.ntmps98
      go_wp2
      go_end0
      exact ⟨rfl, Below.refl _ _⟩
    · by_cases h2 : k = 2
      · subst h2
        go_enter Tryz.func98, Tryz.ntmps98
        go_wp2
        go_end0
        exact ⟨rfl, Below.refl _ _⟩
      · have H : Hid (outc (Nd.letE (.mk [.int k, .int 0, .str s, .strs p] [l0, l1, l2, l3, l4])) = .panicked [{ v := .iface 36 (.int .i64 1), recovered := false }]) := by
          show outc (if k = 1 ∨ k = 2 then 0 else 1) = _
          rw [if_neg (by omega)]
          exact outc_err (by decide)
        have e1 : (k != 1) = true := by rw [bne_iff_ne]; exact h1
        have e2 : (k != 2) = true := by rw [bne_iff_ne]; exact h2
        clear h1 h2
        go_enter Tryz.func98, Tryz.ntmps98
        go_wp2
        exact ⟨rfl, H.out.symm, Below.refl _ _⟩

set_option maxHeartbeats 2000000 in
set_option maxRecDepth 100000 in
theorem right2 (n : Nat) (qo : ErrOf 81 (Nd.ownN 2) (n + 1) 2) (q1 : ErrLOf 77 82 (Nd.err 1) n 1) (q2 : ErrLOf 54 49 (Nd.err 2) n 2) (q3 : ErrLOf 24 21 (Nd.err 3) n 3) (q0 : ErrLOf 52 53 (Nd.err 0) n 0) : ErrOf 49 (Nd.err 2) (n + 1) 2 := by
  intro w b o vs nd hb hc ha
  have Q := qo w b o vs nd hb hc ha
  obtain ⟨k, op, m, vp, p, vl0, l0, vl1, l1, vl2, l2, vl3, l3, rfl, rfl, -, -, -, -, kl0, kl1, kl2, kl3⟩ := At.exp ha
  clear ha qo
  have Rl0 : Hid (∀ w', Below w.heap.size w w' → Calls Tryz.prog 77 #[vl0, .func (.func 82) #[] #[]] w' fun e w'' => e = outc (Nd.errF (Nd.err 1) l0) ∧ Below w'.heap.size w' w'') := fun w' h' => q1 w' vl0 l0 (kl0.below h')
  have Dl0 : Hid (∀ w', Below w.heap.size w w' → w'.cell? ⟨b, o + 4, none⟩ = some vl0) := fun w' h' => (h'.cell hb).trans (hc 4 _ rfl)
  have Rl1 : Hid (∀ w', Below w.heap.size w w' → Calls Tryz.prog 54 #[vl1, .func (.func 49) #[] #[]] w' fun e w'' => e = outc (Nd.errF (Nd.err 2) l1) ∧ Below w'.heap.size w' w'') := fun w' h' => q2 w' vl1 l1 (kl1.below h')
  have Dl1 : Hid (∀ w', Below w.heap.size w w' → w'.cell? ⟨b, o + 5, none⟩ = some vl1) := fun w' h' => (h'.cell hb).trans (hc 5 _ rfl)
  have Rl2 : Hid (∀ w', Below w.heap.size w w' → Calls Tryz.prog 24 #[vl2, .func (.func 21) #[] #[]] w' fun e w'' => e = outc (Nd.errF (Nd.err 3) l2) ∧ Below w'.heap.size w' w'') := fun w' h' => q3 w' vl2 l2 (kl2.below h')
  have Dl2 : Hid (∀ w', Below w.heap.size w w' → w'.cell? ⟨b, o + 6, none⟩ = some vl2) := fun w' h' => (h'.cell hb).trans (hc 6 _ rfl)
  have Rl3 : Hid (∀ w', Below w.heap.size w w' → Calls Tryz.prog 52 #[vl3, .func (.func 53) #[] #[]] w' fun e w'' => e = outc (Nd.errF (Nd.err 0) l3) ∧ Below w'.heap.size w' w'') := fun w' h' => q0 w' vl3 l3 (kl3.below h')
  have Dl3 : Hid (∀ w', Below w.heap.size w w' → w'.cell? ⟨b, o + 7, none⟩ = some vl3) := fun w' h' => (h'.cell hb).trans (hc 7 _ rfl)
  clear hc kl0 kl1 kl2 kl3 q1 q2 q3 q0
  have HE0 : Hid (Nd.err 2 (.mk [.int k, .int op, .int m, .strs p] [l0, l1, l2, l3]) = Nd.firstE (Nd.ownN 2 (.mk [.int k, .int op, .int m, .strs p] [l0, l1, l2, l3])) (Nd.firstE (Nd.errF (Nd.err 1) l0) (Nd.firstE (Nd.errF (Nd.err 2) l1) (Nd.firstE (Nd.errF (Nd.err 3) l2) (Nd.errF (Nd.err 0) l3))))) := by
    show _ = _
    rw [Nd.err]
    simp only [Nd.subs, Nd.errLL, Nd.errL_eq, Nd.firstE_right]
    rfl
  go_enter Tryz.func49, Tryz.ntmps49
  go_wp2_with (first | (go_at_call 52; refine (Rl3.out _ hB4).mono ?_; rintro e w5 ⟨rfl, hb5⟩; have hB5 := bl_tr hB4 hb5; clear hb5; refine (outc_cases (Nd.errF (Nd.err 0) l3)).elim (fun ⟨hz, he⟩ => ?_) (fun ⟨hz, he⟩ => by rw [he]; exact ⟨rfl, (by rw [HE4.out]; exact he.symm), hB5⟩); rw [he]; have HE5 : Hid (outc (Nd.err 2 (.mk [.int k, .int op, .int m, .strs p] [l0, l1, l2, l3])) = .returned (.tuple #[])) := (by show _ = _; rw [HE4.out]; exact he); clear HE4 hz he) | (go_at_call 24; refine (Rl2.out _ hB3).mono ?_; rintro e w4 ⟨rfl, hb4⟩; have hB4 := bl_tr hB3 hb4; clear hb4; refine (outc_cases (Nd.errF (Nd.err 3) l2)).elim (fun ⟨hz, he⟩ => ?_) (fun ⟨hz, he⟩ => by rw [he]; exact ⟨rfl, (by rw [HE3.out, Nd.firstE_ne hz]; exact he.symm), hB4⟩); rw [he]; have HE4 : Hid (Nd.err 2 (.mk [.int k, .int op, .int m, .strs p] [l0, l1, l2, l3]) = Nd.errF (Nd.err 0) l3) := HE3.out.trans (Nd.firstE_zero hz); clear HE3 hz he; have f3 := Dl3.out _ hB4) | (go_at_call 54; refine (Rl1.out _ hB2).mono ?_; rintro e w3 ⟨rfl, hb3⟩; have hB3 := bl_tr hB2 hb3; clear hb3; refine (outc_cases (Nd.errF (Nd.err 2) l1)).elim (fun ⟨hz, he⟩ => ?_) (fun ⟨hz, he⟩ => by rw [he]; exact ⟨rfl, (by rw [HE2.out, Nd.firstE_ne hz]; exact he.symm), hB3⟩); rw [he]; have HE3 : Hid (Nd.err 2 (.mk [.int k, .int op, .int m, .strs p] [l0, l1, l2, l3]) = Nd.firstE (Nd.errF (Nd.err 3) l2) (Nd.errF (Nd.err 0) l3)) := HE2.out.trans (Nd.firstE_zero hz); clear HE2 hz he; have f2 := Dl2.out _ hB3) | (go_at_call 77; refine (Rl0.out _ hB1).mono ?_; rintro e w2 ⟨rfl, hb2⟩; have hB2 := bl_tr hB1 hb2; clear hb2; refine (outc_cases (Nd.errF (Nd.err 1) l0)).elim (fun ⟨hz, he⟩ => ?_) (fun ⟨hz, he⟩ => by rw [he]; exact ⟨rfl, (by rw [HE1.out, Nd.firstE_ne hz]; exact he.symm), hB2⟩); rw [he]; have HE2 : Hid (Nd.err 2 (.mk [.int k, .int op, .int m, .strs p] [l0, l1, l2, l3]) = Nd.firstE (Nd.errF (Nd.err 2) l1) (Nd.firstE (Nd.errF (Nd.err 3) l2) (Nd.errF (Nd.err 0) l3))) := HE1.out.trans (Nd.firstE_zero hz); clear HE1 hz he; have f1 := Dl1.out _ hB2) | (go_at_call 81; refine Q.mono ?_; rintro e w1 ⟨rfl, hB1⟩; refine (outc_cases (Nd.ownN 2 (.mk [.int k, .int op, .int m, .strs p] [l0, l1, l2, l3]))).elim (fun ⟨hz, he⟩ => ?_) (fun ⟨hz, he⟩ => by rw [he]; exact ⟨rfl, (by rw [HE0.out, Nd.firstE_ne hz]; exact he.symm), hB1⟩); rw [he]; have HE1 : Hid (Nd.err 2 (.mk [.int k, .int op, .int m, .strs p] [l0, l1, l2, l3]) = Nd.firstE (Nd.errF (Nd.err 1) l0) (Nd.firstE (Nd.errF (Nd.err 2) l1) (Nd.firstE (Nd.errF (Nd.err 3) l2) (Nd.errF (Nd.err 0) l3)))) := HE0.out.trans (Nd.firstE_zero hz); clear HE0 hz he; have f0 := Dl0.out _ hB1))
  go_end0
  exact ⟨HE5.out.symm, hB5⟩

set_option maxHeartbeats 2000000 in
set_option maxRecDepth 100000 in
theorem right3 (n : Nat) (qo : ErrOf 51 (Nd.ownN 3) (n + 1) 3) (q0 : ErrLOf 52 53 (Nd.err 0) n 0) (q2 : ErrLOf 54 49 (Nd.err 2) n 2) (q4 : ErrLOf 55 56 (Nd.err 4) n 4) (q5 : ErrLOf 57 58 (Nd.err 5) n 5) (q6 : ErrLOf 59 60 (Nd.err 6) n 6) : ErrOf 21 (Nd.err 3) (n + 1) 3 := by
  intro w b o vs nd hb hc ha
  have Q := qo w b o vs nd hb hc ha
  obtain ⟨k, pl, s, vp, p, vl0, l0, vl1, l1, vl2, l2, vl3, l3, vl4, l4, rfl, rfl, -, -, -, -, kl0, kl1, kl2, kl3, kl4⟩ := At.dec ha
  clear ha qo
  have Rl0 : Hid (∀ w', Below w.heap.size w w' → Calls Tryz.prog 52 #[vl0, .func (.func 53) #[] #[]] w' fun e w'' => e = outc (Nd.errF (Nd.err 0) l0) ∧ Below w'.heap.size w' w'') := fun w' h' => q0 w' vl0 l0 (kl0.below h')
  have Dl0 : Hid (∀ w', Below w.heap.size w w' → w'.cell? ⟨b, o + 4, none⟩ = some vl0) := fun w' h' => (h'.cell hb).trans (hc 4 _ rfl)
  have Rl1 : Hid (∀ w', Below w.heap.size w w' → Calls Tryz.prog 54 #[vl1, .func (.func 49) #[] #[]] w' fun e w'' => e = outc (Nd.errF (Nd.err 2) l1) ∧ Below w'.heap.size w' w'') := fun w' h' => q2 w' vl1 l1 (kl1.below h')
  have Dl1 : Hid (∀ w', Below w.heap.size w w' → w'.cell? ⟨b, o + 5, none⟩ = some vl1) := fun w' h' => (h'.cell hb).trans (hc 5 _ rfl)
  have Rl2 : Hid (∀ w', Below w.heap.size w w' → Calls Tryz.prog 55 #[vl2, .func (.func 56) #[] #[]] w' fun e w'' => e = outc (Nd.errF (Nd.err 4) l2) ∧ Below w'.heap.size w' w'') := fun w' h' => q4 w' vl2 l2 (kl2.below h')
  have Dl2 : Hid (∀ w', Below w.heap.size w w' → w'.cell? ⟨b, o + 6, none⟩ = some vl2) := fun w' h' => (h'.cell hb).trans (hc 6 _ rfl)
  have Rl3 : Hid (∀ w', Below w.heap.size w w' → Calls Tryz.prog 57 #[vl3, .func (.func 58) #[] #[]] w' fun e w'' => e = outc (Nd.errF (Nd.err 5) l3) ∧ Below w'.heap.size w' w'') := fun w' h' => q5 w' vl3 l3 (kl3.below h')
  have Dl3 : Hid (∀ w', Below w.heap.size w w' → w'.cell? ⟨b, o + 7, none⟩ = some vl3) := fun w' h' => (h'.cell hb).trans (hc 7 _ rfl)
  have Rl4 : Hid (∀ w', Below w.heap.size w w' → Calls Tryz.prog 59 #[vl4, .func (.func 60) #[] #[]] w' fun e w'' => e = outc (Nd.errF (Nd.err 6) l4) ∧ Below w'.heap.size w' w'') := fun w' h' => q6 w' vl4 l4 (kl4.below h')
  have Dl4 : Hid (∀ w', Below w.heap.size w w' → w'.cell? ⟨b, o + 8, none⟩ = some vl4) := fun w' h' => (h'.cell hb).trans (hc 8 _ rfl)
  clear hc kl0 kl1 kl2 kl3 kl4 q0 q2 q4 q5 q6
  have HE0 : Hid (Nd.err 3 (.mk [.int k, .int 0, .str s, .strs p] [l0, l1, l2, l3, l4]) = Nd.firstE (Nd.ownN 3 (.mk [.int k, .int 0, .str s, .strs p] [l0, l1, l2, l3, l4])) (Nd.firstE (Nd.errF (Nd.err 0) l0) (Nd.firstE (Nd.errF (Nd.err 2) l1) (Nd.firstE (Nd.errF (Nd.err 4) l2) (Nd.firstE (Nd.errF (Nd.err 5) l3) (Nd.errF (Nd.err 6) l4)))))) := by
    show _ = _
    rw [Nd.err]
    simp only [Nd.subs, Nd.errLL, Nd.errL_eq, Nd.firstE_right]
    rfl
  go_enter Tryz.func21, Tryz.ntmps21
  go_wp2_with (first | (go_at_call 59; refine (Rl4.out _ hB5).mono ?_; rintro e w6 ⟨rfl, hb6⟩; have hB6 := bl_tr hB5 hb6; clear hb6; refine (outc_cases (Nd.errF (Nd.err 6) l4)).elim (fun ⟨hz, he⟩ => ?_) (fun ⟨hz, he⟩ => by rw [he]; exact ⟨rfl, (by rw [HE5.out]; exact he.symm), hB6⟩); rw [he]; have HE6 : Hid (outc (Nd.err 3 (.mk [.int k, .int 0, .str s, .strs p] [l0, l1, l2, l3, l4])) = .returned (.tuple #[])) := (by show _ = _; rw [HE5.out]; exact he); clear HE5 hz he) | (go_at_call 57; refine (Rl3.out _ hB4).mono ?_; rintro e w5 ⟨rfl, hb5⟩; have hB5 := bl_tr hB4 hb5; clear hb5; refine (outc_cases (Nd.errF (Nd.err 5) l3)).elim (fun ⟨hz, he⟩ => ?_) (fun ⟨hz, he⟩ => by rw [he]; exact ⟨rfl, (by rw [HE4.out, Nd.firstE_ne hz]; exact he.symm), hB5⟩); rw [he]; have HE5 : Hid (Nd.err 3 (.mk [.int k, .int 0, .str s, .strs p] [l0, l1, l2, l3, l4]) = Nd.errF (Nd.err 6) l4) := HE4.out.trans (Nd.firstE_zero hz); clear HE4 hz he; have f4 := Dl4.out _ hB5) | (go_at_call 55; refine (Rl2.out _ hB3).mono ?_; rintro e w4 ⟨rfl, hb4⟩; have hB4 := bl_tr hB3 hb4; clear hb4; refine (outc_cases (Nd.errF (Nd.err 4) l2)).elim (fun ⟨hz, he⟩ => ?_) (fun ⟨hz, he⟩ => by rw [he]; exact ⟨rfl, (by rw [HE3.out, Nd.firstE_ne hz]; exact he.symm), hB4⟩); rw [he]; have HE4 : Hid (Nd.err 3 (.mk [.int k, .int 0, .str s, .strs p] [l0, l1, l2, l3, l4]) = Nd.firstE (Nd.errF (Nd.err 5) l3) (Nd.errF (Nd.err 6) l4)) := HE3.out.trans (Nd.firstE_zero hz); clear HE3 hz he; have f3 := Dl3.out _ hB4) | (go_at_call 54; refine (Rl1.out _ hB2).mono ?_; rintro e w3 ⟨rfl, hb3⟩; have hB3 := bl_tr hB2 hb3; clear hb3; refine (outc_cases (Nd.errF (Nd.err 2) l1)).elim (fun ⟨hz, he⟩ => ?_) (fun ⟨hz, he⟩ => by rw [he]; exact ⟨rfl, (by rw [HE2.out, Nd.firstE_ne hz]; exact he.symm), hB3⟩); rw [he]; have HE3 : Hid (Nd.err 3 (.mk [.int k, .int 0, .str s, .strs p] [l0, l1, l2, l3, l4]) = Nd.firstE (Nd.errF (Nd.err 4) l2) (Nd.firstE (Nd.errF (Nd.err 5) l3) (Nd.errF (Nd.err 6) l4))) := HE2.out.trans (Nd.firstE_zero hz); clear HE2 hz he; have f2 := Dl2.out _ hB3) | (go_at_call 52; refine (Rl0.out _ hB1).mono ?_; rintro e w2 ⟨rfl, hb2⟩; have hB2 := bl_tr hB1 hb2; clear hb2; refine (outc_cases (Nd.errF (Nd.err 0) l0)).elim (fun ⟨hz, he⟩ => ?_) (fun ⟨hz, he⟩ => by rw [he]; exact ⟨rfl, (by rw [HE1.out, Nd.firstE_ne hz]; exact he.symm), hB2⟩); rw [he]; have HE2 : Hid (Nd.err 3 (.mk [.int k, .int 0, .str s, .strs p] [l0, l1, l2, l3, l4]) = Nd.firstE (Nd.errF (Nd.err 2) l1) (Nd.firstE (Nd.errF (Nd.err 4) l2) (Nd.firstE (Nd.errF (Nd.err 5) l3) (Nd.errF (Nd.err 6) l4)))) := HE1.out.trans (Nd.firstE_zero hz); clear HE1 hz he; have f1 := Dl1.out _ hB2) | (go_at_call 51; refine Q.mono ?_; rintro e w1 ⟨rfl, hB1⟩; refine (outc_cases (Nd.ownN 3 (.mk [.int k, .int 0, .str s, .strs p] [l0, l1, l2, l3, l4]))).elim (fun ⟨hz, he⟩ => ?_) (fun ⟨hz, he⟩ => by rw [he]; exact ⟨rfl, (by rw [HE0.out, Nd.firstE_ne hz]; exact he.symm), hB1⟩); rw [he]; have HE1 : Hid (Nd.err 3 (.mk [.int k, .int 0, .str s, .strs p] [l0, l1, l2, l3, l4]) = Nd.firstE (Nd.errF (Nd.err 0) l0) (Nd.firstE (Nd.errF (Nd.err 2) l1) (Nd.firstE (Nd.errF (Nd.err 4) l2) (Nd.firstE (Nd.errF (Nd.err 5) l3) (Nd.errF (Nd.err 6) l4))))) := HE0.out.trans (Nd.firstE_zero hz); clear HE0 hz he; have f0 := Dl0.out _ hB1))
  go_end0
  exact ⟨HE6.out.symm, hB6⟩

end Go.Proofs.YtgiegjghldhppabGreat
