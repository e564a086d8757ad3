/- Pieces: NdRW NdRZ NdT. -/
import Derived.Test.YtjebepnphoeiaaaGreatDoorQbg
import Derived.Test.YtjebepnphoeiaaaGreatDoorQbh
import Derived.Test.YtjebepnphoeiaaaGreatDoorQbi
import Derived.Test.YtjebepnphoeiaaaGreatDoorQbj
import Derived.Test.YtjebepnphoeiaaaGreatDoorQbk
import Derived.Test.YtjebepnphoeiaaaGreatDoorQbl
import Derived.Test.YtjebepnphoeiaaaGreatDoorQbm
import Derived.Test.YtjebepnphoeiaaaGreatDoorQbn
namespace Go.Proofs.YtjebepnphoeiaaaGreatDoor
open Go.RowKit
set_option linter.unusedVariables false

set_option maxRecDepth 100000 in
theorem inLet_any (n : Nat) : ErrOf 205 Nd.letE n 3 := by
 intro w b o vs nd hb hc ha
 cases n with
 | zero => exact ha.elim
 | succ n =>
  obtain ⟨k, pl, s, vp, p, v0, l0, v1, l1, v2, l2, v3, l3, v4, l4, rfl, rfl, -⟩ := At.dec ha
  have hp := pn_any
  have d0 : w.cell? ⟨b, o, none⟩ = some (.int .i64 k) := hc 0 _ rfl
  clear hc ha
  by_cases h1 : k = 1
  ·
   subst h1
   go_enter Tryz.func205, Tryz.ntmps205
   go_wp2
   go_end0
   exact ⟨rfl, Below.refl _ _⟩
  ·
   by_cases h2 : k = 2
   ·
    subst h2
    go_enter Tryz.func205, Tryz.ntmps205
    go_wp2
    go_end0
    exact ⟨rfl, Below.refl _ _⟩
   ·
    have H : Hid (outc (Nd.letE (.mk [.int k, .int 0, .str s, .strs p] [l0, l1, l2, l3, l4])) = .panicked [{ v := .iface 29 (.int .i64 1), recovered := false }]) := by
     show outc (if k = 1 ∨ k = 2 then 0 else 1) = _
     rw [if_neg (by omega)]
     exact outc_err (by decide)
    have e1 : (k != 1) = true := by rw [bne_iff_ne]; exact h1
    have e2 : (k != 2) = true := by rw [bne_iff_ne]; exact h2
    clear h1 h2
    go_enter Tryz.func205, Tryz.ntmps205
    go_wp2
    exact ⟨rfl, H.out.symm, Below.refl _ _⟩

set_option maxHeartbeats 2000000 in
set_option maxRecDepth 100000 in
theorem right2 (n : Nat) (qo : ErrOf 137 (Nd.ownN 2) (n + 1) 2) (q1 : ErrLOf 131 88 (Nd.err 1) n 1) (q2 : ErrLOf 132 76 (Nd.err 2) n 2) (q3 : ErrLOf 133 138 (Nd.err 3) n 3) (q0 : ErrLOf 135 96 (Nd.err 0) n 0) : ErrOf 76 (Nd.err 2) (n + 1) 2 := by
 intro w b o vs nd hb hc ha
 have Q := qo w b o vs nd hb hc ha
 obtain ⟨k, op, m, vp, p, vl0, l0, vl1, l1, vl2, l2, vl3, l3, rfl, rfl, -, -, -, -, kl0, kl1, kl2, kl3⟩ := At.exp ha
 clear ha qo
 have Rl0 : Hid (∀ w', Below w.heap.size w w' → Calls Tryz.prog 131 #[vl0, .func (.func 88) #[] #[]] w' fun e w'' => e = outc (Nd.errF (Nd.err 1) l0) ∧ Below w'.heap.size w' w'') := fun w' h' => q1 w' vl0 l0 (kl0.below h')
 have Dl0 : Hid (∀ w', Below w.heap.size w w' → w'.cell? ⟨b, o + 4, none⟩ = some vl0) := fun w' h' => (h'.cell hb).trans (hc 4 _ rfl)
 have Rl1 : Hid (∀ w', Below w.heap.size w w' → Calls Tryz.prog 132 #[vl1, .func (.func 76) #[] #[]] w' fun e w'' => e = outc (Nd.errF (Nd.err 2) l1) ∧ Below w'.heap.size w' w'') := fun w' h' => q2 w' vl1 l1 (kl1.below h')
 have Dl1 : Hid (∀ w', Below w.heap.size w w' → w'.cell? ⟨b, o + 5, none⟩ = some vl1) := fun w' h' => (h'.cell hb).trans (hc 5 _ rfl)
 have Rl2 : Hid (∀ w', Below w.heap.size w w' → Calls Tryz.prog 133 #[vl2, .func (.func 138) #[] #[]] w' fun e w'' => e = outc (Nd.errF (Nd.err 3) l2) ∧ Below w'.heap.size w' w'') := fun w' h' => q3 w' vl2 l2 (kl2.below h')
 have Dl2 : Hid (∀ w', Below w.heap.size w w' → w'.cell? ⟨b, o + 6, none⟩ = some vl2) := fun w' h' => (h'.cell hb).trans (hc 6 _ rfl)
 have Rl3 : Hid (∀ w', Below w.heap.size w w' → Calls Tryz.prog 135 #[vl3, .func (.func 96) #[] #[]] w' fun e w'' => e = outc (Nd.errF (Nd.err 0) l3) ∧ Below w'.heap.size w' w'') := fun w' h' => q0 w' vl3 l3 (kl3.below h')
 have Dl3 : Hid (∀ w', Below w.heap.size w w' → w'.cell? ⟨b, o + 7, none⟩ = some vl3) := fun w' h' => (h'.cell hb).trans (hc 7 _ rfl)
 clear hc kl0 kl1 kl2 kl3 q1 q2 q3 q0
 have HE0 : Hid (Nd.err 2 (.mk [.int k, .int op, .int m, .strs p] [l0, l1, l2, l3]) = Nd.firstE (Nd.ownN 2 (.mk [.int k, .int op, .int m, .strs p] [l0, l1, l2, l3])) (Nd.firstE (Nd.errF (Nd.err 1) l0) (Nd.firstE (Nd.errF (Nd.err 2) l1) (Nd.firstE (Nd.errF (Nd.err 3) l2) (Nd.errF (Nd.err 0) l3))))) := by
  show _ = _
  rw [Nd.err]
  simp only [Nd.subs, Nd.errLL, Nd.errL_eq, Nd.firstE_right]
  rfl
 go_enter Tryz.func76, Tryz.ntmps76
 go_wp2_with (first | (go_at_call 135; refine (Rl3.out _ hB4).mono ?_; rintro e w5 ⟨rfl, hb5⟩; have hB5 := bl_tr hB4 hb5; clear hb5; refine (outc_cases (Nd.errF (Nd.err 0) l3)).elim (fun ⟨hz, he⟩ => ?_) (fun ⟨hz, he⟩ => by rw [he]; exact ⟨rfl, (by rw [HE4.out]; exact he.symm), hB5⟩); rw [he]; have HE5 : Hid (outc (Nd.err 2 (.mk [.int k, .int op, .int m, .strs p] [l0, l1, l2, l3])) = .returned (.tuple #[])) := (by show _ = _; rw [HE4.out]; exact he); clear HE4 hz he) | (go_at_call 133; refine (Rl2.out _ hB3).mono ?_; rintro e w4 ⟨rfl, hb4⟩; have hB4 := bl_tr hB3 hb4; clear hb4; refine (outc_cases (Nd.errF (Nd.err 3) l2)).elim (fun ⟨hz, he⟩ => ?_) (fun ⟨hz, he⟩ => by rw [he]; exact ⟨rfl, (by rw [HE3.out, Nd.firstE_ne hz]; exact he.symm), hB4⟩); rw [he]; have HE4 : Hid (Nd.err 2 (.mk [.int k, .int op, .int m, .strs p] [l0, l1, l2, l3]) = Nd.errF (Nd.err 0) l3) := HE3.out.trans (Nd.firstE_zero hz); clear HE3 hz he; have f3 := Dl3.out _ hB4) | (go_at_call 132; refine (Rl1.out _ hB2).mono ?_; rintro e w3 ⟨rfl, hb3⟩; have hB3 := bl_tr hB2 hb3; clear hb3; refine (outc_cases (Nd.errF (Nd.err 2) l1)).elim (fun ⟨hz, he⟩ => ?_) (fun ⟨hz, he⟩ => by rw [he]; exact ⟨rfl, (by rw [HE2.out, Nd.firstE_ne hz]; exact he.symm), hB3⟩); rw [he]; have HE3 : Hid (Nd.err 2 (.mk [.int k, .int op, .int m, .strs p] [l0, l1, l2, l3]) = Nd.firstE (Nd.errF (Nd.err 3) l2) (Nd.errF (Nd.err 0) l3)) := HE2.out.trans (Nd.firstE_zero hz); clear HE2 hz he; have f2 := Dl2.out _ hB3) | (go_at_call 131; refine (Rl0.out _ hB1).mono ?_; rintro e w2 ⟨rfl, hb2⟩; have hB2 := bl_tr hB1 hb2; clear hb2; refine (outc_cases (Nd.errF (Nd.err 1) l0)).elim (fun ⟨hz, he⟩ => ?_) (fun ⟨hz, he⟩ => by rw [he]; exact ⟨rfl, (by rw [HE1.out, Nd.firstE_ne hz]; exact he.symm), hB2⟩); rw [he]; have HE2 : Hid (Nd.err 2 (.mk [.int k, .int op, .int m, .strs p] [l0, l1, l2, l3]) = Nd.firstE (Nd.errF (Nd.err 2) l1) (Nd.firstE (Nd.errF (Nd.err 3) l2) (Nd.errF (Nd.err 0) l3))) := HE1.out.trans (Nd.firstE_zero hz); clear HE1 hz he; have f1 := Dl1.out _ hB2) | (go_at_call 137; refine Q.mono ?_; rintro e w1 ⟨rfl, hB1⟩; refine (outc_cases (Nd.ownN 2 (.mk [.int k, .int op, .int m, .strs p] [l0, l1, l2, l3]))).elim (fun ⟨hz, he⟩ => ?_) (fun ⟨hz, he⟩ => by rw [he]; exact ⟨rfl, (by rw [HE0.out, Nd.firstE_ne hz]; exact he.symm), hB1⟩); rw [he]; have HE1 : Hid (Nd.err 2 (.mk [.int k, .int op, .int m, .strs p] [l0, l1, l2, l3]) = Nd.firstE (Nd.errF (Nd.err 1) l0) (Nd.firstE (Nd.errF (Nd.err 2) l1) (Nd.firstE (Nd.errF (Nd.err 3) l2) (Nd.errF (Nd.err 0) l3)))) := HE0.out.trans (Nd.firstE_zero hz); clear HE0 hz he; have f0 := Dl0.out _ hB1))
 go_end0
 exact ⟨HE5.out.symm, hB5⟩

set_option maxHeartbeats 2000000 in
set_option maxRecDepth 100000 in
theorem right3 (n : Nat) (qo : ErrOf 206 (Nd.ownN 3) (n + 1) 3) (q0 : ErrLOf 135 96 (Nd.err 0) n 0) (q2 : ErrLOf 132 76 (Nd.err 2) n 2) (q4 : ErrLOf 199 207 (Nd.err 4) n 4) (q5 : ErrLOf 201 208 (Nd.err 5) n 5) (q6 : ErrLOf 203 209 (Nd.err 6) n 6) : ErrOf 138 (Nd.err 3) (n + 1) 3 := by
 intro w b o vs nd hb hc ha
 have Q := qo w b o vs nd hb hc ha
 obtain ⟨k, pl, s, vp, p, vl0, l0, vl1, l1, vl2, l2, vl3, l3, vl4, l4, rfl, rfl, -, -, -, -, kl0, kl1, kl2, kl3, kl4⟩ := At.dec ha
 clear ha qo
 have Rl0 : Hid (∀ w', Below w.heap.size w w' → Calls Tryz.prog 135 #[vl0, .func (.func 96) #[] #[]] w' fun e w'' => e = outc (Nd.errF (Nd.err 0) l0) ∧ Below w'.heap.size w' w'') := fun w' h' => q0 w' vl0 l0 (kl0.below h')
 have Dl0 : Hid (∀ w', Below w.heap.size w w' → w'.cell? ⟨b, o + 4, none⟩ = some vl0) := fun w' h' => (h'.cell hb).trans (hc 4 _ rfl)
 have Rl1 : Hid (∀ w', Below w.heap.size w w' → Calls Tryz.prog 132 #[vl1, .func (.func 76) #[] #[]] w' fun e w'' => e = outc (Nd.errF (Nd.err 2) l1) ∧ Below w'.heap.size w' w'') := fun w' h' => q2 w' vl1 l1 (kl1.below h')
 have Dl1 : Hid (∀ w', Below w.heap.size w w' → w'.cell? ⟨b, o + 5, none⟩ = some vl1) := fun w' h' => (h'.cell hb).trans (hc 5 _ rfl)
 have Rl2 : Hid (∀ w', Below w.heap.size w w' → Calls Tryz.prog 199 #[vl2, .func (.func 207) #[] #[]] w' fun e w'' => e = outc (Nd.errF (Nd.err 4) l2) ∧ Below w'.heap.size w' w'') := fun w' h' => q4 w' vl2 l2 (kl2.below h')
 have Dl2 : Hid (∀ w', Below w.heap.size w w' → w'.cell? ⟨b, o + 6, none⟩ = some vl2) := fun w' h' => (h'.cell hb).trans (hc 6 _ rfl)
 have Rl3 : Hid (∀ w', Below w.heap.size w w' → Calls Tryz.prog 201 #[vl3, .func (.func 208) #[] #[]] w' fun e w'' => e = outc (Nd.errF (Nd.err 5) l3) ∧ Below w'.heap.size w' w'') := fun w' h' => q5 w' vl3 l3 (kl3.below h')
 have Dl3 : Hid (∀ w', Below w.heap.size w w' → w'.cell? ⟨b, o + 7, none⟩ = some vl3) := fun w' h' => (h'.cell hb).trans (hc 7 _ rfl)
 have Rl4 : Hid (∀ w', Below w.heap.size w w' → Calls Tryz.prog 203 #[vl4, .func (.func 209) #[] #[]] w' fun e w'' => e = outc (Nd.errF (Nd.err 6) l4) ∧ Below w'.heap.size w' w'') := fun w' h' => q6 w' vl4 l4 (kl4.below h')
 have Dl4 : Hid (∀ w', Below w.heap.size w w' → w'.cell? ⟨b, o + 8, none⟩ = some vl4) := fun w' h' => (h'.cell hb).trans (hc 8 _ rfl)
 clear hc kl0 kl1 kl2 kl3 kl4 q0 q2 q4 q5 q6
 have HE0 : Hid (Nd.err 3 (.mk [.int k, .int 0, .str s, .strs p] [l0, l1, l2, l3, l4]) = Nd.firstE (Nd.ownN 3 (.mk [.int k, .int 0, .str s, .strs p] [l0, l1, l2, l3, l4])) (Nd.firstE (Nd.errF (Nd.err 0) l0) (Nd.firstE (Nd.errF (Nd.err 2) l1) (Nd.firstE (Nd.errF (Nd.err 4) l2) (Nd.firstE (Nd.errF (Nd.err 5) l3) (Nd.errF (Nd.err 6) l4)))))) := by
  show _ = _
  rw [Nd.err]
  simp only [Nd.subs, Nd.errLL, Nd.errL_eq, Nd.firstE_right]
  rfl
 go_enter Tryz.func138, Tryz.ntmps138
 go_wp2_with (first | (go_at_call 203; refine (Rl4.out _ hB5).mono ?_; rintro e w6 ⟨rfl, hb6⟩; have hB6 := bl_tr hB5 hb6; clear hb6; refine (outc_cases (Nd.errF (Nd.err 6) l4)).elim (fun ⟨hz, he⟩ => ?_) (fun ⟨hz, he⟩ => by rw [he]; exact ⟨rfl, (by rw [HE5.out]; exact he.symm), hB6⟩); rw [he]; have HE6 : Hid (outc (Nd.err 3 (.mk [.int k, .int 0, .str s, .strs p] [l0, l1, l2, l3, l4])) = .returned (.tuple #[])) := (by show _ = _; rw [HE5.out]; exact he); clear HE5 hz he) | (go_at_call 201; refine (Rl3.out _ hB4).mono ?_; rintro e w5 ⟨rfl, hb5⟩; have hB5 := bl_tr hB4 hb5; clear hb5; refine (outc_cases (Nd.errF (Nd.err 5) l3)).elim (fun ⟨hz, he⟩ => ?_) (fun ⟨hz, he⟩ => by rw [he]; exact ⟨rfl, (by rw [HE4.out, Nd.firstE_ne hz]; exact he.symm), hB5⟩); rw [he]; have HE5 : Hid (Nd.err 3 (.mk [.int k, .int 0, .str s, .strs p] [l0, l1, l2, l3, l4]) = Nd.errF (Nd.err 6) l4) := HE4.out.trans (Nd.firstE_zero hz); clear HE4 hz he; have f4 := Dl4.out _ hB5) | (go_at_call 199; refine (Rl2.out _ hB3).mono ?_; rintro e w4 ⟨rfl, hb4⟩; have hB4 := bl_tr hB3 hb4; clear hb4; refine (outc_cases (Nd.errF (Nd.err 4) l2)).elim (fun ⟨hz, he⟩ => ?_) (fun ⟨hz, he⟩ => by rw [he]; exact ⟨rfl, (by rw [HE3.out, Nd.firstE_ne hz]; exact he.symm), hB4⟩); rw [he]; have HE4 : Hid (Nd.err 3 (.mk [.int k, .int 0, .str s, .strs p] [l0, l1, l2, l3, l4]) = Nd.firstE (Nd.errF (Nd.err 5) l3) (Nd.errF (Nd.err 6) l4)) := HE3.out.trans (Nd.firstE_zero hz); clear HE3 hz he; have f3 := Dl3.out _ hB4) | (go_at_call 132; refine (Rl1.out _ hB2).mono ?_; rintro e w3 ⟨rfl, hb3⟩; have hB3 := bl_tr hB2 hb3; clear hb3; refine (outc_cases (Nd.errF (Nd.err 2) l1)).elim (fun ⟨hz, he⟩ => ?_) (fun ⟨hz, he⟩ => by rw [he]; exact ⟨rfl, (by rw [HE2.out, Nd.firstE_ne hz]; exact he.symm), hB3⟩); rw [he]; have HE3 : Hid (Nd.err 3 (.mk [.int k, .int 0, .str s, .strs p] [l0, l1, l2, l3, l4]) = Nd.firstE (Nd.errF (Nd.err 4) l2) (Nd.firstE (Nd.errF (Nd.err 5) l3) (Nd.errF (Nd.err 6) l4))) := HE2.out.trans (Nd.firstE_zero hz); clear HE2 hz he; have f2 := Dl2.out _ hB3) | (go_at_call 135; refine (Rl0.out _ hB1).mono ?_; rintro e w2 ⟨rfl, hb2⟩; have hB2 := bl_tr hB1 hb2; clear hb2; refine (outc_cases (Nd.errF (Nd.err 0) l0)).elim (fun ⟨hz, he⟩ => ?_) (fun ⟨hz, he⟩ => by rw [he]; exact ⟨rfl, (by rw [HE1.out, Nd.firstE_ne hz]; exact he.symm), hB2⟩); rw [he]; have HE2 : Hid (Nd.err 3 (.mk [.int k, .int 0, .str s, .strs p] [l0, l1, l2, l3, l4]) = Nd.firstE (Nd.errF (Nd.err 2) l1) (Nd.firstE (Nd.errF (Nd.err 4) l2) (Nd.firstE (Nd.errF (Nd.err 5) l3) (Nd.errF (Nd.err 6) l4)))) := HE1.out.trans (Nd.firstE_zero hz); clear HE1 hz he; have f1 := Dl1.out _ hB2) | (go_at_call 206; refine Q.mono ?_; rintro e w1 ⟨rfl, hB1⟩; refine (outc_cases (Nd.ownN 3 (.mk [.int k, .int 0, .str s, .strs p] [l0, l1, l2, l3, l4]))).elim (fun ⟨hz, he⟩ => ?_) (fun ⟨hz, he⟩ => by rw [he]; exact ⟨rfl, (by rw [HE0.out, Nd.firstE_ne hz]; exact he.symm), hB1⟩); rw [he]; have HE1 : Hid (Nd.err 3 (.mk [.int k, .int 0, .str s, .strs p] [l0, l1, l2, l3, l4]) = Nd.firstE (Nd.errF (Nd.err 0) l0) (Nd.firstE (Nd.errF (Nd.err 2) l1) (Nd.firstE (Nd.errF (Nd.err 4) l2) (Nd.firstE (Nd.errF (Nd.err 5) l3) (Nd.errF (Nd.err 6) l4))))) := HE0.out.trans (Nd.firstE_zero hz); clear HE0 hz he; have f0 := Dl0.out _ hB1))
 go_end0
 exact ⟨HE6.out.symm, hB6⟩

structure RightAll (n : Nat) : Prop where
 s0 : ErrOf 96 (Nd.err 0) n 0
 s1 : ErrOf 88 (Nd.err 1) n 1
 s2 : ErrOf 76 (Nd.err 2) n 2
 s3 : ErrOf 138 (Nd.err 3) n 3
 s4 : ErrOf 207 (Nd.err 4) n 4
 s5 : ErrOf 208 (Nd.err 5) n 5
 s6 : ErrOf 209 (Nd.err 6) n 6
 s7 : ErrOf 244 (Nd.err 7) n 7
theorem enters_right0 : Enters 96 := enters_of Tryz.func96 (by kernel_rfl) rfl
theorem enters_right1 : Enters 88 := enters_of Tryz.func88 (by kernel_rfl) rfl
theorem enters_right2 : Enters 76 := enters_of Tryz.func76 (by kernel_rfl) rfl
theorem enters_right3 : Enters 138 := enters_of Tryz.func138 (by kernel_rfl) rfl
theorem enters_right4 : Enters 207 := enters_of Tryz.func207 (by kernel_rfl) rfl
theorem enters_right5 : Enters 208 := enters_of Tryz.func208 (by kernel_rfl) rfl
theorem enters_right6 : Enters 209 := enters_of Tryz.func209 (by kernel_rfl) rfl
theorem enters_right7 : Enters 244 := enters_of Tryz.func244 (by kernel_rfl) rfl
theorem enters_inLet : Enters 205 := enters_of Tryz.func205 (by kernel_rfl) rfl
theorem right_all : ∀ n, RightAll n
 | 0 => ⟨fun _ _ _ _ _ _ _ h => h.elim, fun _ _ _ _ _ _ _ h => h.elim, fun _ _ _ _ _ _ _ h => h.elim, fun _ _ _ _ _ _ _ h => h.elim, fun _ _ _ _ _ _ _ h => h.elim, fun _ _ _ _ _ _ _ h => h.elim, fun _ _ _ _ _ _ _ h => h.elim, fun _ _ _ _ _ _ _ h => h.elim⟩
 | n + 1 =>
  have h := right_all n
  have q0 := eachR0 96 (Nd.err 0) n enters_right0 h.s0
  have q1 := eachR1 88 (Nd.err 1) n enters_right1 h.s1
  have q2 := eachR2 76 (Nd.err 2) n enters_right2 h.s2
  have q3 := eachR3 138 (Nd.err 3) n enters_right3 h.s3
  have q4 := eachR4 207 (Nd.err 4) n enters_right4 h.s4
  have q5 := eachR5 208 (Nd.err 5) n enters_right5 h.s5
  have q6 := eachR6 209 (Nd.err 6) n enters_right6 h.s6
  have q7 := eachR7 244 (Nd.err 7) n enters_right7 h.s7
  have qlet := eachR3 205 Nd.letE n enters_inLet (inLet_any n)
  ⟨right0 n q0, right1 n q1, right2 n (own2 n qlet) q1 q2 q3 q0, right3 n (own3 n) q0 q2 q4 q5 q6, right4 n q0, right5 n q3 q5 q6, right6 n q7 q6 q0, right7 n q0 q4 q6⟩
def Nd.rightX (nd : Nd) : Int := if 100 < (nd.run ⟨0, 0, 0⟩).d then 4 else Nd.err 2 nd
theorem Mt.start1 (w : World) : Mt (w.alloc (.cells #[.int .i64 0, .int .i64 0, .int .i64 0] 163)) w.heap.size ⟨0, 0, 0⟩ := by
 refine ⟨?_, ?_, ?_, ?_, ?_, ?_⟩
 all_goals simp [go_sem]

set_option maxHeartbeats 1000000 in
set_option maxRecDepth 100000 in
theorem alone_any (n : Nat) (w : World) (b o : Nat) (vs : List Value) (nd : Nd) (hb : b < w.heap.size) (hc : Cells w b o vs) (ha : At w Any n 2 vs nd) :
  Calls Tryz.prog 74 #[.pointer (some ⟨b, o, none⟩), .func (.func 75) #[] #[], .func (.func 76) #[] #[]] w fun e w' => e = .returned (.int .i64 (Nd.rightX nd)) ∧ Below w.heap.size w w' := by
 have q : Hid (∀ ob, Mt (w.alloc ob) w.heap.size ⟨0, 0, 0⟩ → _) := fun ob hm => (meter_all n).s2 (w.alloc ob) (Old w) w.heap.size ⟨0, 0, 0⟩ b o vs nd (Nat.lt_irrefl _) hb (hc.move trivial (Keeps.of_below (K := Any) (bl_alloc (Below.refl _ _) _))) (At.move (Keeps.of_below (bl_alloc (Below.refl _ _) _)) (fun _ h => h) _ _ _ _ (At.old _ _ _ _ ha)) hm
 have r : Hid (∀ w', Below w.heap.size w w' → _) := fun w' h' => caughtExp n (right_all n).s2 w' b o vs nd (Nat.lt_of_lt_of_le hb h'.size) (hc.move trivial (Keeps.of_below (K := Any) h')) (At.move (Keeps.of_below h') (fun _ h => h) _ _ _ _ ha)
 clear hc ha hb
 by_cases hd : 100 < (nd.run ⟨0, 0, 0⟩).d
 ·
  have H : Hid (Nd.rightX nd = 4) := by show _ = _; unfold Nd.rightX; rw [if_pos hd]
  clear r
  go_enter Tryz.func74, Tryz.ntmps74
  go_wp2_with (go_at_call 75; refine (q.out _ (Mt.start1 _)).mono ?_; rintro e w1 ⟨rfl, hm1, hs1⟩; have m1 := hm1.d; have hB : Hid (Below w.heap.size w w1) := Save.below (bl_alloc (Below.refl _ _) _) hs1 (Nat.le_refl _); clear hm1 hs1)
  go_ret
  exact ⟨ret_int H.out.symm, hB⟩
 ·
  have H : Hid (Nd.rightX nd = Nd.err 2 nd) := by show _ = _; unfold Nd.rightX; rw [if_neg hd]
  go_enter Tryz.func74, Tryz.ntmps74
  go_wp2_with (first | (go_at_call 129; refine (r.out _ hB.out).mono ?_; rintro e w2 ⟨rfl, hb2⟩; have hB2 := bl_tr hB.out hb2) | (go_at_call 75; refine (q.out _ (Mt.start1 _)).mono ?_; rintro e w1 ⟨rfl, hm1, hs1⟩; have m1 := hm1.d; have hB : Hid (Below w.heap.size w w1) := Save.below (bl_alloc (Below.refl _ _) _) hs1 (Nat.le_refl _); clear hm1 hs1))
  go_ret
  exact ⟨ret_int H.out.symm, hB2⟩

set_option maxHeartbeats 1000000 in
set_option maxRecDepth 100000 in
theorem rightExp_any (n : Nat) (w : World) (vs : List Value) (nd : Nd) (ha : At w Any n 2 vs nd) :
  Calls Tryz.prog 28 #[.agg vs.toArray] w fun e w' => e = .returned (.int .i64 (Nd.rightX nd)) ∧ Below w.heap.size w w' := by
 have q : Hid (∀ t, Cells (w.alloc (.cells vs.toArray t)) w.heap.size 0 vs → _) := fun t hc => alone_any n (w.alloc (.cells vs.toArray t)) w.heap.size 0 vs nd (by simp) hc (At.move (Keeps.of_below (bl_alloc (Below.refl _ _) _)) (fun _ h => h) _ _ _ _ ha)
 have hc : ∀ t, Cells (w.alloc (.cells vs.toArray t)) w.heap.size 0 vs := fun t j v hv => by
  rw [World.cell?_alloc_at _ _ _ _ rfl]
  simpa using hv
 obtain ⟨i0, i1, i2, a3, n3, c3, d0, m0, e0, d1, m1, e1, d2, m2, e2, d3, m3, e3, rfl⟩ := At.exp_form ha
 have q2 := q.out _ (hc 28)
 clear q hc ha
 go_enter Tryz.func28, Tryz.ntmps28
 go_wp2_with (go_at_call 74; refine q2.mono ?_; rintro e w1 ⟨rfl, hb1⟩; have hB := bl_tr (bl_alloc (Below.refl _ _) _) hb1)
 go_ret
 exact ⟨rfl, hB⟩

def Nd.deepAt : Nat → List Nd → Option Nat
 | _, [] => none
 | k, x :: r => if 100 < (Nd.meter [x]).d then some k else Nd.deepAt (k + 1) r
def Nd.errAt : Nat → List Nd → Int × Int
 | _, [] => (0, 0)
 | k, x :: r => if Nd.err 3 x = 0 then Nd.errAt (k + 1) r else ((k : Int), Nd.err 3 x)
def Nd.rightL (l : List Nd) : Int × Int := match Nd.deepAt 0 l with
 | some k => ((k : Int), 4)
 | none => if 4096 < (Nd.meter l).a then (0, 3) else Nd.errAt 0 l
theorem Nd.rightL_deep {l : List Nd} {k : Nat} (h : Nd.deepAt 0 l = some k) : Nd.rightL l = ((k : Int), 4) := by unfold Nd.rightL; rw [h]
theorem Nd.rightL_big {l : List Nd} (h : Nd.deepAt 0 l = none) (hb : 4096 < (Nd.meter l).a) : Nd.rightL l = (0, 3) := by unfold Nd.rightL; rw [h]; exact if_pos hb
theorem Nd.rightL_err {l : List Nd} (h : Nd.deepAt 0 l = none) (hb : ¬ 4096 < (Nd.meter l).a) : Nd.rightL l = Nd.errAt 0 l := by unfold Nd.rightL; rw [h]; exact if_neg hb
theorem Nd.deepAt_at {l : List Nd} {k : Nat} {x : Nd} (hx : l[k]? = some x) (j : Nat) : Nd.deepAt j (l.drop k) = if 100 < (Nd.meter [x]).d then some j else Nd.deepAt (j + 1) (l.drop (k + 1)) := by
 obtain ⟨h1, e1⟩ := List.getElem?_eq_some_iff.1 hx
 rw [List.drop_eq_getElem_cons h1, e1, Nd.deepAt]
theorem Nd.errAt_at {l : List Nd} {k : Nat} {x : Nd} (hx : l[k]? = some x) (j : Nat) : Nd.errAt j (l.drop k) = if Nd.err 3 x = 0 then Nd.errAt (j + 1) (l.drop (k + 1)) else ((j : Int), Nd.err 3 x) := by
 obtain ⟨h1, e1⟩ := List.getElem?_eq_some_iff.1 hx
 rw [List.drop_eq_getElem_cons h1, e1, Nd.errAt]
theorem nd_ret_two {a b : Int} {p : Int × Int} (h : p = (a, b)) : Ending.returned (.tuple #[.int .i64 a, .int .i64 b]) = .returned (.tuple #[.int .i64 p.1, .int .i64 p.2]) := by rw [h]
theorem AtL.one {w : World} {n s b o c k : Nat} {l : List Nd} {x : Nd} (hk : ∀ (i : Nat) x, l[i]? = some x → ∃ vs, vs.length = Nd.size s ∧ Cells w b (o + i * Nd.size s) vs ∧ At w Any n s vs x) (hx : l[k]? = some x) (hc : 1 ≤ c) : AtL w Any n s (.slice (some ⟨b, o + k * Nd.size s, none⟩) 1 c) [x] := by
 refine .inl ⟨b, o + k * Nd.size s, c, rfl, trivial, hc, (by rw [List.length_singleton]; unfold maxLen; omega), fun i y hy => ?_⟩
 cases i with
 | zero =>
  obtain rfl : x = y := by simpa using hy
  obtain ⟨vs, h1, h2, h3⟩ := hk k x hx
  exact ⟨vs, h1, by simpa using h2, h3⟩
 | succ i => simp at hy
end Go.Proofs.YtjebepnphoeiaaaGreatDoor
