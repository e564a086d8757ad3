/- The walk of NamesPaths: for any list of texts and any text it returns true, and nothing that lay has turned. -/
import Derived.Test.YtcccmbiocknknaaDoorRefSplit
import Derived.Test.YtcccmbiocknknaaDoorRefJoin
import Derived.Test.YtcccmbiocknknaaDoorBackW
namespace Go.Proofs.YtcccmbiocknknaaDoor
open Go.RowKit Go.Shelf
set_option linter.unusedVariables false

set_option maxRecDepth 100000 in
set_option maxHeartbeats 4000000 in
theorem paths_walk (v : Value) (p : List ByteArray) (s : ByteArray) (w : World) (hv : Strs w v p) (hcv : CapOk v) (hB : Nm.bulk p ≤ 1048576) (hsz : ∀ x, x ∈ p → x.size ≤ maxLen) (hs : s.size ≤ 1048576) :
    Calls Tryd.prog 5 #[v, .string s] w fun e w' => e = .returned (.bool true) ∧ Below w.heap.size w w' := by
  have hb0 := Nm.bulk_len p
  have hb1 := Nm.bulk_joined p
  have hN : p.length ≤ 140737488355328 := by omega
  have hJ : (Nm.join p).size ≤ 140737488355328 := by omega
  have hL : p.length ≤ maxLen := by unfold maxLen; omega
  have hsm : s.size ≤ maxLen := by unfold maxLen; omega
  have hs2 : s.size ≤ 2097152 := by omega
  have hLm : (Nm.splitP s).length ≤ maxLen := by
    unfold Nm.splitP maxLen
    split
    · rename_i h
      have := (Nm.path_ok h).2.1
      omega
    · exact Nat.zero_le _
  have e1 : (Nm.path p == Nm.path p) = true := beq_self_eq_true _
  have e2 : ((Nm.join p).toList == (Nm.join p).toList) = true := beq_self_eq_true _
  have e3 : (Nm.splitV s == Nm.splitV s) = true := beq_self_eq_true _
  clear hb0 hb1
  go_enter Tryd.func5, Tryd.ntmps5
  go_wp2_with (first
    | (go_at_call 27; refine (split_any s hsm _).mono ?_; rintro e w1 ⟨⟨l, rfl, hl1, hcl⟩, hb1⟩)
    | (go_at_call 28; refine (refSplit_any s hs2 _).mono ?_; rintro e w2 ⟨⟨m, rfl, hm2⟩, hb2⟩; have hv2 := hv.below (btr hb1 hb2) (Nat.le_refl _))
    | (go_at_call 29; refine (path_any _ _ _ hv2 hsz hL).mono ?_; rintro e w3 ⟨rfl, hw3⟩; rw [hw3]; clear hw3 w3)
    | (go_at_call 30; refine (refPath_any _ _ _ hv2 hsz hL).mono ?_; rintro e w4 ⟨rfl, hb4⟩; have hv4 := hv2.below hb4 (Nat.le_refl _))
    | (go_at_call 31; refine (join_any _ _ _ hv4 hcv hN hJ).mono ?_; rintro e w5 ⟨rfl, hb5⟩; have hv5 := hv4.below hb5 (Nat.le_refl _))
    | (go_at_call 32; refine (refJoin_any _ _ _ hv5 hB).mono ?_; rintro e w6 ⟨rfl, hw6⟩; rw [hw6]; clear hw6 w6)
    | (go_at_call 10; refine (texts_same' (((hl1.below hb2 (Nat.le_refl _)).below hb4 (Nat.le_refl _)).below hb5 (Nat.le_refl _)) ((hm2.below hb4 (Nat.le_refl _)).below hb5 (Nat.le_refl _)) hLm).mono ?_; rintro e w7 ⟨rfl, hb7⟩)
    | (go_at_call 22; refine (alive_any _).mono ?_; rintro e w9 ⟨rfl, hb9⟩))
  go_ret
  exact ⟨rfl, btr (btr (btr (btr (btr hb1 hb2) hb4) hb5) hb7) hb9⟩
end Go.Proofs.YtcccmbiocknknaaDoor
