/- The walk of NamesLabels: for any text it returns true, and nothing that lay has turned. -/
import Derived.Test.YtcccmbiocknknaaDoorRefLabel
namespace Go.Proofs.YtcccmbiocknknaaDoor
open Go.RowKit Go.Shelf
set_option linter.unusedVariables false

set_option maxHeartbeats 2000000 in
theorem labels_walk (s : ByteArray) (hs : s.size ≤ 9223372036854775800) (w : World) : Calls Tryd.prog 6 #[.string s] w fun e w' => e = .returned (.bool true) ∧ Below w.heap.size w w' := by
  have hm : s.size ≤ maxLen := by unfold maxLen; omega
  have e1 : ((s ++ (⟨#[40, 41]⟩ : ByteArray)).toList == (s ++ (⟨#[40, 41]⟩ : ByteArray)).toList) = true := beq_self_eq_true _
  have e2 : (((⟨#[111, 117, 116, 32]⟩ : ByteArray) ++ s).toList == ((⟨#[111, 117, 116, 32]⟩ : ByteArray) ++ s).toList) = true := beq_self_eq_true _
  have e3 : ((Nm.label s).1 == (Nm.label s).1) = true := beq_self_eq_true _
  have e4 : ((Nm.label s).2.toList == (Nm.label s).2.toList) = true := beq_self_eq_true _
  go_enter Tryd.func6, Tryd.ntmps6
  go_wp2_with (first
    | (go_at_call 33; refine (label_any _ hm _).mono ?_; rintro e w' ⟨rfl, rfl⟩)
    | (go_at_call 34; refine (refLabel_any _ hm _).mono ?_; rintro e w1 ⟨rfl, hb1⟩)
    | (go_at_call 35; refine (con_any _ hs _).mono ?_; rintro e w' ⟨rfl, rfl⟩)
    | (go_at_call 36; refine (refCon_any _ hs _).mono ?_; rintro e w' ⟨rfl, rfl⟩)
    | (go_at_call 37; refine (out_any _ hs _).mono ?_; rintro e w' ⟨rfl, rfl⟩)
    | (go_at_call 38; refine (refOut_any _ hs _).mono ?_; rintro e w' ⟨rfl, rfl⟩)
    | (go_at_call 22; refine (alive_any _).mono ?_; rintro e w2 ⟨rfl, hb2⟩))
  go_ret
  exact ⟨rfl, btr hb1 hb2⟩
end Go.Proofs.YtcccmbiocknknaaDoor
