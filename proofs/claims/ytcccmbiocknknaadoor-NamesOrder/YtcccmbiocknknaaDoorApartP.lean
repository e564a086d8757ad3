/- Plain mathematics of labels: a label tells its sort and its name. -/
import Derived.Test.YtcccmbiocknknaaDoorLabel
namespace Go.Proofs.YtcccmbiocknknaaDoor
set_option linter.unusedVariables false

theorem Nm.spelt_body {s : ByteArray} (h : Nm.spelt s = true) {b : UInt8} (hb : b ∈ s.data.toList) : Nm.body (b.toNat : Int) = true := by
  unfold Nm.spelt at h
  cases hl : s.data.toList with
  | nil => rw [hl] at hb; cases hb
  | cons c t =>
    rw [hl] at h hb
    simp only [Nm.speltL, Bool.and_eq_true, List.all_eq_true] at h
    rcases List.mem_cons.1 hb with rfl | hb
    · exact Nm.body_letter h.1
    · exact h.2 b hb
theorem Nm.lower_spelt {s : ByteArray} (h : Nm.lower s = true) : Nm.spelt s = true := by
  unfold Nm.lower at h
  rw [Bool.and_eq_true] at h
  exact (Nm.right_zero (of_decide_eq_true h.1)).1
theorem Nm.upper_spelt {s : ByteArray} (h : Nm.upper s = true) : Nm.spelt s = true := by
  unfold Nm.upper at h
  rw [Bool.and_eq_true] at h
  exact (Nm.right_zero (of_decide_eq_true h.1)).1
theorem Nm.not_spelt {s : ByteArray} {b : UInt8} (hb : b ∈ s.data.toList) (h : Nm.body (b.toNat : Int) = false) : Nm.spelt s = false := by
  cases hs : Nm.spelt s with
  | false => rfl
  | true => rw [Nm.spelt_body hs hb] at h; cases h
theorem Nm.not_lower {s : ByteArray} (h : Nm.spelt s = false) : Nm.lower s = false := by
  cases hs : Nm.lower s with
  | false => rfl
  | true => rw [Nm.lower_spelt hs] at h; cases h
theorem Nm.not_upper {s : ByteArray} (h : Nm.spelt s = false) : Nm.upper s = false := by
  cases hs : Nm.upper s with
  | false => rfl
  | true => rw [Nm.upper_spelt hs] at h; cases h
theorem Nm.low_high {s : ByteArray} (h : Nm.lower s = true) : Nm.upper s = false := by
  unfold Nm.lower at h
  unfold Nm.upper
  rw [Bool.and_eq_true] at h
  have h2 := h.2
  unfold Nm.low at h2
  rw [Bool.and_eq_true, decide_eq_true_eq, decide_eq_true_eq] at h2
  have : Nm.high (Nm.head s) = false := by unfold Nm.high; rw [decide_eq_false (by omega : ¬ Nm.head s ≤ 90), Bool.and_false]
  rw [this, Bool.and_false]

theorem Nm.con_data (a : ByteArray) : (a ++ (⟨#[40, 41]⟩ : ByteArray)).data.toList = a.data.toList ++ [40, 41] := by rw [ByteArray.data_append, Array.toList_append]
theorem Nm.out_data (a : ByteArray) : ((⟨#[111, 117, 116, 32]⟩ : ByteArray) ++ a).data.toList = [111, 117, 116, 32] ++ a.data.toList := by rw [ByteArray.data_append, Array.toList_append]
theorem Nm.bytes_inj {a b : ByteArray} (h : a.data.toList = b.data.toList) : a = b := by rw [Nm.bytes_of h]

theorem Nm.stem_con (a : ByteArray) : Nm.stem (a ++ (⟨#[40, 41]⟩ : ByteArray)) = a := by
  apply Nm.bytes_inj
  unfold Nm.stem
  rw [Lib.extract_data, Nm.con_data, ByteArray.size_append, show (⟨#[40, 41]⟩ : ByteArray).size = 2 from rfl, List.drop_zero, show a.size + 2 - 2 - 0 = a.data.toList.length from by rw [Nm.len]; omega, List.take_left]
theorem Nm.rest_out (a : ByteArray) : Nm.rest ((⟨#[111, 117, 116, 32]⟩ : ByteArray) ++ a) = a := by
  apply Nm.bytes_inj
  unfold Nm.rest
  rw [Nm.extract_end, Nm.out_data]
  rfl
theorem Nm.sufd_con (a : ByteArray) : Nm.sufd (a ++ (⟨#[40, 41]⟩ : ByteArray)) = true := by
  unfold Nm.sufd
  rw [Nm.con_data]
  exact List.isSuffixOf_iff_suffix.2 ⟨_, rfl⟩
theorem Nm.pred_out (a : ByteArray) : Nm.pred ((⟨#[111, 117, 116, 32]⟩ : ByteArray) ++ a) = true := by
  unfold Nm.pred
  rw [Nm.out_data]
  exact List.isPrefixOf_iff_prefix.2 ⟨_, rfl⟩

theorem Nm.pred_split {s : ByteArray} (h : Nm.pred s = true) : s.data.toList = [111, 117, 116, 32] ++ (Nm.rest s).data.toList := by
  obtain ⟨t, ht⟩ := List.isPrefixOf_iff_prefix.1 h
  unfold Nm.rest
  rw [Nm.extract_end, ← ht]
  rfl
theorem Nm.sufd_split {s : ByteArray} (h : Nm.sufd s = true) : s.data.toList = (Nm.stem s).data.toList ++ [40, 41] := by
  obtain ⟨t, ht⟩ := List.isSuffixOf_iff_suffix.1 h
  have hl := Nm.len s
  rw [← ht] at hl
  unfold Nm.stem
  rw [Lib.extract_data, ← ht, List.drop_zero, show s.size - 2 - 0 = t.length from by simp at hl; omega, List.take_left]

theorem Nm.label_low {a : ByteArray} (h : Nm.lower a = true) : Nm.label a = (1, a) := by unfold Nm.label; rw [if_pos h]
theorem Nm.label_high {a : ByteArray} (h : Nm.lower a = false) (h2 : Nm.upper a = true) : Nm.label a = (2, a) := by unfold Nm.label; rw [if_neg (by simp [h]), if_pos h2]
theorem Nm.con_spelt (a : ByteArray) : Nm.spelt (a ++ (⟨#[40, 41]⟩ : ByteArray)) = false := Nm.not_spelt (b := 40) (by rw [Nm.con_data]; simp) (by decide)
theorem Nm.out_spelt (a : ByteArray) : Nm.spelt ((⟨#[111, 117, 116, 32]⟩ : ByteArray) ++ a) = false := Nm.not_spelt (b := 32) (by rw [Nm.out_data]; simp) (by decide)

theorem Nm.label_con (a : ByteArray) : Nm.label (a ++ (⟨#[40, 41]⟩ : ByteArray)) = if Nm.upper a = true then (3, a) else (0, ⟨#[]⟩) := by
  unfold Nm.label
  rw [if_neg (by rw [Nm.not_lower (Nm.con_spelt a)]; simp), if_neg (by rw [Nm.not_upper (Nm.con_spelt a)]; simp), Nm.sufd_con, Nm.stem_con]
  by_cases h : Nm.upper a = true
  · rw [if_pos ⟨rfl, h⟩, if_pos h]
  · rw [if_neg (fun x => h x.2), if_neg h, if_neg]
    rintro ⟨h1, h2⟩
    have e := Nm.pred_split h1
    rw [Nm.con_data] at e
    have hs := Nm.lower_spelt h2
    have hp := Nm.spelt_pos hs
    have hne : (Nm.rest (a ++ (⟨#[40, 41]⟩ : ByteArray))).data.toList ≠ [] := by
      intro e0
      have := Nm.len (Nm.rest (a ++ (⟨#[40, 41]⟩ : ByteArray)))
      rw [e0] at this
      simp at this
      omega
    have hl : (41 : UInt8) ∈ (Nm.rest (a ++ (⟨#[40, 41]⟩ : ByteArray))).data.toList := by
      generalize (Nm.rest (a ++ (⟨#[40, 41]⟩ : ByteArray))).data.toList = r at e hne ⊢
      have e1 := congrArg List.getLast? e
      rw [List.getLast?_append, List.getLast?_append] at e1
      cases hr : r.getLast? with
      | none => exact absurd (List.getLast?_eq_none_iff.1 hr) hne
      | some x =>
        rw [hr] at e1
        obtain rfl : 41 = x := by simpa using e1
        exact List.mem_of_getLast? hr
    have := Nm.spelt_body hs hl
    exact absurd this (by decide)

theorem Nm.label_out (a : ByteArray) : Nm.label ((⟨#[111, 117, 116, 32]⟩ : ByteArray) ++ a) = if Nm.lower a = true then (4, a) else (0, ⟨#[]⟩) := by
  unfold Nm.label
  rw [if_neg (by rw [Nm.not_lower (Nm.out_spelt a)]; simp), if_neg (by rw [Nm.not_upper (Nm.out_spelt a)]; simp), if_neg, Nm.pred_out, Nm.rest_out]
  · by_cases h : Nm.lower a = true
    · rw [if_pos ⟨rfl, h⟩, if_pos h]
    · rw [if_neg (fun x => h x.2), if_neg h]
  · rintro ⟨h1, h2⟩
    have e := Nm.sufd_split h1
    rw [Nm.out_data] at e
    have hs := Nm.upper_spelt h2
    have key : (32 : UInt8) ∈ (Nm.stem ((⟨#[111, 117, 116, 32]⟩ : ByteArray) ++ a)).data.toList := by
      generalize (Nm.stem ((⟨#[111, 117, 116, 32]⟩ : ByteArray) ++ a)).data.toList = l at e ⊢
      rcases l with _ | ⟨x1, _ | ⟨x2, _ | ⟨x3, _ | ⟨x4, t⟩⟩⟩⟩ <;> simp at e
      · obtain ⟨_, _, _, h, _⟩ := e; simp [← h]
    exact absurd (Nm.spelt_body hs key) (by decide)

theorem Nm.con_eq (a b : ByteArray) : ((a ++ (⟨#[40, 41]⟩ : ByteArray)).toList == (b ++ (⟨#[40, 41]⟩ : ByteArray)).toList) = (a.toList == b.toList) := by
  rw [Lib.toList_data, Lib.toList_data, Lib.toList_data, Lib.toList_data, Nm.con_data, Nm.con_data]
  apply Bool.eq_iff_iff.2
  rw [beq_iff_eq, beq_iff_eq]
  exact ⟨fun h => List.append_cancel_right h, fun h => by rw [h]⟩
theorem Nm.out_eq (a b : ByteArray) : (((⟨#[111, 117, 116, 32]⟩ : ByteArray) ++ a).toList == ((⟨#[111, 117, 116, 32]⟩ : ByteArray) ++ b).toList) = (a.toList == b.toList) := by
  rw [Lib.toList_data, Lib.toList_data, Lib.toList_data, Lib.toList_data, Nm.out_data, Nm.out_data]
  apply Bool.eq_iff_iff.2
  rw [beq_iff_eq, beq_iff_eq]
  exact ⟨fun h => List.append_cancel_left h, fun h => by rw [h]⟩
end Go.Proofs.YtcccmbiocknknaaDoor
