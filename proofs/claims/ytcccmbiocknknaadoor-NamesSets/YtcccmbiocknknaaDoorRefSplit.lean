/- What the document's own Split comes to. -/
import Derived.Test.YtcccmbiocknknaaDoorRefPath
namespace Go.Proofs.YtcccmbiocknknaaDoor
open Go.RowKit Go.Shelf
set_option linter.unusedVariables false

theorem Nm.splitL_length : ∀ l : List UInt8, (Nm.splitL l).length ≤ l.length + 1
  | [] => Nat.le_refl _
  | c :: t => by
    have ih := Nm.splitL_length t
    unfold Nm.splitL
    split
    · rw [List.length_cons, List.length_cons]; omega
    · split
      · simp
      · rename_i h r e
        rw [e] at ih
        rw [List.length_cons] at ih ⊢
        rw [List.length_cons]
        omega
theorem Nm.pieces_length (s : ByteArray) : (Nm.pieces s).length ≤ s.size + 1 := by
  have := Nm.splitL_length s.data.toList
  rw [Nm.len] at this
  unfold Nm.pieces
  rw [List.length_map]
  exact this

theorem Nm.cut_more (s : ByteArray) {f k : Nat} (hf : f ≤ k) (hk : k < s.size) : (s.data.toList.drop f).take (k + 1 - f) = (s.data.toList.drop f).take (k - f) ++ [s[k]] := by
  rw [show k + 1 - f = (k - f) + 1 from by omega, List.take_add_one, List.getElem?_drop, show f + (k - f) = k from by omega]
  congr 1
  rw [List.getElem?_eq_getElem (by rw [Nm.len]; exact hk)]
  rfl
theorem Nm.cut_hit (s : ByteArray) {f k : Nat} (hf : f ≤ k) (hk : k < s.size) (h : s[k] = 46) : s.data.toList.drop f = (s.data.toList.drop f).take (k - f) ++ 46 :: s.data.toList.drop (k + 1) := by
  conv => lhs; rw [← List.take_append_drop (k - f) (s.data.toList.drop f)]
  rw [List.drop_drop, show f + (k - f) = k from by omega, Nm.drop_cons s k hk, h]

theorem byte46 (c : UInt8) : ((c.toNat : Int) == 46) = decide (c = 46) := by
  by_cases h : c = 46
  · subst h; rfl
  · rw [decide_eq_false h, beq_eq_false_iff_ne]
    intro e
    exact h (UInt8.toNat_inj.1 (show c.toNat = (46 : UInt8).toNat by show c.toNat = 46; omega))

set_option maxRecDepth 100000 in
set_option maxHeartbeats 2000000 in
theorem refSplit_any (s : ByteArray) (hs : s.size ≤ 2097152) (w : World) :
    Calls Tryd.prog 28 #[.string s] w fun e W' => (∃ v, e = .returned (.tuple #[v, .int .i64 (Nm.splitV s)]) ∧ Strs W' v (Nm.splitP s)) ∧ Below w.heap.size w W' := by
  obtain ⟨i0, hi, hz0, hz1, hz2⟩ := info_parts info_string
  have hll := Nm.pieces_length s
  have hsm : ∀ x, x ∈ Nm.pieces s → x.size ≤ maxLen := fun x hx => Nat.le_trans (Nm.pieces_size hx) (by unfold maxLen; omega)
  have hlm : (Nm.pieces s).length ≤ maxLen := by unfold maxLen; omega
  go_enter Tryd.func28, Tryd.ntmps28
  go_wp2
  go_loopw [4, 5, 6] (fun v fv iv wr => ∃ (k f : Nat) (pre : List ByteArray), iv = .int .i64 k ∧ fv = .int .i64 f ∧ k ≤ s.size ∧ f ≤ k ∧ Hid (pre.map (·.data.toList) ++ Nm.splitL (s.data.toList.drop f) = Nm.splitL s.data.toList) ∧ Hid ((46 : UInt8) ∉ (s.data.toList.drop f).take (k - f)) ∧ wr.ownsRow w.heap.size 9 1 v pre.length (pre.map Value.string) ∧ Below w.heap.size w wr)
    (fun _ _ iv _ => s.size - (intOf iv).toNat)
  case atStart => exact ⟨0, 0, [], rfl, rfl, Nat.zero_le _, Nat.le_refl _, rfl, by simp [Hid], World.ownsRow_nil _ _ _ _, Below.refl _ _⟩
  case round =>
    obtain ⟨k, f, pre, rfl, rfl, hk, hf, hx, hn, hrow, hB⟩ := hrel
    have hpl : pre.length < (Nm.pieces s).length := by
      have e := congrArg List.length hx.out
      have hne := List.length_pos_iff.2 (Nm.splitL_ne (s.data.toList.drop f))
      unfold Nm.pieces
      rw [List.length_map, ← e, List.length_append, List.length_map]
      omega
    by_cases hlt : k < s.size
    · by_cases h46 : s[k] = 46
      · have e46 : ((s[k].toNat : Int) == 46) = true := by rw [byte46, decide_eq_true h46]
        have HX : Hid ((pre ++ [s.extract f k]).map (·.data.toList) ++ Nm.splitL (s.data.toList.drop (k + 1)) = Nm.splitL s.data.toList) := by
          show _ = _
          rw [← hx.out, Nm.cut_hit s hf hlt h46, Nm.splitL_point _ _ hn.out, List.map_append, List.append_assoc]
          rw [show [s.extract f k].map (fun x : ByteArray => x.data.toList) = [(s.extract f k).data.toList] from rfl, Lib.extract_data]
          rfl
        clear hx hn h46
        go_wp2_with (at_builtin; refine wpList_append_own _ rfl _ _ 22 rfl w.heap.size 9 i0 (.string ⟨#[]⟩) 1 16 Tryd.underlying22 hi hz0 hz1 hz2 rfl (by decide) _ _ _ rfl (hrow.alloc _) ⟨wr.heap.size, 0, none⟩ 1 1 [.string (s.extract f k)] rfl rfl (cell_one_new _ _ _) (by simp [Value.oneCell']) (by unfold maxLen; omega) (by omega) (by have := hB.size; simp; omega) ?_; intro v' w1 hown' hgrow _)
        go_roundw
        case rel => exact ⟨k + 1, k + 1, pre ++ [s.extract f k], by go_num, by go_num, by omega, by omega, HX, by simp [Hid], by simpa using hown', (hB.alloc hB.size _).grown hgrow (by have := hB.size; simp; omega) (own_block hrow)⟩
        case measure => simp [intOf]; omega
      · have e46 : ((s[k].toNat : Int) == 46) = false := by rw [byte46, decide_eq_false h46]
        have HN : Hid ((46 : UInt8) ∉ (s.data.toList.drop f).take (k + 1 - f)) := by
          show _ ∉ _
          rw [Nm.cut_more s hf hlt]
          intro hm
          rcases List.mem_append.1 hm with hm | hm
          · exact hn.out hm
          · exact h46 (List.mem_singleton.1 hm).symm
        clear hn h46
        go_wp2
        go_roundw
        case rel => exact ⟨k + 1, f, pre, by go_num, rfl, by omega, by omega, hx, HN, hrow, hB⟩
        case measure => simp [intOf]; omega
    · have HE : Hid (pre ++ [s.extract f s.size] = Nm.pieces s) := by
        show _ = _
        have hno : (46 : UInt8) ∉ s.data.toList.drop f := by
          have := hn.out
          rwa [List.take_of_length_le (by rw [List.length_drop, Nm.len]; omega)] at this
        have e := hx.out
        rw [Nm.splitL_none _ hno, ← Nm.extract_end s f] at e
        unfold Nm.pieces
        rw [← e, List.map_append, Nm.map_bytes]
        rfl
      have hfs : f ≤ s.size := by omega
      have hst0 : ∀ {W : World} {v : Value}, W.ownsRow w.heap.size 9 1 v (pre.length + 1) (pre.map Value.string ++ [.string (s.extract f s.size)]) → Strs W v (Nm.pieces s) := fun {W v} h => by
        rw [← HE.out]
        exact Strs.own (n := pre.length + 1) (by simpa using h)
      clear hx hn
      by_cases h0 : Nm.path (Nm.pieces s) = 0
      · have H : Hid (Nm.splitV s = 0 ∧ Nm.splitP s = Nm.pieces s) := by
          have e : Nm.splitV s = 0 := h0
          exact ⟨e, by unfold Nm.splitP; rw [if_pos e]⟩
        have h0' : (Nm.path (Nm.pieces s) == 0) = true := by rw [h0]; rfl
        clear h0
        go_wp2_with (first
          | (at_builtin; refine wpList_append_own _ rfl _ _ 22 rfl w.heap.size 9 i0 (.string ⟨#[]⟩) 1 16 Tryd.underlying22 hi hz0 hz1 hz2 rfl (by decide) _ _ _ rfl (hrow.alloc _) ⟨wr.heap.size, 0, none⟩ 1 1 [.string (s.extract f s.size)] rfl rfl (cell_one_new _ _ _) (by simp [Value.oneCell']) (by unfold maxLen; omega) (by omega) (by have := hB.size; simp; omega) ?_; intro v' w1 hown' hgrow _; have hst := hst0 hown'; have hB1 : Below w.heap.size w w1 := (hB.alloc hB.size _).grown hgrow (by have := hB.size; simp; omega) (own_block hrow))
          | (go_at_call 30; refine (refPath_any _ _ _ hst hsm hlm).mono ?_; rintro e w2 ⟨rfl, hb2⟩))
        go_ret2
        refine ⟨⟨_, by rw [H.out.1]; rfl, ?_⟩, btr hB1 hb2⟩
        rw [H.out.2]
        exact hst.below hb2 (Nat.le_refl _)
      · have H : Hid (Nm.splitV s = Nm.path (Nm.pieces s) ∧ Nm.splitP s = []) := by
          have e : ¬ Nm.splitV s = 0 := h0
          exact ⟨rfl, by unfold Nm.splitP; rw [if_neg e]⟩
        have h0' : (Nm.path (Nm.pieces s) == 0) = false := by rw [beq_eq_false_iff_ne]; exact h0
        clear h0
        go_wp2_with (first
          | (at_builtin; refine wpList_append_own _ rfl _ _ 22 rfl w.heap.size 9 i0 (.string ⟨#[]⟩) 1 16 Tryd.underlying22 hi hz0 hz1 hz2 rfl (by decide) _ _ _ rfl (hrow.alloc _) ⟨wr.heap.size, 0, none⟩ 1 1 [.string (s.extract f s.size)] rfl rfl (cell_one_new _ _ _) (by simp [Value.oneCell']) (by unfold maxLen; omega) (by omega) (by have := hB.size; simp; omega) ?_; intro v' w1 hown' hgrow _; have hst := hst0 hown'; have hB1 : Below w.heap.size w w1 := (hB.alloc hB.size _).grown hgrow (by have := hB.size; simp; omega) (own_block hrow))
          | (go_at_call 30; refine (refPath_any _ _ _ hst hsm hlm).mono ?_; rintro e w2 ⟨rfl, hb2⟩))
        go_ret2
        refine ⟨⟨_, by rw [H.out.1]; rfl, ?_⟩, btr hB1 hb2⟩
        rw [H.out.2]
        exact Strs.nil _ _ _
end Go.Proofs.YtcccmbiocknknaaDoor
