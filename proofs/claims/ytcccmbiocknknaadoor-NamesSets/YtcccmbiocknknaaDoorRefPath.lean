/- What the document's own Path, Join and Split come to. -/
import Derived.Test.YtcccmbiocknknaaDoorRefRight
import Derived.Test.YtcccmbiocknknaaDoorArg
namespace Go.Proofs.YtcccmbiocknknaaDoor
open Go.RowKit Go.Shelf
set_option linter.unusedVariables false

theorem Nm.upper_high {x : ByteArray} (h : Nm.right x = 0) : Nm.upper x = Nm.high (Nm.head x) := by unfold Nm.upper; rw [decide_eq_true h]; rfl

set_option maxHeartbeats 1000000 in
theorem refPath_any (v : Value) (xs : List ByteArray) (w : World) (hv : Strs w v xs) (hx : ∀ x, x ∈ xs → x.size ≤ maxLen) (hl : xs.length ≤ maxLen) :
    Calls Tryd.prog 30 #[v] w fun e w' => e = .returned (.int .i64 (Nm.path xs)) ∧ Below w.heap.size w w' := by
  unfold maxLen at hl
  by_cases h0 : xs.length = 0
  · obtain ⟨p1, c1, rfl⟩ : ∃ p1 c1, v = .slice p1 0 c1 := by
      rcases hv with ⟨b2, o2, c2, rfl, hc2⟩ | ⟨rfl, p, c, rfl⟩
      · exact ⟨_, _, by rw [h0]⟩
      · exact ⟨_, _, rfl⟩
    have H : Hid (Nm.path xs = 1) := by show _ = _; unfold Nm.path; rw [if_pos h0]
    clear hx hv
    go_enter Tryd.func30, Tryd.ntmps30
    go_wp2
    go_ret
    exact ⟨ret_int H.out.symm, Below.refl _ _⟩
  · obtain ⟨b, o, c, rfl, hc⟩ : ∃ b o c, v = .slice (some ⟨b, o, none⟩) xs.length c ∧ ∀ (j : Nat) x, xs[j]? = some x → w.cell? ⟨b, o + j, none⟩ = some (.string x) := by
      rcases hv with h | ⟨rfl, _⟩
      · exact h
      · exact absurd rfl h0
    have h0' : ((xs.length : Int) == 0) = false := by rw [beq_eq_false_iff_ne]; omega
    by_cases h8 : 8 < xs.length
    · have H : Hid (Nm.path xs = 3) := by show _ = _; unfold Nm.path; rw [if_neg h0, if_pos h8]
      clear hx hc h0
      go_enter Tryd.func30, Tryd.ntmps30
      go_wp2
      go_ret
      exact ⟨ret_int H.out.symm, Below.refl _ _⟩
    · have H : Hid (Nm.path xs = Nm.pathL (xs.drop 0)) := by show _ = _; unfold Nm.path; rw [if_neg h0, if_neg h8]; rfl
      go_enter Tryd.func30, Tryd.ntmps30
      go_wp2
      go_loopw [3] (fun v wr => ∃ k : Nat, v = .int .i64 k ∧ k ≤ xs.length ∧ Hid (Nm.path xs = Nm.pathL (xs.drop k)) ∧ Below w.heap.size w wr) (fun v _ => xs.length - (intOf v).toNat)
      case atStart => exact ⟨0, rfl, Nat.zero_le _, H, Below.refl _ _⟩
      case round =>
        obtain ⟨k, rfl, hk, hp, hB⟩ := hrel
        clear H
        by_cases hlt : k < xs.length
        · obtain ⟨x, hxk⟩ : ∃ x, xs[k]? = some x := ⟨_, List.getElem?_eq_getElem hlt⟩
          have hxm : x.size ≤ maxLen := hx x (List.mem_of_getElem? hxk)
          have d0 := hc k x hxk
          have hbl : b < w.heap.size := World.block_lt_of_cell? w _ d0
          have d : wr.cell? ⟨b, o + k, none⟩ = some (.string x) := (World.cell?_of_block (hB.block b hbl)).trans d0
          have hp2 := hp.out
          rw [Nm.drop_at hxk, Nm.pathL] at hp2
          by_cases hr : Nm.right x = 0
          · rw [if_neg (by simpa using hr), ← Nm.upper_high hr] at hp2
            have hr' : (Nm.right x == 0) = true := by rw [hr]; rfl
            by_cases hla : k + 1 < xs.length
            · have hne : xs.drop (k + 1) ≠ [] := by intro e; have := congrArg List.length e; simp at this; omega
              cases hh : Nm.upper x with
              | true =>
                have HX : Hid (Nm.path xs = Nm.pathL (xs.drop (k + 1))) := by show _ = _; rw [hp2, if_neg (by simp [hh])]
                clear hp hp2 hc hx hne hxk hr h0 d0
                go_wp2_with (first | (go_at_call 13; refine (refRight_any _ hxm _).mono ?_; rintro e w1 ⟨rfl, hb1⟩; have d1 : w1.cell? ⟨b, o + k, none⟩ = some (.string x) := (World.cell?_of_block (hb1.block b (Nat.lt_of_lt_of_le hbl hB.size))).trans d) | (go_at_call 17; refine (ref_upper_any _ hxm _).mono ?_; rintro e w2 ⟨rfl, hb2⟩))
                go_roundw
                case rel => exact ⟨k + 1, by go_num, by omega, HX, btr (btr hB hb1) hb2⟩
                case measure => simp [intOf]; omega
              | false =>
                have HX : Hid (Nm.path xs = 12) := by show _ = _; rw [hp2, if_pos ⟨hne, hh⟩]
                clear hp hp2 hc hx hne hxk hr h0 d0
                go_wp2_with (first | (go_at_call 13; refine (refRight_any _ hxm _).mono ?_; rintro e w1 ⟨rfl, hb1⟩; have d1 : w1.cell? ⟨b, o + k, none⟩ = some (.string x) := (World.cell?_of_block (hb1.block b (Nat.lt_of_lt_of_le hbl hB.size))).trans d) | (go_at_call 17; refine (ref_upper_any _ hxm _).mono ?_; rintro e w2 ⟨rfl, hb2⟩))
                go_ret
                exact ⟨ret_int HX.out.symm, btr (btr hB hb1) hb2⟩
            · have he : xs.drop (k + 1) = [] := List.drop_eq_nil_of_le (by omega)
              have HX : Hid (Nm.path xs = Nm.pathL (xs.drop (k + 1))) := by show _ = _; rw [hp2, if_neg (by simp [he])]
              have hlast : ¬ ((k : Int) < (xs.length : Int) - 1) := by omega
              clear hp hp2 hc hx hxk hr h0 he d0
              go_wp2_with (go_at_call 13; refine (refRight_any _ hxm _).mono ?_; rintro e w1 ⟨rfl, hb1⟩)
              go_roundw
              case rel => exact ⟨k + 1, by go_num, by omega, HX, btr hB hb1⟩
              case measure => simp [intOf]; omega
          · have HX : Hid (Nm.path xs = Nm.right x) := by show _ = _; rw [hp2, if_pos hr]
            have hr' : (Nm.right x == 0) = false := by rw [beq_eq_false_iff_ne]; exact hr
            clear hp hp2 hc hx hxk hr h0 d0
            go_wp2_with (go_at_call 13; refine (refRight_any _ hxm _).mono ?_; rintro e w1 ⟨rfl, hb1⟩)
            go_ret
            exact ⟨ret_int HX.out.symm, btr hB hb1⟩
        · have HX : Hid (Nm.path xs = 0) := by show _ = _; rw [hp.out, List.drop_eq_nil_of_le (by omega)]; rfl
          clear hp hc hx h0
          go_wp2
          go_ret
          exact ⟨ret_int HX.out.symm, hB⟩
end Go.Proofs.YtcccmbiocknknaaDoor
