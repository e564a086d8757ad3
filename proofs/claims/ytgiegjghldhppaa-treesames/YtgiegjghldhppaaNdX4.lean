/- The document's Same, one sort a theorem. -/
import Derived.Test.YtgiegjghldhppaaNdX
import Derived.BigRegion
namespace Go.Proofs.Ytgiegjghldhppaa
open Go.RowKit
set_option linter.unusedVariables false

set_option maxHeartbeats 8000000 in
set_option maxRecDepth 100000 in
theorem refSame4 (n : Nat) (q0 : RefSameOf 39 n 0) : RefSameOf 43 (n + 1) 4 := by
  intro w v1 v2 xs ys h1 h2
  obtain ⟨a1, c1, e1, hx⟩ := h1.form
  obtain ⟨a2, c2, e2, hy⟩ := h2.form
  unfold maxLen at hx hy
  by_cases hl : xs.length = ys.length
  · by_cases h0 : ys = []
    · subst h0
      obtain rfl : xs = [] := List.eq_nil_of_length_eq_zero (by simpa using hl)
      subst e1; subst e2
      clear h1 h2 q0
      go_enter Try.func43, Try.ntmps43
      go_wp2
      go_loopw [5] (fun v wr => v = .int .i64 0 ∧ wr = w) (fun _ _ => 0)
      case atStart => exact ⟨rfl, rfl⟩
      case round =>
        obtain ⟨rfl, rfl⟩ := hrel
        go_wp2
        go_ret
        exact ⟨ret_bool Nd.eqL_nil.symm, Below.refl _ _⟩
    · have h0x : ¬ xs = [] := fun e => h0 (List.eq_nil_of_length_eq_zero (by rw [← hl, e]; rfl))
      clear e1 e2
      obtain ⟨g1, o1, c1, rfl, -, -, -, k1⟩ := h1.resolve_right (fun h => h0x h.1)
      obtain ⟨g2, o2, c2, rfl, -, -, -, k2⟩ := h2.resolve_right (fun h => h0 h.1)
      have HL : Hid (xs.length = ys.length) := hl
      have hw2 : ys.length = xs.length := hl.symm
      rw [hw2]
      clear h1 h2 hl h0 h0x hy hw2
      go_enter Try.func43, Try.ntmps43
      go_wp2
      go_loopw [5] (fun v wr => ∃ k : Nat, v = .int .i64 k ∧ k ≤ xs.length ∧ Hid (Nd.eqL xs ys = Nd.eqL (xs.drop k) (ys.drop k)) ∧ Below w.heap.size w wr) (fun v _ => xs.length - (intOf v).toNat)
      case atStart => exact ⟨0, rfl, Nat.zero_le _, rfl, Below.refl _ _⟩
      case round =>
        obtain ⟨k, rfl, hk, hH, hB⟩ := hrel
        by_cases hlt : k < xs.length
        · obtain ⟨x, hxk⟩ : ∃ x, xs[k]? = some x := ⟨_, List.getElem?_eq_getElem hlt⟩
          obtain ⟨y, hyk⟩ : ∃ y, ys[k]? = some y := ⟨_, List.getElem?_eq_getElem (by rw [← HL.out]; exact hlt)⟩
          obtain ⟨va, -, ca, ta⟩ := k1 k x hxk
          obtain ⟨vb, -, cb, tb⟩ := k2 k y hyk
          replace ca := ca.move trivial (Keeps.of_below (K := Any) hB)
          replace cb := cb.move trivial (Keeps.of_below (K := Any) hB)
          replace ta := At.move (Keeps.of_below hB) (fun _ h => h) _ _ _ _ ta
          replace tb := At.move (Keeps.of_below hB) (fun _ h => h) _ _ _ _ tb
          obtain ⟨s0a, v0a, l0a, rfl, rfl, -, k0a⟩ := At.con ta
          obtain ⟨s0b, v0b, l0b, rfl, rfl, -, k0b⟩ := At.con tb
          clear ta tb k1 k2
          have R0 : Hid (∀ w', Below wr.heap.size wr w' → Calls Try.prog 39 #[v0a, v0b] w' fun e w'' => e = .returned (.bool (Nd.eqL l0a l0b)) ∧ Below w'.heap.size w' w'') := fun w' h' => q0 w' v0a v0b l0a l0b (k0a.below h') (k0b.below h')
          obtain ⟨da0a, dc0a, rfl, -⟩ := k0a.form
          clear k0a
          obtain ⟨da0b, dc0b, rfl, -⟩ := k0b.form
          clear k0b
          clear q0
          have xc0 : wr.cell? ⟨g1, o1 + k * 2, none⟩ = some (.string s0a) := ca 0 _ rfl
          have yc0 : wr.cell? ⟨g2, o2 + k * 2, none⟩ = some (.string s0b) := cb 0 _ rfl
          have xc1 : wr.cell? ⟨g1, o1 + k * 2 + 1, none⟩ = some (.slice da0a l0a.length dc0a) := ca 1 _ rfl
          have yc1 : wr.cell? ⟨g2, o2 + k * 2 + 1, none⟩ = some (.slice da0b l0b.length dc0b) := cb 1 _ rfl
          have hg1 : g1 < wr.heap.size := World.block_lt_of_cell? wr _ xc0
          have hg2 : g2 < wr.heap.size := World.block_lt_of_cell? wr _ yc0
          have hg3 : g1 < wr.heap.size + 1 := Nat.lt_succ_of_lt hg1
          have hg4 : g2 < wr.heap.size + 1 := Nat.lt_succ_of_lt hg2
          clear ca cb
          have HE : Hid (Nd.eqL xs ys = ((decide (s0a = s0b) && Nd.eqL l0a l0b) && Nd.eqL (xs.drop (k + 1)) (ys.drop (k + 1)))) := by
            show _ = _
            rw [hH.out, Nd.eqL_at hxk hyk]
            congr 1
            rw [Bool.eq_iff_iff]
            simp [Nd.eq_true, Nd.eqL_true]
          clear hH hxk hyk
          have hF0 := Fr.start wr [.string s0a, .slice da0a l0a.length dc0a] [.string s0b, .slice da0b l0b.length dc0b] 78
          have hFd := hF0.drew
          have hEd := (Fr.start wr [.string s0b, .slice da0b l0b.length dc0b] [.string s0a, .slice da0a l0a.length dc0a] 78).drew
          by_cases h0 : s0a = s0b
          · subst h0
            rw [decide_eq_true rfl, Bool.true_and] at HE
            have r1 := R0.out
            cases h1 : Nd.eqL l0a l0b with
            | true =>
              rw [h1, Bool.true_and] at HE
              simp only [h1] at r1
              clear h1
              go_wp2
              go_region
              all_goals (
                go_wp2_with (first | (go_at_call 39; refine (r1 _ hEd.bl).mono ?_; rintro e w1 ⟨rfl, hb1⟩; have hF1 := hEd.step hb1; clear hb1) | (go_at_call 39; refine (r1 _ hFd.bl).mono ?_; rintro e w1 ⟨rfl, hb1⟩; have hF1 := hFd.step hb1; clear hb1))
                go_roundw
                case rel => exact ⟨k + 1, by go_num, by omega, HE, (bl_tr hB hF1.bl)⟩
                case measure => simp [intOf]; omega)
            | false =>
              rw [h1, Bool.false_and] at HE
              simp only [h1] at r1
              clear h1
              go_wp2
              go_region
              all_goals (
                go_wp2_with (first | (go_at_call 39; refine (r1 _ hEd.bl).mono ?_; rintro e w1 ⟨rfl, hb1⟩; have hF1 := hEd.step hb1; clear hb1) | (go_at_call 39; refine (r1 _ hFd.bl).mono ?_; rintro e w1 ⟨rfl, hb1⟩; have hF1 := hFd.step hb1; clear hb1))
                go_ret
                exact ⟨ret_bool (HE.out.symm), (bl_tr hB hF1.bl)⟩)
          · rw [decide_eq_false h0, Bool.false_and, Bool.false_and] at HE
            have gq0 : (s0a.toList == s0b.toList) = false := by rw [Nm.str_eq, decide_eq_false h0]
            clear h0
            go_wp2
            go_region
            all_goals (
              go_wp2
              go_ret
              exact ⟨ret_bool (HE.out.symm), (bl_tr hB (by first | exact hFd.bl | exact hEd.bl))⟩)
        · have HX : Hid (Nd.eqL xs ys = true) := by
            show _ = _
            rw [hH.out, List.drop_eq_nil_of_le (by omega), List.drop_eq_nil_of_le (by have := HL.out; omega)]; exact Nd.eqL_nil
          clear hH k1 k2 q0
          go_wp2
          go_ret
          exact ⟨ret_bool HX.out.symm, hB⟩
  · have H : Hid (Nd.eqL xs ys = false) := Nd.eqL_len hl
    subst e1; subst e2
    have hl2 : ((xs.length : Int) == (ys.length : Int)) = false := by rw [beq_eq_false_iff_ne]; omega
    clear h1 h2 hl q0
    go_enter Try.func43, Try.ntmps43
    go_wp2
    go_ret
    exact ⟨ret_bool H.out.symm, Below.refl _ _⟩

end Go.Proofs.Ytgiegjghldhppaa
