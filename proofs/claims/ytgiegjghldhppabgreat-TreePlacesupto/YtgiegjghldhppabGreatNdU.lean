/- What Right comes to, of any declarations. -/
import Derived.Test.YtgiegjghldhppabGreatNdT
namespace Go.Proofs.YtgiegjghldhppabGreat
open Go.RowKit
set_option linter.unusedVariables false

set_option maxHeartbeats 4000000 in
set_option maxRecDepth 100000 in
theorem rightL_any (n : Nat) (w : World) (v : Value) (l : List Nd) (h : AtL w Any n 3 v l) :
    Calls Tryz.prog 9 #[v] w fun e w' => e = .returned (.tuple #[.int .i64 (Nd.rightL l).1, .int .i64 (Nd.rightL l).2]) ∧ Below w.heap.size w w' := by
  have qn : Hid (∀ w', Below w.heap.size w w' → _) := fun w' h' => nodes_any n w' v l (h.below h')
  by_cases h0 : l = []
  · subst h0
    obtain ⟨a1, c1, rfl, -⟩ := h.form
    clear h
    go_enter Tryz.func9, Tryz.ntmps9
    go_wp2
    go_loopw [9] (fun v wr => v = .int .i64 0 ∧ wr = w) (fun _ _ => 0)
    case atStart => exact ⟨rfl, rfl⟩
    case round =>
      obtain ⟨rfl, rfl⟩ := hrel
      go_wp2_with (go_at_call 10; refine (qn.out _ (Below.refl _ _)).mono ?_; rintro e w1 ⟨rfl, hB1⟩; have hm : (Nd.meter []).a = 0 := rfl)
      go_loopw [26] (fun v w2 => v = .int .i64 0 ∧ w2 = w1) (fun _ _ => 0)
      case atStart => exact ⟨rfl, rfl⟩
      case round =>
        obtain ⟨rfl, rfl⟩ := hrel
        go_wp2
        go_ret2
        exact ⟨rfl, hB1⟩
  · obtain ⟨b, o, c, rfl, -, hlc, hlm, hk⟩ := h.resolve_right (fun h => h0 h.1)
    unfold maxLen at hlm
    have hbw : b < w.heap.size := by
      obtain ⟨x, hx0⟩ : ∃ x, l[0]? = some x := ⟨_, List.getElem?_eq_getElem (Nat.pos_of_ne_zero (fun e => h0 (List.eq_nil_of_length_eq_zero e)))⟩
      obtain ⟨vs, hlen, hc, -⟩ := hk 0 x hx0
      exact World.block_lt_of_cell? w _ (hc 0 _ (List.getElem?_eq_getElem (by rw [hlen]; exact Nd.size_pos _)))
    clear h h0
    have HK : Hid (∀ (i : Nat) x, l[i]? = some x → ∃ vs, vs.length = Nd.size 3 ∧ Cells w b (o + i * Nd.size 3) vs ∧ At w Any n 3 vs x) := hk
    have HB : Hid (b < w.heap.size) := hbw
    clear hk hbw
    go_enter Tryz.func9, Tryz.ntmps9
    go_wp2
    go_loopw [9] (fun v wr => ∃ k : Nat, v = .int .i64 k ∧ k ≤ l.length ∧ Hid (Nd.deepAt 0 l = Nd.deepAt k (l.drop k)) ∧ Below w.heap.size w wr) (fun v _ => l.length - (intOf v).toNat)
    case atStart => exact ⟨0, rfl, Nat.zero_le _, rfl, Below.refl _ _⟩
    case round =>
      obtain ⟨k, rfl, hkl, hH, hB⟩ := hrel
      by_cases hlt : k < l.length
      · obtain ⟨x, hxk⟩ : ∃ x, l[k]? = some x := ⟨_, List.getElem?_eq_getElem hlt⟩
        have q : Hid (∀ w', Below w.heap.size w w' → _) := fun w' h' => depth_any n w' (.slice (some ⟨b, o + k * 9, none⟩) 1 (c - k)) [x] ((AtL.one (c := c - k) HK.out hxk (by omega)).below h')
        have HX : Hid (Nd.deepAt 0 l = if 100 < (Nd.meter [x]).d then some k else Nd.deepAt (k + 1) (l.drop (k + 1))) := by
          show _ = _
          rw [hH.out, Nd.deepAt_at hxk]
        clear hH hxk
        by_cases hd : 100 < (Nd.meter [x]).d
        · have HY : Hid (Nd.rightL l = ((k : Int), 4)) := by
            show _ = _
            rw [if_pos hd] at HX
            exact Nd.rightL_deep HX
          clear HX
          go_wp2_with (go_at_call 18; refine (q.out _ hB).mono ?_; rintro e w1 ⟨rfl, hb1⟩; have hB1 := bl_tr hB hb1)
          go_ret2
          exact ⟨nd_ret_two HY.out, hB1⟩
        · have HY : Hid (Nd.deepAt 0 l = Nd.deepAt (k + 1) (l.drop (k + 1))) := by
            show _ = _
            rw [if_neg hd] at HX
            exact HX
          clear HX
          go_wp2_with (go_at_call 18; refine (q.out _ hB).mono ?_; rintro e w1 ⟨rfl, hb1⟩; have hB1 := bl_tr hB hb1)
          go_roundw
          case rel => exact ⟨k + 1, by go_num, by omega, HY, hB1⟩
          case measure => simp [intOf]; omega
      · have HD : Hid (Nd.deepAt 0 l = none) := by
          show _ = _
          rw [hH.out, List.drop_eq_nil_of_le (by omega)]; rfl
        clear hH
        by_cases hbig : 4096 < (Nd.meter l).a
        · have HY : Hid (Nd.rightL l = (0, 3)) := Nd.rightL_big HD hbig
          go_wp2_with (go_at_call 10; refine (qn.out _ hB).mono ?_; rintro e w1 ⟨rfl, hb1⟩; have hB1 := bl_tr hB hb1)
          go_ret2
          exact ⟨nd_ret_two HY.out, hB1⟩
        · have HR : Hid (Nd.rightL l = Nd.errAt 0 l) := Nd.rightL_err HD hbig
          go_wp2_with (go_at_call 10; refine (qn.out _ hB).mono ?_; rintro e w1 ⟨rfl, hb1⟩; have hB1 := bl_tr hB hb1)
          clear hb1 hB HD
          go_loopw [26] (fun v w2 => ∃ j : Nat, v = .int .i64 j ∧ j ≤ l.length ∧ Hid (Nd.rightL l = Nd.errAt j (l.drop j)) ∧ Below w.heap.size w w2) (fun v _ => l.length - (intOf v).toNat)
          case atStart => exact ⟨0, rfl, Nat.zero_le _, HR, hB1⟩
          case round =>
            clear HR hB1
            obtain ⟨j, rfl, hjl, hH, hB⟩ := hrel
            by_cases hlt2 : j < l.length
            · obtain ⟨x, hxj⟩ : ∃ x, l[j]? = some x := ⟨_, List.getElem?_eq_getElem hlt2⟩
              obtain ⟨vs, -, hc, ha⟩ := HK.out j x hxj
              have q : Hid (∀ w', Below w.heap.size w w' → _) := fun w' h' => caughtDec n (right_all n).s3 w' b (o + j * 9) vs x (Nat.lt_of_lt_of_le HB.out h'.size) (hc.move trivial (Keeps.of_below (K := Any) h')) (At.move (Keeps.of_below h') (fun _ h => h) _ _ _ _ ha)
              have HX : Hid (Nd.rightL l = if Nd.err 3 x = 0 then Nd.errAt (j + 1) (l.drop (j + 1)) else ((j : Int), Nd.err 3 x)) := by
                show _ = _
                rw [hH.out, Nd.errAt_at hxj]
              clear hH hxj hc ha
              by_cases hz : Nd.err 3 x = 0
              · have HY : Hid (Nd.rightL l = Nd.errAt (j + 1) (l.drop (j + 1))) := by
                  show _ = _
                  rw [if_pos hz] at HX
                  exact HX
                rw [hz] at q
                clear HX hz
                go_wp2_with (go_at_call 20; refine (q.out _ hB).mono ?_; rintro e w3 ⟨rfl, hb3⟩; have hB3 := bl_tr hB hb3)
                go_roundw
                case rel => exact ⟨j + 1, by go_num, by omega, HY, hB3⟩
                case measure => simp [intOf]; omega
              · have HY : Hid (Nd.rightL l = ((j : Int), Nd.err 3 x)) := by
                  show _ = _
                  rw [if_neg hz] at HX
                  exact HX
                have hz2 : (Nd.err 3 x == 0) = false := by rw [beq_eq_false_iff_ne]; exact hz
                clear HX
                go_wp2_with (go_at_call 20; refine (q.out _ hB).mono ?_; rintro e w3 ⟨rfl, hb3⟩; have hB3 := bl_tr hB hb3)
                go_ret2
                exact ⟨nd_ret_two HY.out, hB3⟩
            · have HY : Hid (Nd.rightL l = (0, 0)) := by
                show _ = _
                rw [hH.out, List.drop_eq_nil_of_le (by omega)]; rfl
              clear hH
              go_wp2
              go_ret2
              exact ⟨nd_ret_two HY.out, hB⟩
end Go.Proofs.YtgiegjghldhppabGreat
