/- Two lists of texts: slices.Equal, and the document's texts. -/
import Derived.Test.YtgiegjghldhppabGreatNdP
namespace Go.Proofs.YtgiegjghldhppabGreat
open Go.RowKit
set_option linter.unusedVariables false



set_option maxHeartbeats 1000000 in
theorem eqStrs_any (a b : Value) (xs ys : List ByteArray) (w : World) (ha : Strs w a xs) (hb : Strs w b ys) (hx : xs.length ≤ maxLen) (hy : ys.length ≤ maxLen) :
    Calls Tryz.prog 36 #[a, b] w fun e w' => e = .returned (.bool (decide (xs = ys))) ∧ ∃ n, w' = w.drewN n := by
  unfold maxLen at hx hy
  by_cases hl : xs.length = ys.length
  · rcases ha with ⟨b1, o1, c1, rfl, hc1⟩ | ⟨rfl, p, c, rfl⟩
    · rcases hb with ⟨b2, o2, c2, rfl, hc2⟩ | ⟨rfl, p, c, rfl⟩
      · go_enter Tryz.func36, Tryz.ntmps36
        go_wp2
        go_loopw [13] (fun v wr => ∃ k : Nat, v = .int .i64 k ∧ k ≤ xs.length ∧ Hid (∀ j, j < k → xs[j]? = ys[j]?) ∧ ∃ n, wr = w.drewN n) (fun v _ => xs.length - (intOf v).toNat)
        case atStart => exact ⟨0, rfl, Nat.zero_le _, fun j h => absurd h (Nat.not_lt_zero _), 0, rfl⟩
        case round =>
          obtain ⟨k, rfl, hk, hall, n, rfl⟩ := hrel
          by_cases hlt : k < xs.length
          · obtain ⟨x, hxk⟩ : ∃ x, xs[k]? = some x := ⟨_, List.getElem?_eq_getElem hlt⟩
            obtain ⟨y, hyk⟩ : ∃ y, ys[k]? = some y := ⟨_, List.getElem?_eq_getElem (by omega)⟩
            have d1 := hc1 k x hxk
            have d2 := hc2 k y hyk
            have hlt2 : k < ys.length := by omega
            by_cases he : x = y
            · subst he
              have HX : Hid (∀ j, j < k + 1 → xs[j]? = ys[j]?) := fun j hj => by
                by_cases e : j = k
                · subst e; rw [hxk, hyk]
                · exact hall.out j (by omega)
              have h3 : (x.toList == x.toList) = true := beq_self_eq_true _
              have HL : Hid (xs.length = ys.length) := hl
              clear hall hxk hyk hc1 hc2 hl
              go_wp2
              go_quiet (fail)
              go_wp2
              go_roundw
              case rel => exact ⟨k + 1, by go_num, by omega, HX, _, rfl⟩
              case measure => simp [intOf]; omega
            · have HX : Hid (decide (xs = ys) = false) := by
                show _ = _
                rw [decide_eq_false]
                intro e; rw [e, hyk] at hxk; exact he (Option.some.inj hxk).symm
              have h3 : (x.toList == y.toList) = false := by rw [Nm.str_eq, decide_eq_false he]
              clear hall hxk hyk hc1 hc2 hl he
              go_wp2
              go_quiet (fail)
              go_wp2
              go_ret
              exact ⟨ret_bool HX.out.symm, _, World.drewN_drewN _ _ _⟩
          · have HX : Hid (decide (xs = ys) = true) := by
              show _ = _
              rw [decide_eq_true]
              apply List.ext_getElem?
              intro j
              by_cases hj : j < k
              · exact hall.out j hj
              · rw [List.getElem?_eq_none (by omega), List.getElem?_eq_none (by omega)]
            clear hall hc1 hc2
            go_wp2
            go_ret
            exact ⟨ret_bool HX.out.symm, n, rfl⟩
      · have : xs = [] := List.eq_nil_of_length_eq_zero (by simpa using hl)
        subst this
        go_enter Tryz.func36, Tryz.ntmps36
        go_wp2
        go_loop [13] (fun v => v = .int .i64 0) (fun v => 0)
        case atStart => rfl
        case round =>
          subst hrel
          go_wp2
          go_ret
          exact ⟨rfl, 0, rfl⟩
    · have : ys = [] := List.eq_nil_of_length_eq_zero (by simpa using hl.symm)
      subst this
      obtain ⟨p2, c2, rfl⟩ : ∃ p2 c2, b = .slice p2 0 c2 := by
        rcases hb with ⟨b2, o2, c2, rfl, hc2⟩ | ⟨_, p, c, rfl⟩
        · exact ⟨_, _, rfl⟩
        · exact ⟨_, _, rfl⟩
      go_enter Tryz.func36, Tryz.ntmps36
      go_wp2
      go_loop [13] (fun v => v = .int .i64 0) (fun v => 0)
      case atStart => rfl
      case round =>
        subst hrel
        go_wp2
        go_ret
        exact ⟨rfl, 0, rfl⟩
  · obtain ⟨p1, c1, rfl⟩ : ∃ p1 c1, a = .slice p1 xs.length c1 := by
      rcases ha with ⟨b2, o2, c2, rfl, hc2⟩ | ⟨rfl, p, c, rfl⟩
      · exact ⟨_, _, rfl⟩
      · exact ⟨_, _, rfl⟩
    obtain ⟨p2, c2, rfl⟩ : ∃ p2 c2, b = .slice p2 ys.length c2 := by
      rcases hb with ⟨b2, o2, c2, rfl, hc2⟩ | ⟨rfl, p, c, rfl⟩
      · exact ⟨_, _, rfl⟩
      · exact ⟨_, _, rfl⟩
    have H : Hid (decide (xs = ys) = false) := by
      show _ = _
      rw [decide_eq_false]
      intro e; exact hl (by rw [e])
    have hl' : ((xs.length : Int) == (ys.length : Int)) = false := by rw [beq_eq_false_iff_ne]; omega
    clear hl
    go_enter Tryz.func36, Tryz.ntmps36
    go_wp2
    go_ret
    exact ⟨ret_bool H.out.symm, 0, rfl⟩

end Go.Proofs.YtgiegjghldhppabGreat
