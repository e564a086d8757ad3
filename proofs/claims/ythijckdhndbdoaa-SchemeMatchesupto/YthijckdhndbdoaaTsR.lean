/- RightScheme. -/
import Derived.Test.YthijckdhndbdoaaTpS3
import Derived.Test.YthijckdhndbdoaaTpL
import Derived.Test.YthijckdhndbdoaaTsP
namespace Go.Proofs.Ythijckdhndbdoaa
open Go.RowKit
set_option linter.unusedVariables false
set_option linter.unusedSimpArgs false

set_option maxHeartbeats 1000000 in
set_option maxRecDepth 100000 in
theorem RightScheme_any (w : World) (n : Nat) (g : Int) (vs : List Value) (t : Tp) (hT : TAt w Any n vs t) (hc : t.cnt ≤ 1048576) : Calls Try.prog 24 #[.agg (.int .i64 g :: vs).toArray] w fun e w' => e = .returned (.bool (Tp.rightS g t)) ∧ Below w.heap.size w w' := by
  have hR : Hid (∀ o, Calls Try.prog 22 #[.agg vs.toArray] (w.alloc o) fun e w' => e = .returned (.bool t.right) ∧ Below (w.alloc o).heap.size (w.alloc o) w') := fun o => Right_any _ n vs t (hT.below (bl_alloc (Below.refl _ _) _))
  have hG : Hid (∀ wz, Below w.heap.size w wz → Calls Try.prog 23 #[.agg vs.toArray] wz fun e w' => ∃ v, e = .returned v ∧ Ls w' Any v (Tp.found 8 t []) ∧ Below wz.heap.size wz w') := fun wz hz => Gens_any _ n vs t (hT.below hz) hc
  have hD : Hid (Tp.rightS g t = (t.right && (Tp.ups (Tp.found 8 t []) 0 && decide (((Tp.found 8 t []).length : Int) = g)))) := rfl
  obtain ⟨a, c, rfl⟩ := hT.form
  have HB : Hid (∀ o, Below w.heap.size w (w.alloc o)) := fun o => bl_alloc (Below.refl _ _) o
  generalize Tp.rightS g t = r at hD
  clear hT hc
  cases hr : t.right with
  | false =>
    rw [hr] at hR hD
    have hD' := hD.out
    rw [Bool.false_and] at hD'
    subst hD'
    go_enter Try.func24, Try.ntmps24
    go_wp2_with (go_at_call 22; refine (hR.out _).mono ?_; rintro e w2 ⟨rfl, hb2⟩)
    go_ret
    exact ⟨rfl, bl_tr (HB.out _) hb2⟩
  | true =>
    rw [hr] at hR hD
    have HD : Hid (r = (Tp.ups (Tp.found 8 t []) 0 && decide (((Tp.found 8 t []).length : Int) = g))) := by show r = _; rw [hD.out, Bool.true_and]
    clear hD hr
    generalize Tp.found 8 t [] = l at hG HD
    go_enter Try.func24, Try.ntmps24
    go_wp2_with (first | (go_at_call 22; refine (hR.out _).mono ?_; rintro e w2 ⟨rfl, hb2⟩; have x0 := hb2.cell (p := ⟨w.heap.size, 0, none⟩) (by simp); have x1 := hb2.cell (p := ⟨w.heap.size, 1, none⟩) (by simp); have x2 := hb2.cell (p := ⟨w.heap.size, 2, none⟩) (by simp); have x3 := hb2.cell (p := ⟨w.heap.size, 3, none⟩) (by simp); simp [go_sem] at x0 x1 x2 x3) | (go_at_call 23; refine (hG.out _ (bl_tr (HB.out _) hb2)).mono ?_; rintro e w3 ⟨v3, rfl, hl3, hb3⟩; obtain ⟨p3, c3, rfl, hm3⟩ := hl3.form; have y0 := hb3.cell (p := ⟨w.heap.size, 0, none⟩) (World.block_lt_of_cell? _ _ x0); rw [x0] at y0; have HL : Hid (Ls w3 Any _ l) := hl3; clear hl3))
    unfold maxLen at hm3
    have HBB : Hid (Below w.heap.size w w3) := bl_tr (bl_tr (HB.out _) hb2) hb3
    clear hR hG HB hb2 hb3 x0 x1 x2 x3
    go_loopw [15] (fun v wr => ∃ k : Nat, v = .int .i64 k ∧ k ≤ l.length ∧ Hid (r = (Tp.ups (l.drop k) k && decide ((l.length : Int) = g))) ∧ wr = w3) (fun v _ => l.length - (intOf v).toNat)
    case atStart => exact ⟨0, rfl, Nat.zero_le _, HD, rfl⟩
    case round =>
      obtain ⟨k, rfl, hk, hH, rfl⟩ := hrel
      by_cases hlt : k < l.length
      · obtain ⟨b, o, c', hv, -, -, -, hl⟩ := HL.out.resolve_right (fun h => by rw [h.1] at hlt; exact absurd hlt (Nat.not_lt_zero _))
        injection hv with e1 e2 e3
        subst e1
        obtain ⟨x, hx⟩ : ∃ x, l[k]? = some x := ⟨_, List.getElem?_eq_getElem hlt⟩
        have hc := hl k x hx
        have HX := hH.out
        rw [Tp.ups_at hx] at HX
        clear hl hx hH e2 e3
        by_cases he : x = k
        · rw [decide_eq_true he, Bool.true_and] at HX
          have HY := hid HX
          clear HX
          have ht : (x == (k : Int)) = true := by rw [he]; simp
          clear he
          go_wp2
          go_roundw
          case rel => exact ⟨k + 1, by go_num, by omega, HY, by trivial⟩
          case measure => simp [intOf]; omega
        · rw [decide_eq_false he, Bool.false_and, Bool.false_and] at HX
          subst HX
          have ht : (x == (k : Int)) = false := by simpa using he
          clear he
          go_wp2
          go_ret
          exact ⟨rfl, HBB.out⟩
      · have HX := hH.out
        rw [List.drop_eq_nil_of_le (by omega), Tp.ups, Bool.true_and] at HX
        have HY := hid HX
        clear HX hH
        go_wp2
        go_ret
        rw [HY.out]
        exact ⟨rfl, HBB.out⟩
end Go.Proofs.Ythijckdhndbdoaa
