/- The document's own: place, In, counted, Size, Fits, grown. -/
import Derived.Test.YtbdohoebpaiecabDoorTpB
namespace Go.Proofs.YtbdohoebpaiecabDoor
open Go.RowKit
set_option linter.unusedVariables false
set_option linter.unusedSimpArgs false



def Tp.has (n : Int) : List Int → Bool
  | [] => false
  | x :: r => if x = n then true else Tp.has n r
theorem Tp.has_at {n : Int} {l : List Int} {k : Nat} {x : Int} (hx : l[k]? = some x) : Tp.has n (l.drop k) = if x = n then true else Tp.has n (l.drop (k + 1)) := by
  obtain ⟨h1, e1⟩ := List.getElem?_eq_some_iff.1 hx
  rw [List.drop_eq_getElem_cons h1, e1, Tp.has]
theorem Tp.has_mem (n : Int) : ∀ l : List Int, Tp.has n l = decide (n ∈ l)
  | [] => by simp [Tp.has]
  | x :: r => by
    rw [Tp.has, Tp.has_mem n r]
    by_cases h : x = n
    · rw [if_pos h]; simp [h]
    · rw [if_neg h, decide_eq_decide, List.mem_cons]
      exact ⟨.inr, fun h2 => h2.elim (fun e => absurd e.symm h) id⟩



set_option maxHeartbeats 1000000 in
set_option maxRecDepth 100000 in
theorem lawIn_any (w : World) (v : Value) (l : List Int) (n : Int) (h : Ls w Any v l) : Calls Tryd.prog 6 #[v, .int .i64 n] w fun e w' => e = .returned (.bool (Tp.has n l)) ∧ w' = w := by
  obtain ⟨a, c, rfl, hm⟩ := h.form
  unfold maxLen at hm
  go_enter Tryd.func6, Tryd.ntmps6
  go_wp2
  go_loopw [5] (fun v wr => ∃ k : Nat, v = .int .i64 k ∧ k ≤ l.length ∧ Hid (Tp.has n l = Tp.has n (l.drop k)) ∧ wr = w) (fun v _ => l.length - (intOf v).toNat)
  case atStart => exact ⟨0, rfl, Nat.zero_le _, rfl, rfl⟩
  case round =>
    obtain ⟨k, rfl, hk, hH, rfl⟩ := hrel
    by_cases hlt : k < l.length
    · obtain ⟨b, o, c', hv, -, -, -, hl⟩ := h.resolve_right (fun h => by rw [h.1] at hlt; exact absurd hlt (Nat.not_lt_zero _))
      injection hv with e1 e2 e3
      subst e1
      obtain ⟨x, hx⟩ : ∃ x, l[k]? = some x := ⟨_, List.getElem?_eq_getElem hlt⟩
      have hc := hl k x hx
      have HX := hH.out
      rw [Tp.has_at hx] at HX
      clear hl hx hH h e2 e3
      by_cases he : x = n
      · have HY : Hid (Tp.has n l = true) := by show _ = _; rw [HX]; rw [if_pos he]
        have he2 : (x == n) = true := by rw [beq_iff_eq]; exact he
        clear HX he
        go_wp2
        go_ret
        exact ⟨ret_bool HY.out.symm, rfl⟩
      · have HY : Hid (Tp.has n l = Tp.has n (l.drop (k + 1))) := by show _ = _; rw [HX]; rw [if_neg he]
        have he2 : (x == n) = false := by rw [beq_eq_false_iff_ne]; exact he
        clear HX he
        go_wp2
        go_roundw
        case rel => exact ⟨k + 1, by go_num, by omega, HY, by first | trivial | rfl⟩
        case measure => simp [intOf]; omega
    · have HX : Hid (Tp.has n l = false) := by
        show _ = _
        rw [hH.out, List.drop_eq_nil_of_le (by omega)]; rfl
      clear hH h
      go_wp2
      go_ret
      exact ⟨ret_bool HX.out.symm, rfl⟩







end Go.Proofs.YtbdohoebpaiecabDoor