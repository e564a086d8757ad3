/- What the document's Reserved comes to. -/
import Derived.RangeFuncRecord
import Derived.Test.YtfjcnncpmhfbnaaDoorLists
import Derived.Test.YtfjcnncpmhfbnaaDoorLexSkip
namespace Go.Proofs.YtfjcnncpmhfbnaaDoor
open Go.RowKit
set_option linter.unusedVariables false

theorem Strs.new (W : World) (xs : List ByteArray) (n c : Nat) (h : xs.length = n) : Strs (W.alloc (.cells (xs.map Value.string).toArray 9)) (.slice (some ⟨W.heap.size, 0, none⟩) n c) xs := by
  subst h
  refine .inl ⟨W.heap.size, 0, c, rfl, fun j x hx => ?_⟩
  unfold World.cell?
  rw [World.alloc_heap_new]
  simp [hx]

/-- Does a list have a text? -/
def Nm.has (xs : List ByteArray) (s : ByteArray) : Bool := xs.any fun x => decide (x = s)
theorem Nm.has_true {xs : List ByteArray} {s : ByteArray} : Nm.has xs s = true ↔ s ∈ xs := by
  unfold Nm.has
  rw [List.any_eq_true]
  constructor
  · rintro ⟨x, hx, h⟩; rw [← of_decide_eq_true h]; exact hx
  · intro h; exact ⟨s, h, decide_eq_true rfl⟩

set_option maxHeartbeats 1000000 in
theorem has_any (v : Value) (xs : List ByteArray) (s : ByteArray) (w : World) (hv : Strs w v xs) (hl : xs.length ≤ maxLen) :
    Calls Tryd.prog 50 #[v, .string s] w fun e w' => e = .returned (.bool (Nm.has xs s)) ∧ w' = w := by
  unfold maxLen at hl
  rcases hv with ⟨b, o, c, rfl, hc⟩ | ⟨rfl, p, c, rfl⟩
  · go_enter Tryd.func50, Tryd.ntmps50
    go_wp2
    go_loop [5] (fun v => ∃ k : Nat, v = .int .i64 k ∧ k ≤ xs.length ∧ Hid (∀ j, j < k → xs[j]? ≠ some s)) (fun v => xs.length - (intOf v).toNat)
    case atStart => exact ⟨0, rfl, Nat.zero_le _, fun j hj => absurd hj (Nat.not_lt_zero _)⟩
    case round =>
      obtain ⟨k, rfl, hk, hall⟩ := hrel
      by_cases hlt : k < xs.length
      · obtain ⟨x, hxk⟩ : ∃ x, xs[k]? = some x := ⟨_, List.getElem?_eq_getElem hlt⟩
        have d := hc k x hxk
        by_cases he : x = s
        · subst he
          have HX : Hid (Nm.has xs x = true) := Nm.has_true.2 (List.mem_of_getElem? hxk)
          have h3 : (x.toList == x.toList) = true := beq_self_eq_true _
          clear hall hc hxk
          go_wp2
          go_ret
          exact ⟨ret_bool HX.out.symm, rfl⟩
        · have HX : Hid (∀ j, j < k + 1 → xs[j]? ≠ some s) := fun j hj => by
            by_cases e : j = k
            · subst e; rw [hxk]; intro e; exact he (Option.some.inj e)
            · exact hall.out j (by omega)
          have h3 : (x.toList == s.toList) = false := by rw [Nm.str_eq, decide_eq_false he]
          clear hall hc hxk he
          go_wp2
          go_round
          case rel => exact ⟨k + 1, by go_num, by omega, HX⟩
          case measure => simp [intOf]; omega
      · have HX : Hid (Nm.has xs s = false) := by
          refine Bool.eq_false_iff.2 fun hh => ?_
          have hm := Nm.has_true.1 hh
          obtain ⟨j, hj⟩ := List.mem_iff_getElem?.1 hm
          have := (List.getElem?_eq_some_iff.1 hj).1
          exact hall.out j (by omega) hj
        clear hall hc
        go_wp2
        go_ret
        exact ⟨ret_bool HX.out.symm, rfl⟩
  · go_enter Tryd.func50, Tryd.ntmps50
    go_wp2
    go_loop [5] (fun v => v = .int .i64 0) (fun v => 0)
    case atStart => rfl
    case round =>
      subst hrel
      go_wp2
      go_ret
      exact ⟨rfl, rfl⟩

theorem Nm.mem_words (s : ByteArray) : Nm.has Nm.wordsB s = Nm.reserved s := by
  unfold Nm.reserved
  rw [Nm.wordsB_eq]
  apply Bool.eq_iff_iff.2
  rw [Nm.has_true, List.contains_iff_mem, List.mem_map]
  constructor
  · rintro ⟨l, hl, rfl⟩; exact hl
  · intro h; exact ⟨_, h, rfl⟩

theorem refReserved_new (s : ByteArray) (w : World) : Calls Tryd.prog 38 #[.string s] w fun e w' => e = .returned (.bool (Nm.reserved s)) ∧ ∃ o, w' = w.alloc o := by
  have hst := Strs.new w Nm.wordsB 24 24 rfl
  have H : Hid (Nm.has Nm.wordsB s = Nm.reserved s) := Nm.mem_words s
  go_enter Tryd.func38, Tryd.ntmps38
  go_wp2_with (first | (go_at_call 51; refine (refWords_any _).mono ?_; rintro e w1 ⟨rfl, rfl⟩) | (go_at_call 50; refine (has_any _ _ _ _ hst (by decide)).mono ?_; rintro e w2 ⟨rfl, rfl⟩))
  go_ret
  exact ⟨ret_bool H.out, _, rfl⟩
end Go.Proofs.YtfjcnncpmhfbnaaDoor
