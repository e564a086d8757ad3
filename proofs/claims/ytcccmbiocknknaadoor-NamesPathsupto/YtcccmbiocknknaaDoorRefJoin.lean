/- What the document's own Join comes to. -/
import Derived.Test.YtcccmbiocknknaaDoorArg
namespace Go.Proofs.YtcccmbiocknknaaDoor
open Go.RowKit Go.Shelf
set_option linter.unusedVariables false

theorem Nm.joinL_snoc : ∀ (l : List (List UInt8)) (x : List UInt8), l ≠ [] → Nm.joinL (l ++ [x]) = Nm.joinL l ++ 46 :: x
  | [], x, h => absurd rfl h
  | [y], x, _ => rfl
  | y :: z :: r, x, _ => by
    have ih := Nm.joinL_snoc (z :: r) x (by simp)
    rw [List.cons_append, List.cons_append, Nm.joinL, ← List.cons_append, ih, Nm.joinL]
    simp
theorem Nm.bulk_take (xs : List ByteArray) (k : Nat) : Nm.bulk (xs.take k) ≤ Nm.bulk xs := by
  have e : Nm.bulk xs = Nm.bulk (xs.take k) + Nm.bulk (xs.drop k) := by
    conv => lhs; rw [← List.take_append_drop k xs]
    unfold Nm.bulk
    rw [List.map_append, List.sum_append]
  omega
theorem Nm.join_first {xs : List ByteArray} {x : ByteArray} (h : xs[0]? = some x) : Nm.join (xs.take 1) = x := by
  cases xs with
  | nil => cases h
  | cons y r => obtain rfl : y = x := by simpa using h
                rfl
theorem Nm.join_next {xs : List ByteArray} {x : ByteArray} {k : Nat} (h0 : 0 < k) (h : xs[k]? = some x) : Nm.join (xs.take (k + 1)) = Nm.join (xs.take k) ++ (⟨#[46]⟩ : ByteArray) ++ x := by
  have hk := (List.getElem?_eq_some_iff.1 h).1
  apply Nm.bytes_inj
  have e : (Nm.join (xs.take (k + 1))).data.toList = Nm.joinL ((xs.take (k + 1)).map (·.data.toList)) := rfl
  have e2 : (Nm.join (xs.take k)).data.toList = Nm.joinL ((xs.take k).map (·.data.toList)) := rfl
  rw [e, List.take_add_one, h, List.map_append, ByteArray.data_append, ByteArray.data_append, Array.toList_append, Array.toList_append, e2]
  show Nm.joinL (_ ++ [x.data.toList]) = _
  rw [Nm.joinL_snoc _ _ (by
    intro e
    have e' : xs.take k = [] := List.map_eq_nil_iff.1 e
    have := congrArg List.length e'
    rw [List.length_take, List.length_nil] at this
    omega)]
  simp
theorem Nm.size_next {xs : List ByteArray} {x : ByteArray} {k : Nat} (h : xs[k]? = some x) : Nm.bulk (xs.take (k + 1)) = Nm.bulk (xs.take k) + (x.size + 1) := by
  rw [List.take_add_one, h]
  unfold Nm.bulk
  rw [List.map_append, List.sum_append]
  rfl

set_option maxHeartbeats 1000000 in
theorem refJoin_any (v : Value) (xs : List ByteArray) (w : World) (hv : Strs w v xs) (hB : Nm.bulk xs ≤ 1048576) :
    Calls Tryd.prog 32 #[v] w fun e w' => e = .returned (.string (Nm.join xs)) ∧ w' = w := by
  have hl0 := Nm.bulk_len xs
  have hl : xs.length ≤ 1048576 := by omega
  rcases hv with ⟨b, o, c, rfl, hc⟩ | ⟨rfl, p, c, rfl⟩
  · go_enter Tryd.func32, Tryd.ntmps32
    go_wp2
    go_loop [3, 4] (fun tv v => ∃ (k : Nat) (t : ByteArray), v = .int .i64 k ∧ tv = .string t ∧ k ≤ xs.length ∧ Hid (t = Nm.join (xs.take k))) (fun _ v => xs.length - (intOf v).toNat)
    case atStart => exact ⟨0, _, rfl, rfl, Nat.zero_le _, rfl⟩
    case round =>
      obtain ⟨k, t, rfl, rfl, hk, ht⟩ := hrel
      have hts : t.size ≤ Nm.bulk (xs.take k) := by rw [ht.out]; exact Nm.bulk_joined _
      by_cases hlt : k < xs.length
      · obtain ⟨x, hxk⟩ : ∃ x, xs[k]? = some x := ⟨_, List.getElem?_eq_getElem hlt⟩
        have d := hc k x hxk
        have hb1 := Nm.bulk_take xs (k + 1)
        have hb2 := Nm.size_next hxk
        by_cases hk0 : k = 0
        · subst hk0
          have HX : Hid (⟨#[]⟩ ++ x = Nm.join (xs.take (0 + 1))) := by
            show _ = _
            rw [Nm.join_first hxk]
            apply Nm.bytes_inj
            rw [ByteArray.data_append, Array.toList_append]
            rfl
          obtain rfl : t = ⟨#[]⟩ := ht.out
          have hz : ¬ ((0 + x.size : Nat) : Int) > 9223372036854775807 := by omega
          have d' : w.cell? ⟨b, o, none⟩ = some (.string x) := d
          clear hc hxk ht hts hb1 hb2 hB hl0 d
          go_wp2
          go_round
          case rel => exact ⟨1, _, by go_num, rfl, by omega, HX⟩
          case measure => simp [intOf]; omega
        · have HX : Hid (t ++ (⟨#[46]⟩ : ByteArray) ++ x = Nm.join (xs.take (k + 1))) := by show _ = _; rw [Nm.join_next (by omega) hxk, ht.out]
          have hz1 : ¬ ((t.size + 1 : Nat) : Int) > 9223372036854775807 := by omega
          have hz2 : ¬ (((t ++ (⟨#[46]⟩ : ByteArray)).size + x.size : Nat) : Int) > 9223372036854775807 := by rw [ByteArray.size_append, show (⟨#[46]⟩ : ByteArray).size = 1 from rfl]; omega
          have hk1 : (0 : Int) < (k : Int) := by omega
          clear hc hxk ht hts hb1 hb2 hB hl0 hk0
          go_wp2
          go_round
          case rel => exact ⟨k + 1, _, by go_num, rfl, by omega, HX⟩
          case measure => simp [intOf]; omega
      · have HX : Hid (t = Nm.join xs) := by show _ = _; rw [ht.out, List.take_of_length_le (by omega)]
        clear hc ht hts hB hl0
        go_wp2
        go_ret
        exact ⟨ret_str HX.out, rfl⟩
  · go_enter Tryd.func32, Tryd.ntmps32
    go_wp2
    go_loop [3, 4] (fun tv v => v = .int .i64 0 ∧ tv = .string ⟨#[]⟩) (fun _ v => 0)
    case atStart => exact ⟨rfl, rfl⟩
    case round =>
      obtain ⟨rfl, rfl⟩ := hrel
      go_wp2
      go_ret
      exact ⟨rfl, rfl⟩
end Go.Proofs.YtcccmbiocknknaaDoor
