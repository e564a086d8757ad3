/- A list of texts that came in, as the walks want it; what the second form's bound gives. -/
import Derived.Test.YtcccmbiocknknaaDoorRows
import Derived.WalkKit
import Derived.ProofKit
import Derived.OpenShut
import Derived.ShutString
import Derived.SliceStrings
import Derived.Carry
import Derived.Test.YtcccmbiocknknaaDoorJoin
namespace Go.Proofs.YtcccmbiocknknaaDoor
open Go.ChangeShapes Go.WideShapes Go.ChangeAt Go.RowKit
set_option linter.unusedVariables false

theorem laid_out : laidOutB Tryd.prog = true := by kernel_rfl
theorem cells_string : Tryd.prog.cellsOf 9 = 1 := by kernel_rfl

theorem open_arg {H : Type} {enc : TypeId × Value → H} {W : World} {base : Nat} {v : Value} {d : DataW H} {p : List MemPlace} (hok : Value.okWide Tryd.prog W .any base 22 v)
    (h : DataW.Trod enc Tryd.prog W 0 (fun _ => true) true 22 v d p) :
    ∃ xs : List ByteArray, Strs W v xs ∧ CapOk v ∧ (∀ x, x ∈ xs → x.size ≤ maxLen) ∧ xs.length ≤ maxLen ∧ ((xs = [] ∧ d = .nil) ∨ ∃ sp, d = .slice (strs xs) sp) := by
  obtain ⟨a0, len, cap, rfl⟩ := okWide_slice Tryd.underlying22 hok
  obtain ⟨fuel, hf⟩ := h
  rcases open_strings Tryd.underlying22 Tryd.underlying9 cells_string hf with ⟨hcs, hx⟩ | ⟨a, len', cap', ss, hcs, _, hl, hm, hz, hx, hcell, hw⟩
  · simp [Value.cells] at hcs
    obtain ⟨rfl, rfl, rfl⟩ := hcs
    simp only [Prod.mk.injEq] at hx
    obtain ⟨rfl, rfl⟩ := hx
    exact ⟨[], Strs.nil _ _ _, Nat.le_refl _, (fun x hx => by cases hx), Nat.zero_le _, .inl ⟨rfl, rfl⟩⟩
  · simp [Value.cells] at hcs
    obtain ⟨rfl, rfl, rfl⟩ := hcs
    simp only [Prod.mk.injEq] at hx
    obtain ⟨rfl, rfl⟩ := hx
    simp only [if_true] at hz
    obtain ⟨b, off, spot⟩ := a
    have hlen : (ss.take len).length = len := by rw [List.length_take]; omega
    refine ⟨ss.take len, ?_, hl, fun x hx => hw x (List.mem_of_mem_take hx), by omega, .inr ⟨_, rfl⟩⟩
    rcases Nat.eq_zero_or_pos len with h0 | h0
    · subst h0
      exact .inr ⟨by simp, _, _, rfl⟩
    · have hspot : spot = none := by simpa [Addr.add] using World.cell?_spot (hcell 0 (by omega))
      subst hspot
      refine .inl ⟨b, off, cap, by rw [hlen], fun j X hX => ?_⟩
      have hj : j < len := by
        have := (List.getElem?_eq_some_iff.1 hX).1
        omega
      have hX' : ss.getD j ByteArray.empty = X := by
        rw [List.getElem?_take_of_lt hj] at hX
        simp [List.getD, hX]
      rw [← add_plain, ← hX']
      exact hcell j (by omega)

theorem shut_arg {H : Type} {enc : TypeId × Value → H} {W W' : World} {v : Value} {d : DataW H} {p : List MemPlace} (h : DataW.Trod enc Tryd.prog W 0 (fun _ => true) true 22 v d p)
    (hb : Below W.heap.size W W') (hlt : ∀ x ∈ p, x.block < W.heap.size) : DataW.Trod enc Tryd.prog W' 0 (fun b => decide (b < W.heap.size)) true 22 v d p :=
  Below.trod laid_out (by kernel_rfl) (of_decide_eq_true (by kernel_rfl)) h hb hlt

/-- How many letters and texts a list has. -/
def Nm.bulk (xs : List ByteArray) : Nat := (xs.map fun x => x.size + 1).sum

theorem bulk_strs {H : Type} : ∀ xs : List ByteArray, Rows.uptoBulkAll (H := H) (strs xs) = Nm.bulk xs
  | [] => rfl
  | x :: r => by
    have ih := bulk_strs (H := H) r
    unfold strs at ih ⊢
    rw [List.map_cons, Rows.uptoBulkAll, ih, Rows.uptoBulk, Nm.bulk, Nm.bulk, List.map_cons, List.sum_cons, Nm.len]
theorem bulk_arg {H : Type} {xs : List ByteArray} {d : DataW H} (h : (xs = [] ∧ d = .nil) ∨ ∃ sp, d = .slice (strs xs) sp) : Nm.bulk xs ≤ Rows.uptoBulk d := by
  rcases h with ⟨rfl, rfl⟩ | ⟨sp, rfl⟩
  · simp [Nm.bulk]
  · rw [Rows.uptoBulk, bulk_strs]; omega
theorem Nm.bulk_len : ∀ xs : List ByteArray, xs.length ≤ Nm.bulk xs
  | [] => Nat.le_refl _
  | x :: r => by
    have := Nm.bulk_len r
    rw [Nm.bulk, List.map_cons, List.sum_cons, List.length_cons]
    show _ ≤ x.size + 1 + Nm.bulk r
    omega
theorem Nm.bulk_join : ∀ xs : List ByteArray, (Nm.joinL (xs.map (·.data.toList))).length ≤ Nm.bulk xs
  | [] => Nat.le_refl _
  | [x] => by
    show x.data.toList.length ≤ _
    rw [Nm.len]
    simp [Nm.bulk]
  | x :: y :: r => by
    have ih := Nm.bulk_join (y :: r)
    rw [List.map_cons, List.map_cons, Nm.joinL, List.length_append, List.length_cons, Nm.len]
    rw [List.map_cons] at ih
    rw [Nm.bulk, List.map_cons, List.sum_cons]
    show _ ≤ x.size + 1 + Nm.bulk (y :: r)
    omega
theorem Nm.bulk_joined (xs : List ByteArray) : (Nm.join xs).size ≤ Nm.bulk xs := by
  rw [← Nm.len]; exact Nm.bulk_join xs
end Go.Proofs.YtcccmbiocknknaaDoor
