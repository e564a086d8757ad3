/- What the reading of an argument gives: numbers in a list; lists that are nil or a row. -/
import Derived.Test.YtbdohoebpaiecaaDoorTpRd
import Derived.Test.YtbdohoebpaiecaaDoorTpCp
namespace Go.Proofs.YtbdohoebpaiecaaDoor
open Go.ChangeShapes Go.WideShapes Go.ChangeAt Go.RowKit Go.Deep
set_option linter.unusedVariables false
variable {H : Type} {enc : TypeId × Value → H} {W : World}
theorem bulk_map (D : Nat → DataW H) (hD : ∀ i, 1 ≤ Rows.uptoBulk (D i)) : ∀ l : List Nat, l.length ≤ Rows.uptoBulkAll (l.map D)
  | [] => Nat.zero_le _
  | x :: r => by have := bulk_map D hD r; have := hD x; rw [List.map_cons, Rows.uptoBulkAll, List.length_cons]; omega
theorem bulk_pos (d : DataW H) : 1 ≤ Rows.uptoBulk d := by
  cases d with
  | lit l => cases l <;> simp [Rows.uptoBulk]
  | _ => simp [Rows.uptoBulk]
set_option maxRecDepth 100000 in
theorem open_intl {base : Nat} {v : Value} {d : DataW H} {p : List MemPlace} (hok : Value.okWide Tryd.prog W .any base 28 v) (h : DataW.Trod enc Tryd.prog W 0 (fun _ => true) true 28 v d p) : ∃ l, (Ls W Any v l ∧ Sly v) ∧ l.length ≤ Rows.uptoBulk d := by
  obtain ⟨a0, len, cap, rfl⟩ := okWide_slice Tryd.underlying28 hok
  obtain ⟨fuel, hf⟩ := h
  have hf' : DataW.trod enc Tryd.prog W 0 (fun _ => true) true fuel 28 [.slice a0 len cap] = some (d, p) := by simpa [Value.cells] using hf
  rcases open_slice1 Tryd.underlying28 cells_int hf' with ⟨e, e2⟩ | ⟨a, len', cap', m, n, V, D, Pl, e, -, hl, hm, hmm, e2, hx⟩
  · have e : Value.slice a0 len cap = .slice none 0 0 := by simpa using e
    injection e with e1 e2 e3
    subst e1; subst e2; subst e3
    exact ⟨[], ⟨.inr ⟨rfl, _, _, rfl⟩, .inl rfl⟩, Nat.zero_le _⟩
  · have e : Value.slice a0 len cap = .slice (some a) len' cap' := by simpa using e
    injection e with q1 q2 q3
    subst q1; subst q2; subst q3
    injection e2 with e2 e3
    subst e2
    have hm2 : m = cap := by simpa using hmm
    clear hmm
    have h1 : ∀ i, i < len → ∃ x : Int, W.cell? (a.add i) = some (.int .i64 x) := by
      intro i hi
      obtain ⟨g1, g2⟩ := hx i (by omega)
      obtain ⟨x, e0, -, -⟩ := DataW.trod_int Tryd.underlying3 g2
      refine ⟨x, ?_⟩
      rw [g1]
      simpa using e0
    obtain ⟨f, hf⟩ := choose_lt (n := len) (p := fun i (x : Int) => W.cell? (a.add i) = some (.int .i64 x)) h1
    refine ⟨(List.range len).map f, ⟨?_, .inr ⟨_, _, _, rfl⟩⟩, ?_⟩
    · rcases Nat.eq_zero_or_pos len with h0 | h0
      · subst h0
        exact .inr ⟨rfl, _, _, rfl⟩
      · obtain ⟨b, off, spot⟩ := a
        have c0 := hf 0 h0
        have hspot : spot = none := by simpa [Addr.add] using World.cell?_spot c0
        subst hspot
        refine .inl ⟨b, off, cap, by rw [List.length_map, List.length_range], trivial, by rw [List.length_map, List.length_range]; exact hl, by rw [List.length_map, List.length_range]; omega, fun i x hi => ?_⟩
        rw [List.getElem?_map] at hi
        obtain ⟨j, hj, rfl⟩ := Option.map_eq_some_iff.1 hi
        obtain ⟨hi2, hj2⟩ := List.getElem?_eq_some_iff.1 hj
        rw [List.length_range] at hi2
        rw [List.getElem_range] at hj2
        subst hj2
        have := hf i hi2
        rw [addr_add'] at this
        exact this
    · have := bulk_map D (fun i => bulk_pos _) (List.range len)
      rw [List.length_map, Rows.uptoBulk]
      omega
set_option maxRecDepth 100000 in
theorem open_types2 {base : Nat} {v : Value} {d : DataW H} {p : List MemPlace} (hok : Value.okWide Tryd.prog W .any base 22 v) (h : DataW.Trod enc Tryd.prog W 0 (fun _ => true) true 22 v d p) : ∃ n l, (TAtL W Any n v l ∧ Sly v) ∧ Tp.cntL l ≤ Rows.uptoBulk d := by
  obtain ⟨n, l, h1, h2⟩ := open_types hok h
  refine ⟨n, l, ⟨h1, ?_⟩, h2⟩
  obtain ⟨a0, len, cap, rfl⟩ := okWide_slice Tryd.underlying22 hok
  obtain ⟨fuel, hf⟩ := h
  have hf' : DataW.trod enc Tryd.prog W 0 (fun _ => true) true fuel 22 [.slice a0 len cap] = some (d, p) := by simpa [Value.cells] using hf
  rcases DataW.trod_slice Tryd.underlying22 hf' with ⟨e, -⟩ | ⟨a, len', cap', _, _, _, -, e, -⟩
  · exact .inl (by simpa using e)
  · exact .inr ⟨a, len', cap', by simpa using e⟩
end Go.Proofs.YtbdohoebpaiecaaDoor
