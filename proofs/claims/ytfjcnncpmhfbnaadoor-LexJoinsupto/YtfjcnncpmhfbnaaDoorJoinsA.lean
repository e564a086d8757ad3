/- A list of tokens that came in, as the walk wants it; what the second form's bound gives. -/
import Derived.Test.YtfjcnncpmhfbnaaDoorRows
import Derived.WalkKit
import Derived.ProofKit
import Derived.OpenShut
import Derived.ShutString
import Derived.SliceStrings
import Derived.Carry
import Derived.Deep.Slices
import Derived.Lib.SmallJoins
import Derived.Test.YtfjcnncpmhfbnaaDoorJoinsW
namespace Go.Proofs.YtfjcnncpmhfbnaaDoor
open Go.ChangeShapes Go.WideShapes Go.ChangeAt Go.RowKit Go.Deep Go.Joins
set_option linter.unusedVariables false

theorem laid_out : laidOutB Tryd.prog = true := by kernel_rfl
theorem cells_rtok : Tryd.prog.cellsOf 32 = 4 := by kernel_rfl
theorem cells_int : Tryd.prog.cellsOf 3 = 1 := by kernel_rfl
theorem cells_i64 : Tryd.prog.cellsOf 2 = 1 := by kernel_rfl
theorem cells_string : Tryd.prog.cellsOf 9 = 1 := by kernel_rfl
def Tv.bulk (xs : List Tv) : Nat := (xs.map fun x => x.text.size + 5).sum
def Tv.data {H : Type} (x : Tv) : DataW H := .agg [.lit (.int .i64 x.kind), .lit (.string x.text.data.toList), .lit (.int .i64 x.n), .lit (.int .i64 x.place)]

set_option maxRecDepth 100000 in
theorem tok_at {H : Type} {enc : TypeId × Value → H} {W : World} {n : Nat} {a : Addr} {cs : List Value} {x : DataW H × List MemPlace}
    (hc : W.cells? 0 a 4 = some cs) (h : DataW.trod enc Tryd.prog W 0 (fun _ => true) true n 32 cs = some x) :
    ∃ t : Tv, x.1 = t.data ∧ W.cell? (a.add 0) = some (.int .i64 t.kind) ∧ W.cell? (a.add 1) = some (.string t.text) ∧ W.cell? (a.add 2) = some (.int .i64 t.n) ∧ W.cell? (a.add 3) = some (.int .i64 t.place) := by
  obtain ⟨y0, y1, y2, y3, m, rfl, hl, h0, h1, h2, h3⟩ := trod_struct4 Tryd.underlying32 h
  rw [cells_rtok] at hl
  match cs, hl with
  | [c0, c1, c2, c3], _ =>
    simp only [cells_int, cells_string, cells_i64, List.drop_zero, List.drop_succ_cons, List.take_succ_cons, List.take_zero] at h0 h1 h2 h3
    obtain ⟨k, e0, rfl, -⟩ := DataW.trod_int Tryd.underlying3 h0
    obtain ⟨s, e1, rfl, -⟩ := DataW.trod_string Tryd.underlying9 h1
    obtain ⟨q, e2, rfl, -⟩ := DataW.trod_int Tryd.underlying2 h2
    obtain ⟨pl, e3, rfl, -⟩ := DataW.trod_int Tryd.underlying3 h3
    simp only [List.cons.injEq, and_true] at e0 e1 e2 e3
    subst e0; subst e1; subst e2; subst e3
    have hs := World.cells?_some hc
    refine ⟨⟨k, s, q, pl⟩, rfl, ?_, ?_, ?_, ?_⟩
    · exact hs.2.2 0 (by decide)
    · exact hs.2.2 1 (by decide)
    · exact hs.2.2 2 (by decide)
    · exact hs.2.2 3 (by decide)

set_option maxRecDepth 100000 in
theorem open_toks {H : Type} {enc : TypeId × Value → H} {W : World} {base : Nat} {v : Value} {d : DataW H} {p : List MemPlace} (hok : Value.okWide Tryd.prog W .any base 26 v)
    (h : DataW.Trod enc Tryd.prog W 0 (fun _ => true) true 26 v d p) :
    ∃ xs : List Tv, TvAt W v xs ∧ Tv.bulk xs ≤ Rows.uptoBulk d := by
  obtain ⟨a0, len, cap, rfl⟩ := okWide_slice Tryd.underlying26 hok
  obtain ⟨fuel, hf⟩ := h
  rcases open_slice Tryd.underlying26 hf with ⟨hcs, hx⟩ | ⟨a, len', cap', m, n, D, Pl, hcs, _, hl, hm, hmm, hx, hall⟩
  · simp [Value.cells] at hcs
    obtain ⟨rfl, rfl, rfl⟩ := hcs
    exact ⟨[], .inl ⟨rfl, none, 0, rfl⟩, Nat.zero_le _⟩
  · simp [Value.cells] at hcs
    obtain ⟨rfl, rfl, rfl⟩ := hcs
    simp only [Prod.mk.injEq] at hx
    obtain ⟨rfl, rfl⟩ := hx
    simp only [if_true] at hmm
    subst hmm
    rw [cells_rtok] at hall
    have inh : Inhabited Tv := ⟨⟨0, ⟨#[]⟩, 0, 0⟩⟩
    obtain ⟨f, hfn⟩ := choose_lt (n := len) (p := fun i (t : Tv) => D i = t.data ∧ W.cell? ((a.add (i * 4)).add 0) = some (.int .i64 t.kind) ∧ W.cell? ((a.add (i * 4)).add 1) = some (.string t.text) ∧ W.cell? ((a.add (i * 4)).add 2) = some (.int .i64 t.n) ∧ W.cell? ((a.add (i * 4)).add 3) = some (.int .i64 t.place)) (fun i hi => by
      obtain ⟨cs', h1, h2⟩ := hall i (by omega)
      exact tok_at h1 h2)
    have hb : ∀ l : List Nat, (∀ i ∈ l, i < len) → Tv.bulk (l.map f) ≤ Rows.uptoBulkAll (H := H) (l.map D) := by
      intro l
      induction l with
      | nil => intro _; exact Nat.zero_le _
      | cons i l ih =>
        intro hh
        have h1 := ih (fun j hj => hh j (List.mem_cons_of_mem _ hj))
        have h2 := (hfn i (hh i List.mem_cons_self)).1
        rw [List.map_cons, List.map_cons, Tv.bulk, List.map_cons, List.sum_cons, Rows.uptoBulkAll, h2, Tv.data, Rows.uptoBulk]
        simp only [Rows.uptoBulkAll, Rows.uptoBulk]
        rw [Nm.len]
        unfold Tv.bulk at h1
        omega
    refine ⟨(List.range len).map f, ?_, ?_⟩
    · rcases Nat.eq_zero_or_pos len with h0 | h0
      · subst h0
        exact .inl ⟨rfl, _, _, rfl⟩
      · obtain ⟨b, off, spot⟩ := a
        have hspot : spot = none := by
          have := World.cell?_spot (hfn 0 h0).2.1
          simpa [Addr.add] using this
        subst hspot
        refine .inr ⟨b, off, m, by rw [List.length_map, List.length_range], ?_, fun i t ht => ?_⟩
        · have := World.block_lt_of_cell? _ _ (hfn 0 h0).2.1
          simpa [Addr.add] using this
        · rw [List.getElem?_map] at ht
          obtain ⟨j, hj, rfl⟩ := Option.map_eq_some_iff.1 ht
          obtain ⟨hi, hj2⟩ := List.getElem?_eq_some_iff.1 hj
          rw [List.length_range] at hi
          rw [List.getElem_range] at hj2
          subst hj2
          obtain ⟨-, k0, k1, k2, k3⟩ := hfn i hi
          rw [add_plain, add_plain] at k0 k1 k2 k3
          exact ⟨k0, k1, k2, k3⟩
    · have := hb (List.range len) (fun i hi => List.mem_range.1 hi)
      rw [Rows.uptoBulk]
      omega

theorem shut_toks {H : Type} {enc : TypeId × Value → H} {W W' : World} {v : Value} {d : DataW H} {p : List MemPlace} (h : DataW.Trod enc Tryd.prog W 0 (fun _ => true) true 26 v d p)
    (hb : Below W.heap.size W W') (hlt : ∀ x ∈ p, x.block < W.heap.size) : DataW.Trod enc Tryd.prog W' 0 (fun b => decide (b < W.heap.size)) true 26 v d p :=
  Below.trod laid_out (by kernel_rfl) (of_decide_eq_true (by kernel_rfl)) h hb hlt

theorem Tv.bulk_len : ∀ xs : List Tv, xs.length ≤ Tv.bulk xs
  | [] => Nat.le_refl _
  | x :: r => by
    have := Tv.bulk_len r
    rw [Tv.bulk, List.map_cons, List.sum_cons, List.length_cons]
    show _ ≤ x.text.size + 5 + Tv.bulk r
    omega
theorem Tv.bulk_join : ∀ xs : List Tv, (Tv.joined xs).length ≤ Tv.bulk xs
  | [] => Nat.le_refl _
  | x :: r => by
    unfold Tv.joined
    rw [List.map_cons, Lib.join_cons, List.length_append, Nm.len, Tv.bulk, List.map_cons, List.sum_cons]
    have : ∀ r : List Tv, (Lib.joinTail [32] (r.map fun x => x.text.data.toList)).length ≤ Tv.bulk r := by
      intro r
      induction r with
      | nil => exact Nat.le_refl _
      | cons y r ih =>
        unfold Lib.joinTail at ih ⊢
        rw [List.map_cons, List.map_cons, List.flatten_cons, List.length_append, List.length_append, Nm.len, Tv.bulk, List.map_cons, List.sum_cons]
        unfold Tv.bulk at ih
        simp only [List.length_cons, List.length_nil]
        omega
    have h1 := this r
    unfold Tv.bulk at h1
    omega
end Go.Proofs.YtfjcnncpmhfbnaaDoor
