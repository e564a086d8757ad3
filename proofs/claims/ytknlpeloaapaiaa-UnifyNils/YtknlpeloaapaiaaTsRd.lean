/- What the reading of an argument gives: types, schemes, lists in memory. -/
import Derived.Test.YtknlpeloaapaiaaRows
import Derived.WalkKit
import Derived.ProofKit
import Derived.OpenShut
import Derived.ShutString
import Derived.Carry
import Derived.Deep.Slices
import Derived.Lib.SmallJoins
import Derived.Test.YtknlpeloaapaiaaTpI
import Derived.Test.YtknlpeloaapaiaaTpCp
import Derived.Test.YtknlpeloaapaiaaTpV
namespace Go.Proofs.Ytknlpeloaapaiaa
open Go.ChangeShapes Go.WideShapes Go.ChangeAt Go.RowKit Go.Deep
set_option linter.unusedVariables false

theorem ty_laid : laidOutB Try.prog = true := by kernel_rfl
theorem cells_int : Try.prog.cellsOf 3 = 1 := by kernel_rfl
theorem cells_ty : Try.prog.cellsOf 24 = 3 := by kernel_rfl
theorem cells_tys : Try.prog.cellsOf 22 = 1 := by kernel_rfl
theorem wf_range {n : Int} (h : (Lit.int .i64 n).wf = true) : R64 n := by
  unfold R64
  simp [Lit.wf, IntKind.min, IntKind.max, IntKind.signed, IntKind.bits] at h
  omega
variable {H : Type} {enc : TypeId × Value → H} {W : World}
/-- What the reading of one type gives. -/
def Opens (H : Type) (enc : TypeId × Value → H) (W : World) (m : Nat) : Prop :=
  ∀ (cs : List Value) (x : DataW H × List MemPlace), DataW.trod enc Try.prog W 0 (fun _ => true) true m 24 cs = some x → ∃ t, TAt W (fun b => b < W.heap.size) m cs t ∧ t.cnt ≤ Rows.uptoBulk x.1
theorem addr_add' (b o k : Nat) : (⟨b, o, none⟩ : Addr).add k = ⟨b, o + k, none⟩ := by
  unfold Addr.add
  by_cases h : k = 0
  · subst h; simp
  · simp [h]

theorem open_row {fuel : Nat} {cs : List Value} {x : DataW H × List MemPlace} (ih : ∀ m, m < fuel → Opens H enc W m) (h : DataW.trod enc Try.prog W 0 (fun _ => true) true fuel 22 cs = some x) :
    ∃ v l, cs = [v] ∧ TAtL W (fun b => b < W.heap.size) fuel v l ∧ Tp.cntL l ≤ Rows.uptoBulk x.1 := by
  rcases DataW.trod_slice Try.underlying22 h with ⟨rfl, rfl⟩ | ⟨a, len, cap, elems, rest, n, rfl, rfl, rfl, -, hl, hm, hlen, hel, -, -⟩
  · exact ⟨_, [], rfl, .inr ⟨rfl, _, _, rfl⟩, Nat.zero_le _⟩
  · rw [cells_ty] at hel
    have h1 : ∀ i, i < len → ∃ t : Tp, ∃ y cs', elems[i]? = some y ∧ W.cells? 0 (a.add (i * 3)) 3 = some cs' ∧ TAt W (fun b => b < W.heap.size) n cs' t ∧ t.cnt ≤ Rows.uptoBulk y.1 := by
      intro i hi
      obtain ⟨y, hy⟩ : ∃ y, elems[i]? = some y := ⟨_, List.getElem?_eq_getElem (by omega)⟩
      have := hel i hi
      rw [hy] at this
      obtain ⟨cs', hcs, htr⟩ := Option.bind_eq_some_iff.1 this
      obtain ⟨t, h1, h2⟩ := ih n (Nat.lt_succ_self _) cs' y htr
      exact ⟨t, y, cs', hy, hcs, h1, h2⟩
    have inh : Inhabited Tp := ⟨.mk 0 0 []⟩
    obtain ⟨f, hf⟩ := choose_lt (n := len) (p := fun i (t : Tp) => ∃ y cs', elems[i]? = some y ∧ W.cells? 0 (a.add (i * 3)) 3 = some cs' ∧ TAt W (fun b => b < W.heap.size) n cs' t ∧ t.cnt ≤ Rows.uptoBulk y.1) h1
    have hcnt : ∀ (k : Nat) (es : List (DataW H × List MemPlace)), es = elems.drop k → Tp.cntL (((List.range len).drop k).map f) ≤ Rows.uptoBulkAll (es.map (·.1)) := by
      intro k es
      induction es generalizing k with
      | nil =>
        intro he
        have : elems.length ≤ k := by have := congrArg List.length he; simp at this; omega
        rw [List.drop_eq_nil_of_le (by rw [List.length_range]; omega)]
        exact Nat.zero_le _
      | cons y es ihh =>
        intro he
        have hk : k < elems.length := by have := congrArg List.length he; simp at this; omega
        rw [List.drop_eq_getElem_cons hk] at he
        injection he with e1 e2
        have h2 := ihh (k + 1) e2
        obtain ⟨y', cs', g1, -, -, g2⟩ := hf k (by omega)
        rw [List.getElem?_eq_getElem hk, ← e1] at g1
        injection g1 with g1
        subst g1
        rw [List.drop_eq_getElem_cons (by rw [List.length_range]; omega), List.getElem_range, List.map_cons, Tp.cntL, List.map_cons, Rows.uptoBulkAll]
        omega
    refine ⟨_, (List.range len).map f, rfl, ?_, ?_⟩
    · rcases Nat.eq_zero_or_pos len with h0 | h0
      · subst h0
        exact .inr ⟨rfl, _, _, rfl⟩
      · obtain ⟨b, off, spot⟩ := a
        obtain ⟨_, cs0, -, hcs0, -⟩ := hf 0 h0
        obtain ⟨-, hl0, hc0⟩ := World.cells?_some hcs0
        have c0 := hc0 0 (by decide)
        rw [List.getElem?_eq_getElem (by omega)] at c0
        have hspot : spot = none := by simpa [Addr.add] using World.cell?_spot c0
        subst hspot
        have hb : b < W.heap.size := by simpa [Addr.add] using World.block_lt_of_cell? _ _ c0
        refine .inl ⟨b, off, cap, by rw [List.length_map, List.length_range], hb, by rw [List.length_map, List.length_range]; exact hl, by rw [List.length_map, List.length_range]; omega, fun i t hi => ?_⟩
        rw [List.getElem?_map] at hi
        obtain ⟨j, hj, rfl⟩ := Option.map_eq_some_iff.1 hi
        obtain ⟨hi2, hj2⟩ := List.getElem?_eq_some_iff.1 hj
        rw [List.length_range] at hi2
        rw [List.getElem_range] at hj2
        subst hj2
        obtain ⟨_, cs', -, hcs, hat, -⟩ := hf i hi2
        obtain ⟨-, hcl, hce⟩ := World.cells?_some hcs
        refine ⟨cs', fun q u hu => ?_, hat.le (Nat.le_succ _)⟩
        obtain ⟨hq1, hq2⟩ := List.getElem?_eq_some_iff.1 hu
        have := hce q (by omega)
        rw [addr_add', addr_add'] at this
        rw [hu] at this
        exact this
    · have := hcnt 0 elems rfl
      rw [List.drop_zero] at this
      rw [Rows.uptoBulk]
      omega

set_option maxRecDepth 100000 in
theorem opens_step (n : Nat) (ih : ∀ m, m < n → Opens H enc W m) : Opens H enc W n := by
  intro cs x h
  obtain ⟨xs, n', rfl, rfl, hl, hlen, hf⟩ := DataW.trod_struct Try.underlying24 h
  rw [cells_ty] at hl
  match cs, hl, xs, hlen with
  | [c0, c1, c2], _, [y0, y1, y2], _ =>
    have h0 := hf 0 _ rfl
    have h1 := hf 1 _ rfl
    have h2 := hf 2 _ rfl
    replace h0 : DataW.trod enc Try.prog W 0 (fun _ => true) true n' 3 [c0] = some y0 := by simpa [cells_int] using h0
    replace h1 : DataW.trod enc Try.prog W 0 (fun _ => true) true n' 3 [c1] = some y1 := by simpa [cells_int] using h1
    replace h2 : DataW.trod enc Try.prog W 0 (fun _ => true) true n' 22 [c2] = some y2 := by simpa [cells_tys] using h2
    obtain ⟨i0, e0, rfl, w0⟩ := DataW.trod_int Try.underlying3 h0
    obtain rfl : c0 = _ := by simpa using e0
    obtain ⟨i1, e1, rfl, w1⟩ := DataW.trod_int Try.underlying3 h1
    obtain rfl : c1 = _ := by simpa using e1
    obtain ⟨v2, l2, e2, a2, b2⟩ := open_row (fun m hm => ih m (by omega)) h2
    obtain rfl : c2 = _ := by simpa using e2
    refine ⟨.mk i0 i1 l2, ⟨_, rfl, wf_range w0, wf_range w1, a2⟩, ?_⟩
    simp only [Tp.cnt, Rows.uptoBulk, Rows.uptoBulkAll, List.map_cons, List.map_nil]
    omega
theorem opens_all (n : Nat) : Opens H enc W n := by
  induction n using Nat.strongRecOn with
  | _ n ih => exact opens_step n ih
set_option maxRecDepth 100000 in
/-- A type that came in. -/
theorem open_type {base : Nat} {v : Value} {d : DataW H} {p : List MemPlace} (hok : Value.okWide Try.prog W .any base 24 v) (h : DataW.Trod enc Try.prog W 0 (fun _ => true) true 24 v d p) : ∃ n vs t, v = .agg vs.toArray ∧ TAt W Any n vs t ∧ t.cnt ≤ Rows.uptoBulk d := by
  obtain ⟨cs, rfl, hsz⟩ := okWide_struct Try.underlying24 hok
  obtain ⟨fuel, hf⟩ := h
  obtain ⟨t, h1, h2⟩ := opens_all fuel _ _ hf
  exact ⟨fuel, cs.toList, t, by simp, h1.any, h2⟩
set_option maxRecDepth 100000 in
/-- A list of types that came in. -/
theorem open_types {base : Nat} {v : Value} {d : DataW H} {p : List MemPlace} (hok : Value.okWide Try.prog W .any base 22 v) (h : DataW.Trod enc Try.prog W 0 (fun _ => true) true 22 v d p) : ∃ n l, TAtL W Any n v l ∧ Tp.cntL l ≤ Rows.uptoBulk d := by
  obtain ⟨a0, len, cap, rfl⟩ := okWide_slice Try.underlying22 hok
  obtain ⟨fuel, hf⟩ := h
  obtain ⟨v', l, e1, h1, h2⟩ := open_row (fun m _ => opens_all m) hf
  obtain rfl : v' = _ := by simpa [Value.cells] using e1.symm
  exact ⟨fuel, l, h1.any, h2⟩
theorem bulk_map (D : Nat → DataW H) (hD : ∀ i, 1 ≤ Rows.uptoBulk (D i)) : ∀ l : List Nat, l.length ≤ Rows.uptoBulkAll (l.map D)
  | [] => Nat.zero_le _
  | x :: r => by have := bulk_map D hD r; have := hD x; rw [List.map_cons, Rows.uptoBulkAll, List.length_cons]; omega
theorem bulk_pos (d : DataW H) : 1 ≤ Rows.uptoBulk d := by
  cases d with
  | lit l => cases l <;> simp [Rows.uptoBulk]
  | _ => simp [Rows.uptoBulk]
set_option maxRecDepth 100000 in
theorem open_intl {base : Nat} {v : Value} {d : DataW H} {p : List MemPlace} (hok : Value.okWide Try.prog W .any base 32 v) (h : DataW.Trod enc Try.prog W 0 (fun _ => true) true 32 v d p) : ∃ l, Ls W Any v l ∧ (∀ x ∈ l, R64 x) ∧ l.length ≤ Rows.uptoBulk d := by
  obtain ⟨a0, len, cap, rfl⟩ := okWide_slice Try.underlying32 hok
  obtain ⟨fuel, hf⟩ := h
  have hf' : DataW.trod enc Try.prog W 0 (fun _ => true) true fuel 32 [.slice a0 len cap] = some (d, p) := by simpa [Value.cells] using hf
  rcases open_slice1 Try.underlying32 cells_int hf' with ⟨e, e2⟩ | ⟨a, len', cap', m, n, V, D, Pl, e, -, hl, hm, hmm, e2, hx⟩
  · have e : Value.slice a0 len cap = .slice none 0 0 := by simpa using e
    injection e with e1 e2 e3
    subst e1; subst e2; subst e3
    exact ⟨[], .inr ⟨rfl, _, _, rfl⟩, (fun x hx => by cases hx), Nat.zero_le _⟩
  · have e : Value.slice a0 len cap = .slice (some a) len' cap' := by simpa using e
    injection e with q1 q2 q3
    subst q1; subst q2; subst q3
    injection e2 with e2 e3
    subst e2
    have hm2 : m = cap := by simpa using hmm
    clear hmm
    have h1 : ∀ i, i < len → ∃ x : Int, W.cell? (a.add i) = some (.int .i64 x) ∧ R64 x := by
      intro i hi
      obtain ⟨g1, g2⟩ := hx i (by omega)
      obtain ⟨x, e0, -, wx⟩ := DataW.trod_int Try.underlying3 g2
      refine ⟨x, ?_, wf_range wx⟩
      rw [g1]
      simpa using e0
    obtain ⟨f, hf⟩ := choose_lt (n := len) (p := fun i (x : Int) => W.cell? (a.add i) = some (.int .i64 x) ∧ R64 x) h1
    refine ⟨(List.range len).map f, ?_, (fun x hx => by obtain ⟨i, hi, rfl⟩ := List.mem_map.1 hx; exact (hf i (List.mem_range.1 hi)).2), ?_⟩
    · rcases Nat.eq_zero_or_pos len with h0 | h0
      · subst h0
        exact .inr ⟨rfl, _, _, rfl⟩
      · obtain ⟨b, off, spot⟩ := a
        have c0 := (hf 0 h0).1
        have hspot : spot = none := by simpa [Addr.add] using World.cell?_spot c0
        subst hspot
        refine .inl ⟨b, off, cap, by rw [List.length_map, List.length_range], trivial, by rw [List.length_map, List.length_range]; exact hl, by rw [List.length_map, List.length_range]; omega, fun i x hi => ?_⟩
        rw [List.getElem?_map] at hi
        obtain ⟨j, hj, rfl⟩ := Option.map_eq_some_iff.1 hi
        obtain ⟨hi2, hj2⟩ := List.getElem?_eq_some_iff.1 hj
        rw [List.length_range] at hi2
        rw [List.getElem_range] at hj2
        subst hj2
        have := (hf i hi2).1
        rw [addr_add'] at this
        exact this
    · have := bulk_map D (fun i => bulk_pos _) (List.range len)
      rw [List.length_map, Rows.uptoBulk]
      omega
theorem cells_sch : Try.prog.cellsOf 38 = 4 := by kernel_rfl
set_option maxRecDepth 100000 in
/-- A scheme that came in. -/
theorem open_scheme {base : Nat} {v : Value} {d : DataW H} {p : List MemPlace} (hok : Value.okWide Try.prog W .any base 38 v) (h : DataW.Trod enc Try.prog W 0 (fun _ => true) true 38 v d p) : ∃ n g vs t, v = .agg (.int .i64 g :: vs).toArray ∧ R64 g ∧ TAt W Any n vs t ∧ t.cnt ≤ Rows.uptoBulk d := by
  obtain ⟨cs, rfl, hsz⟩ := okWide_struct Try.underlying38 hok
  obtain ⟨fuel, hf⟩ := h
  obtain ⟨xs, n', rfl, hx, hl, hlen, hf⟩ := DataW.trod_struct Try.underlying38 hf
  rw [cells_sch] at hl
  obtain ⟨cl⟩ := cs
  simp only [Value.cells] at hl hf
  match cl, hl, xs, hlen with
  | [c0, c1, c2, c3], _, [y0, y1], _ =>
    have h0 := hf 0 _ rfl
    have h1 := hf 1 _ rfl
    replace h0 : DataW.trod enc Try.prog W 0 (fun _ => true) true n' 3 [c0] = some y0 := by simpa [cells_int] using h0
    replace h1 : DataW.trod enc Try.prog W 0 (fun _ => true) true n' 24 [c1, c2, c3] = some y1 := by simpa [cells_ty] using h1
    obtain ⟨i0, e0, rfl, w0⟩ := DataW.trod_int Try.underlying3 h0
    obtain rfl : c0 = _ := by simpa using e0
    obtain ⟨t, g1, g2⟩ := opens_all n' _ _ h1
    refine ⟨n', i0, [c1, c2, c3], t, rfl, wf_range w0, g1.any, ?_⟩
    injection hx with hx _
    rw [hx]
    simp only [Rows.uptoBulk, Rows.uptoBulkAll, List.map_cons, List.map_nil]
    omega
end Go.Proofs.Ytknlpeloaapaiaa
