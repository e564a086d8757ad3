/- What the reading of an argument gives: nodes in memory; how many there are. -/
import Derived.Test.YtgiegjghldhppabGreatRows
import Derived.WalkKit
import Derived.ProofKit
import Derived.OpenShut
import Derived.ShutString
import Derived.SliceStrings
import Derived.Carry
import Derived.Deep.Slices
import Derived.Test.YtgiegjghldhppabGreatNdP
namespace Go.Proofs.YtgiegjghldhppabGreat
open Go.ChangeShapes Go.WideShapes Go.ChangeAt Go.RowKit Go.Deep
set_option linter.unusedVariables false

theorem nd_laid : laidOutB Tryz.prog = true := by kernel_rfl
theorem nd_cells_string : Tryz.prog.cellsOf 9 = 1 := by kernel_rfl
theorem nd_cells_strings : Tryz.prog.cellsOf 25 = 1 := by kernel_rfl
theorem nd_cells_int : Tryz.prog.cellsOf 3 = 1 := by kernel_rfl
theorem nd_cells_i64 : Tryz.prog.cellsOf 2 = 1 := by kernel_rfl
theorem nd_cells0 : Tryz.prog.cellsOf 66 = 4 := by kernel_rfl
theorem nd_cellsL0 : Tryz.prog.cellsOf 26 = 1 := by kernel_rfl
theorem nd_cells1 : Tryz.prog.cellsOf 90 = 5 := by kernel_rfl
theorem nd_cellsL1 : Tryz.prog.cellsOf 52 = 1 := by kernel_rfl
theorem nd_cells2 : Tryz.prog.cellsOf 54 = 8 := by kernel_rfl
theorem nd_cellsL2 : Tryz.prog.cellsOf 27 = 1 := by kernel_rfl
theorem nd_cells3 : Tryz.prog.cellsOf 32 = 9 := by kernel_rfl
theorem nd_cellsL3 : Tryz.prog.cellsOf 22 = 1 := by kernel_rfl
theorem nd_cells4 : Tryz.prog.cellsOf 46 = 2 := by kernel_rfl
theorem nd_cellsL4 : Tryz.prog.cellsOf 28 = 1 := by kernel_rfl
theorem nd_cells5 : Tryz.prog.cellsOf 74 = 5 := by kernel_rfl
theorem nd_cellsL5 : Tryz.prog.cellsOf 29 = 1 := by kernel_rfl
theorem nd_cells6 : Tryz.prog.cellsOf 51 = 5 := by kernel_rfl
theorem nd_cellsL6 : Tryz.prog.cellsOf 30 = 1 := by kernel_rfl
theorem nd_cells7 : Tryz.prog.cellsOf 114 = 6 := by kernel_rfl
theorem nd_cellsL7 : Tryz.prog.cellsOf 49 = 1 := by kernel_rfl
theorem Nd.addr_add (b o k : Nat) : (⟨b, o, none⟩ : Addr).add k = ⟨b, o + k, none⟩ := by
  unfold Addr.add
  by_cases h : k = 0
  · subst h; simp
  · simp [h]
def Nd.tid : Nat → TypeId
  | 0 => 66
  | 1 => 90
  | 2 => 54
  | 3 => 32
  | 4 => 46
  | 5 => 74
  | 6 => 51
  | 7 => 114
  | _ => 0
theorem wf_range {n : Int} (h : (Lit.int .i64 n).wf = true) : -9223372036854775808 ≤ n ∧ n ≤ 9223372036854775807 := by
  simp [Lit.wf, IntKind.min, IntKind.max, IntKind.signed, IntKind.bits] at h
  omega

/-- What a field weighs: the texts of a list. -/
def Sc.wt : Sc → Nat
  | .strs l => l.length
  | _ => 0
def Sc.wtL : List Sc → Nat
  | [] => 0
  | a :: r => a.wt + Sc.wtL r
mutual
/-- Nodes and texts in lists, each as often as it is met. -/
def Nd.wt : Nd → Nat
  | .mk sc ks => Sc.wtL sc + Nd.wtLL ks + 1
def Nd.wtLL : List (List Nd) → Nat
  | [] => 0
  | l :: r => Nd.wtL l + Nd.wtLL r
def Nd.wtL : List Nd → Nat
  | [] => 0
  | x :: r => Nd.wt x + Nd.wtL r
end
mutual
theorem Nd.cnt_le_wt : ∀ x : Nd, x.cnt ≤ x.wt
  | .mk sc ks => by rw [Nd.cnt, Nd.wt]; have := Nd.cntLL_le_wt ks; omega
theorem Nd.cntLL_le_wt : ∀ ks : List (List Nd), Nd.cntLL ks ≤ Nd.wtLL ks
  | [] => Nat.le_refl _
  | l :: r => by rw [Nd.cntLL, Nd.wtLL]; have := Nd.cntL_le_wt l; have := Nd.cntLL_le_wt r; omega
theorem Nd.cntL_le_wt : ∀ l : List Nd, Nd.cntL l ≤ Nd.wtL l
  | [] => Nat.le_refl _
  | x :: r => by rw [Nd.cntL, Nd.wtL]; have := Nd.cnt_le_wt x; have := Nd.cntL_le_wt r; omega
end
theorem bulk_strs {H : Type} : ∀ ss : List ByteArray, ss.length ≤ Rows.uptoBulkAll (H := H) (strs ss)
  | [] => Nat.le_refl _
  | s :: r => by
    have := bulk_strs (H := H) r
    show r.length + 1 ≤ Rows.uptoBulk (H := H) (.lit (.string _)) + Rows.uptoBulkAll (H := H) (strs r)
    rw [Rows.uptoBulk]; omega
variable {H : Type} {enc : TypeId × Value → H} {W : World}
/-- What the reading of one node gives. -/
def Opens (H : Type) (enc : TypeId × Value → H) (W : World) (m s : Nat) : Prop :=
  ∀ (cs : List Value) (x : DataW H × List MemPlace), DataW.trod enc Tryz.prog W 0 (fun _ => true) true m (Nd.tid s) cs = some x → ∃ nd, At W (Old W) m s cs nd ∧ nd.wt ≤ Rows.uptoBulk x.1

theorem open_tx {fuel : Nat} {cs : List Value} {x : DataW H × List MemPlace} (h : DataW.trod enc Tryz.prog W 0 (fun _ => true) true fuel 25 cs = some x) :
    ∃ v xs, cs = [v] ∧ Tx W (Old W) v xs ∧ (∀ y, y ∈ xs → y.size ≤ maxLen) ∧ xs.length ≤ maxLen ∧ xs.length ≤ Rows.uptoBulk x.1 := by
  rcases open_strings Tryz.underlying25 Tryz.underlying9 nd_cells_string h with ⟨rfl, -⟩ | ⟨a, len, cap, ss, rfl, _, hl, hm, hz, rfl, hcell, hw⟩
  · exact ⟨_, [], rfl, .inr ⟨rfl, _, _, rfl⟩, (fun y hy => by cases hy), Nat.zero_le _, Nat.zero_le _⟩
  · simp only [if_true] at hz
    obtain ⟨b, off, spot⟩ := a
    have hlen : (ss.take len).length = len := by rw [List.length_take]; omega
    refine ⟨_, ss.take len, rfl, ?_, fun y hy => hw y (List.mem_of_mem_take hy), by omega, by
      have := bulk_strs (H := H) (ss.take len)
      show _ ≤ Rows.uptoBulkAll (strs (ss.take len)) + _ + 1
      omega⟩
    rcases Nat.eq_zero_or_pos len with h0 | h0
    · subst h0
      exact .inr ⟨by simp, _, _, rfl⟩
    · have h00 := hcell 0 (by omega)
      have hspot : spot = none := by simpa [Addr.add] using World.cell?_spot h00
      subst hspot
      refine .inl ⟨b, off, cap, by rw [hlen], (show _ < _ by simpa [Addr.add] using World.block_lt_of_cell? _ _ h00), by omega, fun j X hX => ?_⟩
      have hj : j < len := by
        have := (List.getElem?_eq_some_iff.1 hX).1
        omega
      have hX' : ss.getD j ByteArray.empty = X := by
        rw [List.getElem?_take_of_lt hj] at hX
        simp [List.getD, hX]
      rw [← hX']
      have := hcell j (by omega)
      rwa [Nd.addr_add] at this

theorem open_row {fuel s : Nat} {t e : TypeId} {cs : List Value} {x : DataW H × List MemPlace} (ht : Tryz.prog.underlying t = some (.slice e)) (he : Nd.tid s = e) (hc : Tryz.prog.cellsOf e = Nd.size s) (hpos : 0 < Nd.size s)
    (ih : ∀ m, m < fuel → Opens H enc W m s) (h : DataW.trod enc Tryz.prog W 0 (fun _ => true) true fuel t cs = some x) :
    ∃ v l, cs = [v] ∧ AtL W (Old W) fuel s v l ∧ Nd.wtL l ≤ Rows.uptoBulk x.1 := by
  subst he
  rcases DataW.trod_slice ht h with ⟨rfl, rfl⟩ | ⟨a, len, cap, elems, rest, n, rfl, rfl, rfl, -, hl, hm, hlen, hel, -, -⟩
  · exact ⟨_, [], rfl, .inr ⟨rfl, _, _, rfl⟩, Nat.zero_le _⟩
  · rw [hc] at hel
    have h1 : ∀ i, i < len → ∃ nd : Nd, ∃ y cs', elems[i]? = some y ∧ W.cells? 0 (a.add (i * Nd.size s)) (Nd.size s) = some cs' ∧ At W (Old W) n s cs' nd ∧ nd.wt ≤ Rows.uptoBulk y.1 := by
      intro i hi
      obtain ⟨y, hy⟩ : ∃ y, elems[i]? = some y := ⟨_, List.getElem?_eq_getElem (by omega)⟩
      have := hel i hi
      rw [hy] at this
      obtain ⟨cs', hcs, htr⟩ := Option.bind_eq_some_iff.1 this
      obtain ⟨nd, h1, h2⟩ := ih n (Nat.lt_succ_self _) cs' y htr
      exact ⟨nd, y, cs', hy, hcs, h1, h2⟩
    have inh : Inhabited Nd := ⟨.mk [] []⟩
    obtain ⟨f, hf⟩ := choose_lt (n := len) (p := fun i (nd : Nd) => ∃ y cs', elems[i]? = some y ∧ W.cells? 0 (a.add (i * Nd.size s)) (Nd.size s) = some cs' ∧ At W (Old W) n s cs' nd ∧ nd.wt ≤ Rows.uptoBulk y.1) h1
    have hcnt : ∀ (k : Nat) (es : List (DataW H × List MemPlace)), es = elems.drop k → Nd.wtL (((List.range len).drop k).map f) ≤ Rows.uptoBulkAll (es.map (·.1)) := by
      intro k es
      induction es generalizing k with
      | nil =>
        intro he
        have : elems.length ≤ k := by have := congrArg List.length he; simp at this; omega
        rw [List.drop_eq_nil_of_le (by rw [List.length_range]; omega)]
        exact Nat.zero_le _
      | cons y es ihh =>
        intro he
        have hk : k < elems.length := by have := congrArg List.length he; simp at this; omega
        rw [List.drop_eq_getElem_cons hk] at he
        injection he with e1 e2
        have h2 := ihh (k + 1) e2
        obtain ⟨y', cs', g1, -, -, g2⟩ := hf k (by omega)
        rw [List.getElem?_eq_getElem hk, ← e1] at g1
        injection g1 with g1
        subst g1
        rw [List.drop_eq_getElem_cons (by rw [List.length_range]; omega), List.getElem_range, List.map_cons, Nd.wtL, List.map_cons, Rows.uptoBulkAll]
        omega
    refine ⟨_, (List.range len).map f, rfl, ?_, ?_⟩
    · rcases Nat.eq_zero_or_pos len with h0 | h0
      · subst h0
        exact .inr ⟨rfl, _, _, rfl⟩
      · obtain ⟨b, off, spot⟩ := a
        obtain ⟨_, cs0, -, hcs0, -⟩ := hf 0 h0
        obtain ⟨-, hl0, hc0⟩ := World.cells?_some hcs0
        have c0 := hc0 0 hpos
        rw [List.getElem?_eq_getElem (by omega)] at c0
        have hspot : spot = none := by simpa [Addr.add] using World.cell?_spot c0
        subst hspot
        have hb : b < W.heap.size := by simpa [Addr.add] using World.block_lt_of_cell? _ _ c0
        refine .inl ⟨b, off, cap, by rw [List.length_map, List.length_range], hb, by rw [List.length_map, List.length_range]; exact hl, by rw [List.length_map, List.length_range]; omega, fun i nd hi => ?_⟩
        rw [List.getElem?_map] at hi
        obtain ⟨j, hj, rfl⟩ := Option.map_eq_some_iff.1 hi
        obtain ⟨hi2, hj2⟩ := List.getElem?_eq_some_iff.1 hj
        rw [List.length_range] at hi2
        rw [List.getElem_range] at hj2
        subst hj2
        obtain ⟨_, cs', -, hcs, hat, -⟩ := hf i hi2
        obtain ⟨-, hcl, hce⟩ := World.cells?_some hcs
        refine ⟨cs', hcl, fun q u hu => ?_, hat.le (Nat.le_succ _)⟩
        have hq := (List.getElem?_eq_some_iff.1 hu)
        obtain ⟨hq1, hq2⟩ := hq
        have := hce q (by omega)
        rw [Nd.addr_add, Nd.addr_add] at this
        rw [hu] at this
        exact this
    · have := hcnt 0 elems rfl
      rw [List.drop_zero] at this
      rw [Rows.uptoBulk]
      omega

set_option maxRecDepth 100000 in
theorem opens0 (n : Nat) (ih : ∀ m, m < n → ∀ s, s < 8 → Opens H enc W m s) : Opens H enc W (n + 1) 0 := by
  intro cs x h
  obtain ⟨xs, n', hn, rfl, hl, hlen, hf⟩ := DataW.trod_struct Tryz.underlying66 h
  obtain rfl : n = n' := by omega
  rw [nd_cells0] at hl
  match cs, hl, xs, hlen with
  | [c0, c1, c2, c3], _, [y0, y1, y2, y3], _ =>
    have h0 := hf 0 _ rfl
    have h1 := hf 1 _ rfl
    have h2 := hf 2 _ rfl
    have h3 := hf 3 _ rfl
    replace h0 : DataW.trod enc Tryz.prog W 0 (fun _ => true) true n 3 [c0] = some y0 := by simpa [nd_cells_int] using h0
    replace h1 : DataW.trod enc Tryz.prog W 0 (fun _ => true) true n 9 [c1] = some y1 := by simpa [nd_cells_string] using h1
    replace h2 : DataW.trod enc Tryz.prog W 0 (fun _ => true) true n 25 [c2] = some y2 := by simpa [nd_cells_strings] using h2
    replace h3 : DataW.trod enc Tryz.prog W 0 (fun _ => true) true n 26 [c3] = some y3 := by simpa [nd_cellsL0] using h3
    obtain ⟨i0, e0, rfl, w0⟩ := DataW.trod_int Tryz.underlying3 h0
    obtain rfl : c0 = _ := by simpa using e0
    obtain ⟨s1, e1, rfl, w1⟩ := DataW.trod_string Tryz.underlying9 h1
    obtain rfl : c1 = _ := by simpa using e1
    obtain ⟨v2, x2, e2, a2, b2, d2, g2⟩ := open_tx h2
    obtain rfl : c2 = _ := by simpa using e2
    obtain ⟨v3, l3, e3, a3, b3⟩ := open_row (s := 0) Tryz.underlying26 rfl nd_cells0 (by decide) (fun m hm => ih m hm 0 (by decide)) h3
    obtain rfl : c3 = _ := by simpa using e3
    refine ⟨_, At.ty_mk (wf_range w0) w1 a2 b2 d2 a3, ?_⟩
    simp only [Nd.wt, Nd.wtLL, Sc.wtL, Sc.wt, Rows.uptoBulk, Rows.uptoBulkAll, List.map_cons, List.map_nil]
    omega

set_option maxRecDepth 100000 in
theorem opens1 (n : Nat) (ih : ∀ m, m < n → ∀ s, s < 8 → Opens H enc W m s) : Opens H enc W (n + 1) 1 := by
  intro cs x h
  obtain ⟨xs, n', hn, rfl, hl, hlen, hf⟩ := DataW.trod_struct Tryz.underlying90 h
  obtain rfl : n = n' := by omega
  rw [nd_cells1] at hl
  match cs, hl, xs, hlen with
  | [c0, c1, c2, c3, c4], _, [y0, y1, y2, y3, y4], _ =>
    have h0 := hf 0 _ rfl
    have h1 := hf 1 _ rfl
    have h2 := hf 2 _ rfl
    have h3 := hf 3 _ rfl
    have h4 := hf 4 _ rfl
    replace h0 : DataW.trod enc Tryz.prog W 0 (fun _ => true) true n 3 [c0] = some y0 := by simpa [nd_cells_int] using h0
    replace h1 : DataW.trod enc Tryz.prog W 0 (fun _ => true) true n 9 [c1] = some y1 := by simpa [nd_cells_string] using h1
    replace h2 : DataW.trod enc Tryz.prog W 0 (fun _ => true) true n 25 [c2] = some y2 := by simpa [nd_cells_strings] using h2
    replace h3 : DataW.trod enc Tryz.prog W 0 (fun _ => true) true n 2 [c3] = some y3 := by simpa [nd_cells_i64] using h3
    replace h4 : DataW.trod enc Tryz.prog W 0 (fun _ => true) true n 52 [c4] = some y4 := by simpa [nd_cellsL1] using h4
    obtain ⟨i0, e0, rfl, w0⟩ := DataW.trod_int Tryz.underlying3 h0
    obtain rfl : c0 = _ := by simpa using e0
    obtain ⟨s1, e1, rfl, w1⟩ := DataW.trod_string Tryz.underlying9 h1
    obtain rfl : c1 = _ := by simpa using e1
    obtain ⟨v2, x2, e2, a2, b2, d2, g2⟩ := open_tx h2
    obtain rfl : c2 = _ := by simpa using e2
    obtain ⟨i3, e3, rfl, w3⟩ := DataW.trod_int Tryz.underlying2 h3
    obtain rfl : c3 = _ := by simpa using e3
    obtain ⟨v4, l4, e4, a4, b4⟩ := open_row (s := 1) Tryz.underlying52 rfl nd_cells1 (by decide) (fun m hm => ih m hm 1 (by decide)) h4
    obtain rfl : c4 = _ := by simpa using e4
    refine ⟨_, At.pat_mk (wf_range w0) w1 a2 b2 d2 (wf_range w3) a4, ?_⟩
    simp only [Nd.wt, Nd.wtLL, Sc.wtL, Sc.wt, Rows.uptoBulk, Rows.uptoBulkAll, List.map_cons, List.map_nil]
    omega

set_option maxRecDepth 100000 in
theorem opens2 (n : Nat) (ih : ∀ m, m < n → ∀ s, s < 8 → Opens H enc W m s) : Opens H enc W (n + 1) 2 := by
  intro cs x h
  obtain ⟨xs, n', hn, rfl, hl, hlen, hf⟩ := DataW.trod_struct Tryz.underlying54 h
  obtain rfl : n = n' := by omega
  rw [nd_cells2] at hl
  match cs, hl, xs, hlen with
  | [c0, c1, c2, c3, c4, c5, c6, c7], _, [y0, y1, y2, y3, y4, y5, y6, y7], _ =>
    have h0 := hf 0 _ rfl
    have h1 := hf 1 _ rfl
    have h2 := hf 2 _ rfl
    have h3 := hf 3 _ rfl
    have h4 := hf 4 _ rfl
    have h5 := hf 5 _ rfl
    have h6 := hf 6 _ rfl
    have h7 := hf 7 _ rfl
    replace h0 : DataW.trod enc Tryz.prog W 0 (fun _ => true) true n 3 [c0] = some y0 := by simpa [nd_cells_int] using h0
    replace h1 : DataW.trod enc Tryz.prog W 0 (fun _ => true) true n 3 [c1] = some y1 := by simpa [nd_cells_int] using h1
    replace h2 : DataW.trod enc Tryz.prog W 0 (fun _ => true) true n 2 [c2] = some y2 := by simpa [nd_cells_i64] using h2
    replace h3 : DataW.trod enc Tryz.prog W 0 (fun _ => true) true n 25 [c3] = some y3 := by simpa [nd_cells_strings] using h3
    replace h4 : DataW.trod enc Tryz.prog W 0 (fun _ => true) true n 52 [c4] = some y4 := by simpa [nd_cellsL1] using h4
    replace h5 : DataW.trod enc Tryz.prog W 0 (fun _ => true) true n 27 [c5] = some y5 := by simpa [nd_cellsL2] using h5
    replace h6 : DataW.trod enc Tryz.prog W 0 (fun _ => true) true n 22 [c6] = some y6 := by simpa [nd_cellsL3] using h6
    replace h7 : DataW.trod enc Tryz.prog W 0 (fun _ => true) true n 26 [c7] = some y7 := by simpa [nd_cellsL0] using h7
    obtain ⟨i0, e0, rfl, w0⟩ := DataW.trod_int Tryz.underlying3 h0
    obtain rfl : c0 = _ := by simpa using e0
    obtain ⟨i1, e1, rfl, w1⟩ := DataW.trod_int Tryz.underlying3 h1
    obtain rfl : c1 = _ := by simpa using e1
    obtain ⟨i2, e2, rfl, w2⟩ := DataW.trod_int Tryz.underlying2 h2
    obtain rfl : c2 = _ := by simpa using e2
    obtain ⟨v3, x3, e3, a3, b3, d3, g3⟩ := open_tx h3
    obtain rfl : c3 = _ := by simpa using e3
    obtain ⟨v4, l4, e4, a4, b4⟩ := open_row (s := 1) Tryz.underlying52 rfl nd_cells1 (by decide) (fun m hm => ih m hm 1 (by decide)) h4
    obtain rfl : c4 = _ := by simpa using e4
    obtain ⟨v5, l5, e5, a5, b5⟩ := open_row (s := 2) Tryz.underlying27 rfl nd_cells2 (by decide) (fun m hm => ih m hm 2 (by decide)) h5
    obtain rfl : c5 = _ := by simpa using e5
    obtain ⟨v6, l6, e6, a6, b6⟩ := open_row (s := 3) Tryz.underlying22 rfl nd_cells3 (by decide) (fun m hm => ih m hm 3 (by decide)) h6
    obtain rfl : c6 = _ := by simpa using e6
    obtain ⟨v7, l7, e7, a7, b7⟩ := open_row (s := 0) Tryz.underlying26 rfl nd_cells0 (by decide) (fun m hm => ih m hm 0 (by decide)) h7
    obtain rfl : c7 = _ := by simpa using e7
    refine ⟨_, At.exp_mk (wf_range w0) (wf_range w1) (wf_range w2) a3 b3 d3 a4 a5 a6 a7, ?_⟩
    simp only [Nd.wt, Nd.wtLL, Sc.wtL, Sc.wt, Rows.uptoBulk, Rows.uptoBulkAll, List.map_cons, List.map_nil]
    omega

set_option maxRecDepth 100000 in
theorem opens3 (n : Nat) (ih : ∀ m, m < n → ∀ s, s < 8 → Opens H enc W m s) : Opens H enc W (n + 1) 3 := by
  intro cs x h
  obtain ⟨xs, n', hn, rfl, hl, hlen, hf⟩ := DataW.trod_struct Tryz.underlying32 h
  obtain rfl : n = n' := by omega
  rw [nd_cells3] at hl
  match cs, hl, xs, hlen with
  | [c0, c1, c2, c3, c4, c5, c6, c7, c8], _, [y0, y1, y2, y3, y4, y5, y6, y7, y8], _ =>
    have h0 := hf 0 _ rfl
    have h1 := hf 1 _ rfl
    have h2 := hf 2 _ rfl
    have h3 := hf 3 _ rfl
    have h4 := hf 4 _ rfl
    have h5 := hf 5 _ rfl
    have h6 := hf 6 _ rfl
    have h7 := hf 7 _ rfl
    have h8 := hf 8 _ rfl
    replace h0 : DataW.trod enc Tryz.prog W 0 (fun _ => true) true n 3 [c0] = some y0 := by simpa [nd_cells_int] using h0
    replace h1 : DataW.trod enc Tryz.prog W 0 (fun _ => true) true n 3 [c1] = some y1 := by simpa [nd_cells_int] using h1
    replace h2 : DataW.trod enc Tryz.prog W 0 (fun _ => true) true n 9 [c2] = some y2 := by simpa [nd_cells_string] using h2
    replace h3 : DataW.trod enc Tryz.prog W 0 (fun _ => true) true n 25 [c3] = some y3 := by simpa [nd_cells_strings] using h3
    replace h4 : DataW.trod enc Tryz.prog W 0 (fun _ => true) true n 26 [c4] = some y4 := by simpa [nd_cellsL0] using h4
    replace h5 : DataW.trod enc Tryz.prog W 0 (fun _ => true) true n 27 [c5] = some y5 := by simpa [nd_cellsL2] using h5
    replace h6 : DataW.trod enc Tryz.prog W 0 (fun _ => true) true n 28 [c6] = some y6 := by simpa [nd_cellsL4] using h6
    replace h7 : DataW.trod enc Tryz.prog W 0 (fun _ => true) true n 29 [c7] = some y7 := by simpa [nd_cellsL5] using h7
    replace h8 : DataW.trod enc Tryz.prog W 0 (fun _ => true) true n 30 [c8] = some y8 := by simpa [nd_cellsL6] using h8
    obtain ⟨i0, e0, rfl, w0⟩ := DataW.trod_int Tryz.underlying3 h0
    obtain rfl : c0 = _ := by simpa using e0
    obtain ⟨i1, e1, rfl, w1⟩ := DataW.trod_int Tryz.underlying3 h1
    obtain rfl : c1 = _ := by simpa using e1
    obtain ⟨s2, e2, rfl, w2⟩ := DataW.trod_string Tryz.underlying9 h2
    obtain rfl : c2 = _ := by simpa using e2
    obtain ⟨v3, x3, e3, a3, b3, d3, g3⟩ := open_tx h3
    obtain rfl : c3 = _ := by simpa using e3
    obtain ⟨v4, l4, e4, a4, b4⟩ := open_row (s := 0) Tryz.underlying26 rfl nd_cells0 (by decide) (fun m hm => ih m hm 0 (by decide)) h4
    obtain rfl : c4 = _ := by simpa using e4
    obtain ⟨v5, l5, e5, a5, b5⟩ := open_row (s := 2) Tryz.underlying27 rfl nd_cells2 (by decide) (fun m hm => ih m hm 2 (by decide)) h5
    obtain rfl : c5 = _ := by simpa using e5
    obtain ⟨v6, l6, e6, a6, b6⟩ := open_row (s := 4) Tryz.underlying28 rfl nd_cells4 (by decide) (fun m hm => ih m hm 4 (by decide)) h6
    obtain rfl : c6 = _ := by simpa using e6
    obtain ⟨v7, l7, e7, a7, b7⟩ := open_row (s := 5) Tryz.underlying29 rfl nd_cells5 (by decide) (fun m hm => ih m hm 5 (by decide)) h7
    obtain rfl : c7 = _ := by simpa using e7
    obtain ⟨v8, l8, e8, a8, b8⟩ := open_row (s := 6) Tryz.underlying30 rfl nd_cells6 (by decide) (fun m hm => ih m hm 6 (by decide)) h8
    obtain rfl : c8 = _ := by simpa using e8
    refine ⟨_, At.dec_mk (wf_range w0) (wf_range w1) w2 a3 b3 d3 a4 a5 a6 a7 a8, ?_⟩
    simp only [Nd.wt, Nd.wtLL, Sc.wtL, Sc.wt, Rows.uptoBulk, Rows.uptoBulkAll, List.map_cons, List.map_nil]
    omega

set_option maxRecDepth 100000 in
theorem opens4 (n : Nat) (ih : ∀ m, m < n → ∀ s, s < 8 → Opens H enc W m s) : Opens H enc W (n + 1) 4 := by
  intro cs x h
  obtain ⟨xs, n', hn, rfl, hl, hlen, hf⟩ := DataW.trod_struct Tryz.underlying46 h
  obtain rfl : n = n' := by omega
  rw [nd_cells4] at hl
  match cs, hl, xs, hlen with
  | [c0, c1], _, [y0, y1], _ =>
    have h0 := hf 0 _ rfl
    have h1 := hf 1 _ rfl
    replace h0 : DataW.trod enc Tryz.prog W 0 (fun _ => true) true n 9 [c0] = some y0 := by simpa [nd_cells_string] using h0
    replace h1 : DataW.trod enc Tryz.prog W 0 (fun _ => true) true n 26 [c1] = some y1 := by simpa [nd_cellsL0] using h1
    obtain ⟨s0, e0, rfl, w0⟩ := DataW.trod_string Tryz.underlying9 h0
    obtain rfl : c0 = _ := by simpa using e0
    obtain ⟨v1, l1, e1, a1, b1⟩ := open_row (s := 0) Tryz.underlying26 rfl nd_cells0 (by decide) (fun m hm => ih m hm 0 (by decide)) h1
    obtain rfl : c1 = _ := by simpa using e1
    refine ⟨_, At.con_mk w0 a1, ?_⟩
    simp only [Nd.wt, Nd.wtLL, Sc.wtL, Sc.wt, Rows.uptoBulk, Rows.uptoBulkAll, List.map_cons, List.map_nil]
    omega

set_option maxRecDepth 100000 in
theorem opens5 (n : Nat) (ih : ∀ m, m < n → ∀ s, s < 8 → Opens H enc W m s) : Opens H enc W (n + 1) 5 := by
  intro cs x h
  obtain ⟨xs, n', hn, rfl, hl, hlen, hf⟩ := DataW.trod_struct Tryz.underlying74 h
  obtain rfl : n = n' := by omega
  rw [nd_cells5] at hl
  match cs, hl, xs, hlen with
  | [c0, c1, c2, c3, c4], _, [y0, y1, y2, y3, y4], _ =>
    have h0 := hf 0 _ rfl
    have h1 := hf 1 _ rfl
    have h2 := hf 2 _ rfl
    have h3 := hf 3 _ rfl
    have h4 := hf 4 _ rfl
    replace h0 : DataW.trod enc Tryz.prog W 0 (fun _ => true) true n 3 [c0] = some y0 := by simpa [nd_cells_int] using h0
    replace h1 : DataW.trod enc Tryz.prog W 0 (fun _ => true) true n 25 [c1] = some y1 := by simpa [nd_cells_strings] using h1
    replace h2 : DataW.trod enc Tryz.prog W 0 (fun _ => true) true n 22 [c2] = some y2 := by simpa [nd_cellsL3] using h2
    replace h3 : DataW.trod enc Tryz.prog W 0 (fun _ => true) true n 29 [c3] = some y3 := by simpa [nd_cellsL5] using h3
    replace h4 : DataW.trod enc Tryz.prog W 0 (fun _ => true) true n 30 [c4] = some y4 := by simpa [nd_cellsL6] using h4
    obtain ⟨i0, e0, rfl, w0⟩ := DataW.trod_int Tryz.underlying3 h0
    obtain rfl : c0 = _ := by simpa using e0
    obtain ⟨v1, x1, e1, a1, b1, d1, g1⟩ := open_tx h1
    obtain rfl : c1 = _ := by simpa using e1
    obtain ⟨v2, l2, e2, a2, b2⟩ := open_row (s := 3) Tryz.underlying22 rfl nd_cells3 (by decide) (fun m hm => ih m hm 3 (by decide)) h2
    obtain rfl : c2 = _ := by simpa using e2
    obtain ⟨v3, l3, e3, a3, b3⟩ := open_row (s := 5) Tryz.underlying29 rfl nd_cells5 (by decide) (fun m hm => ih m hm 5 (by decide)) h3
    obtain rfl : c3 = _ := by simpa using e3
    obtain ⟨v4, l4, e4, a4, b4⟩ := open_row (s := 6) Tryz.underlying30 rfl nd_cells6 (by decide) (fun m hm => ih m hm 6 (by decide)) h4
    obtain rfl : c4 = _ := by simpa using e4
    refine ⟨_, At.mod_mk (wf_range w0) a1 b1 d1 a2 a3 a4, ?_⟩
    simp only [Nd.wt, Nd.wtLL, Sc.wtL, Sc.wt, Rows.uptoBulk, Rows.uptoBulkAll, List.map_cons, List.map_nil]
    omega

set_option maxRecDepth 100000 in
theorem opens6 (n : Nat) (ih : ∀ m, m < n → ∀ s, s < 8 → Opens H enc W m s) : Opens H enc W (n + 1) 6 := by
  intro cs x h
  obtain ⟨xs, n', hn, rfl, hl, hlen, hf⟩ := DataW.trod_struct Tryz.underlying51 h
  obtain rfl : n = n' := by omega
  rw [nd_cells6] at hl
  match cs, hl, xs, hlen with
  | [c0, c1, c2, c3, c4], _, [y0, y1, y2, y3, y4], _ =>
    have h0 := hf 0 _ rfl
    have h1 := hf 1 _ rfl
    have h2 := hf 2 _ rfl
    have h3 := hf 3 _ rfl
    have h4 := hf 4 _ rfl
    replace h0 : DataW.trod enc Tryz.prog W 0 (fun _ => true) true n 3 [c0] = some y0 := by simpa [nd_cells_int] using h0
    replace h1 : DataW.trod enc Tryz.prog W 0 (fun _ => true) true n 25 [c1] = some y1 := by simpa [nd_cells_strings] using h1
    replace h2 : DataW.trod enc Tryz.prog W 0 (fun _ => true) true n 49 [c2] = some y2 := by simpa [nd_cellsL7] using h2
    replace h3 : DataW.trod enc Tryz.prog W 0 (fun _ => true) true n 30 [c3] = some y3 := by simpa [nd_cellsL6] using h3
    replace h4 : DataW.trod enc Tryz.prog W 0 (fun _ => true) true n 26 [c4] = some y4 := by simpa [nd_cellsL0] using h4
    obtain ⟨i0, e0, rfl, w0⟩ := DataW.trod_int Tryz.underlying3 h0
    obtain rfl : c0 = _ := by simpa using e0
    obtain ⟨v1, x1, e1, a1, b1, d1, g1⟩ := open_tx h1
    obtain rfl : c1 = _ := by simpa using e1
    obtain ⟨v2, l2, e2, a2, b2⟩ := open_row (s := 7) Tryz.underlying49 rfl nd_cells7 (by decide) (fun m hm => ih m hm 7 (by decide)) h2
    obtain rfl : c2 = _ := by simpa using e2
    obtain ⟨v3, l3, e3, a3, b3⟩ := open_row (s := 6) Tryz.underlying30 rfl nd_cells6 (by decide) (fun m hm => ih m hm 6 (by decide)) h3
    obtain rfl : c3 = _ := by simpa using e3
    obtain ⟨v4, l4, e4, a4, b4⟩ := open_row (s := 0) Tryz.underlying26 rfl nd_cells0 (by decide) (fun m hm => ih m hm 0 (by decide)) h4
    obtain rfl : c4 = _ := by simpa using e4
    refine ⟨_, At.sig_mk (wf_range w0) a1 b1 d1 a2 a3 a4, ?_⟩
    simp only [Nd.wt, Nd.wtLL, Sc.wtL, Sc.wt, Rows.uptoBulk, Rows.uptoBulkAll, List.map_cons, List.map_nil]
    omega

set_option maxRecDepth 100000 in
theorem opens7 (n : Nat) (ih : ∀ m, m < n → ∀ s, s < 8 → Opens H enc W m s) : Opens H enc W (n + 1) 7 := by
  intro cs x h
  obtain ⟨xs, n', hn, rfl, hl, hlen, hf⟩ := DataW.trod_struct Tryz.underlying114 h
  obtain rfl : n = n' := by omega
  rw [nd_cells7] at hl
  match cs, hl, xs, hlen with
  | [c0, c1, c2, c3, c4, c5], _, [y0, y1, y2, y3, y4, y5], _ =>
    have h0 := hf 0 _ rfl
    have h1 := hf 1 _ rfl
    have h2 := hf 2 _ rfl
    have h3 := hf 3 _ rfl
    have h4 := hf 4 _ rfl
    have h5 := hf 5 _ rfl
    replace h0 : DataW.trod enc Tryz.prog W 0 (fun _ => true) true n 3 [c0] = some y0 := by simpa [nd_cells_int] using h0
    replace h1 : DataW.trod enc Tryz.prog W 0 (fun _ => true) true n 3 [c1] = some y1 := by simpa [nd_cells_int] using h1
    replace h2 : DataW.trod enc Tryz.prog W 0 (fun _ => true) true n 9 [c2] = some y2 := by simpa [nd_cells_string] using h2
    replace h3 : DataW.trod enc Tryz.prog W 0 (fun _ => true) true n 26 [c3] = some y3 := by simpa [nd_cellsL0] using h3
    replace h4 : DataW.trod enc Tryz.prog W 0 (fun _ => true) true n 28 [c4] = some y4 := by simpa [nd_cellsL4] using h4
    replace h5 : DataW.trod enc Tryz.prog W 0 (fun _ => true) true n 30 [c5] = some y5 := by simpa [nd_cellsL6] using h5
    obtain ⟨i0, e0, rfl, w0⟩ := DataW.trod_int Tryz.underlying3 h0
    obtain rfl : c0 = _ := by simpa using e0
    obtain ⟨i1, e1, rfl, w1⟩ := DataW.trod_int Tryz.underlying3 h1
    obtain rfl : c1 = _ := by simpa using e1
    obtain ⟨s2, e2, rfl, w2⟩ := DataW.trod_string Tryz.underlying9 h2
    obtain rfl : c2 = _ := by simpa using e2
    obtain ⟨v3, l3, e3, a3, b3⟩ := open_row (s := 0) Tryz.underlying26 rfl nd_cells0 (by decide) (fun m hm => ih m hm 0 (by decide)) h3
    obtain rfl : c3 = _ := by simpa using e3
    obtain ⟨v4, l4, e4, a4, b4⟩ := open_row (s := 4) Tryz.underlying28 rfl nd_cells4 (by decide) (fun m hm => ih m hm 4 (by decide)) h4
    obtain rfl : c4 = _ := by simpa using e4
    obtain ⟨v5, l5, e5, a5, b5⟩ := open_row (s := 6) Tryz.underlying30 rfl nd_cells6 (by decide) (fun m hm => ih m hm 6 (by decide)) h5
    obtain rfl : c5 = _ := by simpa using e5
    refine ⟨_, At.spec_mk (wf_range w0) (wf_range w1) w2 a3 a4 a5, ?_⟩
    simp only [Nd.wt, Nd.wtLL, Sc.wtL, Sc.wt, Rows.uptoBulk, Rows.uptoBulkAll, List.map_cons, List.map_nil]
    omega

theorem opens_all (n : Nat) : ∀ s, s < 8 → Opens H enc W n s := by
  induction n using Nat.strongRecOn with
  | ind n ih =>
    intro s hs
    cases n with
    | zero => intro cs x h; simp [DataW.trod] at h
    | succ n =>
      have ih' : ∀ m, m < n → ∀ s, s < 8 → Opens H enc W m s := fun m hm => ih m (Nat.lt_succ_of_lt hm)
      match s, hs with
      | 0, _ => exact opens0 n ih'
      | 1, _ => exact opens1 n ih'
      | 2, _ => exact opens2 n ih'
      | 3, _ => exact opens3 n ih'
      | 4, _ => exact opens4 n ih'
      | 5, _ => exact opens5 n ih'
      | 6, _ => exact opens6 n ih'
      | 7, _ => exact opens7 n ih'
set_option maxRecDepth 100000 in
/-- A node that came in by value. -/
theorem open_node {base s : Nat} {t : TypeId} {v : Value} {d : DataW H} {p : List MemPlace} {fs : Array Field} (hs : s < 8) (ht : Nd.tid s = t) (hu : Tryz.prog.underlying t = some (.struct fs)) (hok : Value.okWide Tryz.prog W .any base t v)
    (h : DataW.Trod enc Tryz.prog W 0 (fun _ => true) true t v d p) : ∃ n vs nd, v = .agg vs.toArray ∧ At W (Old W) n s vs nd ∧ nd.cnt ≤ Rows.uptoBulk d := by
  subst ht
  obtain ⟨cs, rfl, hsz⟩ := okWide_struct hu hok
  obtain ⟨fuel, hf⟩ := h
  obtain ⟨nd, h1, h2⟩ := opens_all fuel s hs _ _ hf
  exact ⟨fuel, cs.toList, nd, by simp, h1, Nat.le_trans (Nd.cnt_le_wt _) h2⟩
set_option maxRecDepth 100000 in
/-- A list of nodes that came in. -/
theorem open_nodes {base s : Nat} {t e : TypeId} {v : Value} {d : DataW H} {p : List MemPlace} (hs : s < 8) (he : Nd.tid s = e) (hu : Tryz.prog.underlying t = some (.slice e)) (hc : Tryz.prog.cellsOf e = Nd.size s) (hpos : 0 < Nd.size s) (hok : Value.okWide Tryz.prog W .any base t v)
    (h : DataW.Trod enc Tryz.prog W 0 (fun _ => true) true t v d p) : ∃ n l, AtL W (Old W) n s v l ∧ Nd.cntL l ≤ Rows.uptoBulk d := by
  obtain ⟨a0, len, cap, rfl⟩ := okWide_slice hu hok
  obtain ⟨fuel, hf⟩ := h
  obtain ⟨v', l, e1, h1, h2⟩ := open_row hu he hc hpos (fun m _ => opens_all m s hs) hf
  obtain rfl : v' = _ := by simpa [Value.cells] using e1.symm
  exact ⟨fuel, l, h1, Nat.le_trans (Nd.cntL_le_wt _) h2⟩
set_option maxRecDepth 100000 in
/-- A list of nodes that came in, and what it weighs. -/
theorem open_nodes_wt {base s : Nat} {t e : TypeId} {v : Value} {d : DataW H} {p : List MemPlace} (hs : s < 8) (he : Nd.tid s = e) (hu : Tryz.prog.underlying t = some (.slice e)) (hc : Tryz.prog.cellsOf e = Nd.size s) (hpos : 0 < Nd.size s) (hok : Value.okWide Tryz.prog W .any base t v)
    (h : DataW.Trod enc Tryz.prog W 0 (fun _ => true) true t v d p) : ∃ n l, AtL W (Old W) n s v l ∧ Nd.wtL l ≤ Rows.uptoBulk d := by
  obtain ⟨a0, len, cap, rfl⟩ := okWide_slice hu hok
  obtain ⟨fuel, hf⟩ := h
  obtain ⟨v', l, e1, h1, h2⟩ := open_row hu he hc hpos (fun m _ => opens_all m s hs) hf
  obtain rfl : v' = _ := by simpa [Value.cells] using e1.symm
  exact ⟨fuel, l, h1, h2⟩
theorem At.any {W : World} {K : Nat → Prop} {n s : Nat} {vs : List Value} {nd : Nd} (h : At W K n s vs nd) : At W (fun _ => True) n s vs nd := At.move (Keeps.refl _ _) (fun _ _ => trivial) _ _ _ _ h
theorem AtL.any {W : World} {K : Nat → Prop} {n s : Nat} {v : Value} {l : List Nd} (h : AtL W K n s v l) : AtL W (fun _ => True) n s v l := h.move (Keeps.refl _ _) (fun _ _ => trivial)
end Go.Proofs.YtgiegjghldhppabGreat
