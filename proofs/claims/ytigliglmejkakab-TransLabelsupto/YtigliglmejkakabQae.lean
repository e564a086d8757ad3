/- What the reading of an argument gives: types, schemes, lists in memory. Plain mathematics of the order of texts. DERIVED: THE SHELF's CONTRACTS AT THIS DUMP, IN PLAIN WORDS (tools/lay-plain.mjs out of 'TryCutShelfSet.lean', which tools/lay-shelf.mjs wrote): THE SAME DECLARATIONS UNDER THE SAME NAMES: 'import', 'namespace', 'open', 'def', 'theorem' AND NOTHING ELSE: no command of the shelf's: FOR A HAND-IN. Each laying: the table of numbers ('.._ren') and one theorem, a field a fact of the dump's own or the kernel's comparison; each contract: ONE APPLICATION. Target types as plain data. -/
import Derived.Test.YtigliglmejkakabRows
import Derived.WalkKit
import Derived.ProofKit
import Derived.OpenShut
import Derived.ShutString
import Derived.Carry
import Derived.Deep.Slices
import Derived.Lib.SmallJoins
import Derived.Lib.Bytealg
import Derived.Below
import Derived.Shelf.Slices.CompactS
import Derived.Ground.SlsfProg
import Derived.Shelf.SlSortCmp.NoneTotal
import Derived.Shelf.Small.Strs
import Derived.Shelf.Small.Wraps
import Derived.Test.YtigliglmejkakabProg
import Derived.Test.YtigliglmejkakabQac
import Derived.Test.YtigliglmejkakabQad
namespace Go.Proofs.Ytigliglmejkakab
open Go.ChangeShapes Go.WideShapes Go.ChangeAt Go.RowKit Go.Deep
set_option linter.unusedVariables false

theorem ty_laid : laidOutB Try.prog = true := by kernel_rfl
theorem cells_int : Try.prog.cellsOf 3 = 1 := by kernel_rfl
theorem cells_ty : Try.prog.cellsOf 39 = 3 := by kernel_rfl
theorem cells_tys : Try.prog.cellsOf 37 = 1 := by kernel_rfl
theorem wf_range {n : Int} (h : (Lit.int .i64 n).wf = true) : R64 n := by
  unfold R64
  simp [Lit.wf, IntKind.min, IntKind.max, IntKind.signed, IntKind.bits] at h
  omega
variable {H : Type} {enc : TypeId × Value → H} {W : World}
/-- What the reading of one type gives. -/
def Opens (H : Type) (enc : TypeId × Value → H) (W : World) (m : Nat) : Prop :=
  ∀ (cs : List Value) (x : DataW H × List MemPlace), DataW.trod enc Try.prog W 0 (fun _ => true) true m 39 cs = some x → ∃ t, TAt W (fun b => b < W.heap.size) m cs t ∧ t.cnt ≤ Rows.uptoBulk x.1
theorem addr_add' (b o k : Nat) : (⟨b, o, none⟩ : Addr).add k = ⟨b, o + k, none⟩ := by
  unfold Addr.add
  by_cases h : k = 0
  · subst h; simp
  · simp [h]

theorem open_row {fuel : Nat} {cs : List Value} {x : DataW H × List MemPlace} (ih : ∀ m, m < fuel → Opens H enc W m) (h : DataW.trod enc Try.prog W 0 (fun _ => true) true fuel 37 cs = some x) :
    ∃ v l, cs = [v] ∧ TAtL W (fun b => b < W.heap.size) fuel v l ∧ Tp.cntL l ≤ Rows.uptoBulk x.1 := by
  rcases DataW.trod_slice Try.underlying37 h with ⟨rfl, rfl⟩ | ⟨a, len, cap, elems, rest, n, rfl, rfl, rfl, -, hl, hm, hlen, hel, -, -⟩
  · exact ⟨_, [], rfl, .inr ⟨rfl, _, _, rfl⟩, Nat.zero_le _⟩
  · rw [cells_ty] at hel
    have h1 : ∀ i, i < len → ∃ t : Tp, ∃ y cs', elems[i]? = some y ∧ W.cells? 0 (a.add (i * 3)) 3 = some cs' ∧ TAt W (fun b => b < W.heap.size) n cs' t ∧ t.cnt ≤ Rows.uptoBulk y.1 := by
      intro i hi
      obtain ⟨y, hy⟩ : ∃ y, elems[i]? = some y := ⟨_, List.getElem?_eq_getElem (by omega)⟩
      have := hel i hi
      rw [hy] at this
      obtain ⟨cs', hcs, htr⟩ := Option.bind_eq_some_iff.1 this
      obtain ⟨t, h1, h2⟩ := ih n (Nat.lt_succ_self _) cs' y htr
      exact ⟨t, y, cs', hy, hcs, h1, h2⟩
    have inh : Inhabited Tp := ⟨.mk 0 0 []⟩
    obtain ⟨f, hf⟩ := choose_lt (n := len) (p := fun i (t : Tp) => ∃ y cs', elems[i]? = some y ∧ W.cells? 0 (a.add (i * 3)) 3 = some cs' ∧ TAt W (fun b => b < W.heap.size) n cs' t ∧ t.cnt ≤ Rows.uptoBulk y.1) h1
    have hcnt : ∀ (k : Nat) (es : List (DataW H × List MemPlace)), es = elems.drop k → Tp.cntL (((List.range len).drop k).map f) ≤ Rows.uptoBulkAll (es.map (·.1)) := by
      intro k es
      induction es generalizing k with
      | nil =>
        intro he
        have : elems.length ≤ k := by have := congrArg List.length he; simp at this; omega
        rw [List.drop_eq_nil_of_le (by rw [List.length_range]; omega)]
        exact Nat.zero_le _
      | cons y es ihh =>
        intro he
        have hk : k < elems.length := by have := congrArg List.length he; simp at this; omega
        rw [List.drop_eq_getElem_cons hk] at he
        injection he with e1 e2
        have h2 := ihh (k + 1) e2
        obtain ⟨y', cs', g1, -, -, g2⟩ := hf k (by omega)
        rw [List.getElem?_eq_getElem hk, ← e1] at g1
        injection g1 with g1
        subst g1
        rw [List.drop_eq_getElem_cons (by rw [List.length_range]; omega), List.getElem_range, List.map_cons, Tp.cntL, List.map_cons, Rows.uptoBulkAll]
        omega
    refine ⟨_, (List.range len).map f, rfl, ?_, ?_⟩
    · rcases Nat.eq_zero_or_pos len with h0 | h0
      · subst h0
        exact .inr ⟨rfl, _, _, rfl⟩
      · obtain ⟨b, off, spot⟩ := a
        obtain ⟨_, cs0, -, hcs0, -⟩ := hf 0 h0
        obtain ⟨-, hl0, hc0⟩ := World.cells?_some hcs0
        have c0 := hc0 0 (by decide)
        rw [List.getElem?_eq_getElem (by omega)] at c0
        have hspot : spot = none := by simpa [Addr.add] using World.cell?_spot c0
        subst hspot
        have hb : b < W.heap.size := by simpa [Addr.add] using World.block_lt_of_cell? _ _ c0
        refine .inl ⟨b, off, cap, by rw [List.length_map, List.length_range], hb, by rw [List.length_map, List.length_range]; exact hl, by rw [List.length_map, List.length_range]; omega, fun i t hi => ?_⟩
        rw [List.getElem?_map] at hi
        obtain ⟨j, hj, rfl⟩ := Option.map_eq_some_iff.1 hi
        obtain ⟨hi2, hj2⟩ := List.getElem?_eq_some_iff.1 hj
        rw [List.length_range] at hi2
        rw [List.getElem_range] at hj2
        subst hj2
        obtain ⟨_, cs', -, hcs, hat, -⟩ := hf i hi2
        obtain ⟨-, hcl, hce⟩ := World.cells?_some hcs
        refine ⟨cs', fun q u hu => ?_, hat.le (Nat.le_succ _)⟩
        obtain ⟨hq1, hq2⟩ := List.getElem?_eq_some_iff.1 hu
        have := hce q (by omega)
        rw [addr_add', addr_add'] at this
        rw [hu] at this
        exact this
    · have := hcnt 0 elems rfl
      rw [List.drop_zero] at this
      rw [Rows.uptoBulk]
      omega

set_option maxRecDepth 100000 in
theorem opens_step (n : Nat) (ih : ∀ m, m < n → Opens H enc W m) : Opens H enc W n := by
  intro cs x h
  obtain ⟨xs, n', rfl, rfl, hl, hlen, hf⟩ := DataW.trod_struct Try.underlying39 h
  rw [cells_ty] at hl
  match cs, hl, xs, hlen with
  | [c0, c1, c2], _, [y0, y1, y2], _ =>
    have h0 := hf 0 _ rfl
    have h1 := hf 1 _ rfl
    have h2 := hf 2 _ rfl
    replace h0 : DataW.trod enc Try.prog W 0 (fun _ => true) true n' 3 [c0] = some y0 := by simpa [cells_int] using h0
    replace h1 : DataW.trod enc Try.prog W 0 (fun _ => true) true n' 3 [c1] = some y1 := by simpa [cells_int] using h1
    replace h2 : DataW.trod enc Try.prog W 0 (fun _ => true) true n' 37 [c2] = some y2 := by simpa [cells_tys] using h2
    obtain ⟨i0, e0, rfl, w0⟩ := DataW.trod_int Try.underlying3 h0
    obtain rfl : c0 = _ := by simpa using e0
    obtain ⟨i1, e1, rfl, w1⟩ := DataW.trod_int Try.underlying3 h1
    obtain rfl : c1 = _ := by simpa using e1
    obtain ⟨v2, l2, e2, a2, b2⟩ := open_row (fun m hm => ih m (by omega)) h2
    obtain rfl : c2 = _ := by simpa using e2
    refine ⟨.mk i0 i1 l2, ⟨_, rfl, wf_range w0, wf_range w1, a2⟩, ?_⟩
    simp only [Tp.cnt, Rows.uptoBulk, Rows.uptoBulkAll, List.map_cons, List.map_nil]
    omega
theorem opens_all (n : Nat) : Opens H enc W n := by
  induction n using Nat.strongRecOn with
  | _ n ih => exact opens_step n ih
set_option maxRecDepth 100000 in
/-- A type that came in. -/
theorem open_type {base : Nat} {v : Value} {d : DataW H} {p : List MemPlace} (hok : Value.okWide Try.prog W .any base 39 v) (h : DataW.Trod enc Try.prog W 0 (fun _ => true) true 39 v d p) : ∃ n vs t, v = .agg vs.toArray ∧ TAt W Any n vs t ∧ t.cnt ≤ Rows.uptoBulk d := by
  obtain ⟨cs, rfl, hsz⟩ := okWide_struct Try.underlying39 hok
  obtain ⟨fuel, hf⟩ := h
  obtain ⟨t, h1, h2⟩ := opens_all fuel _ _ hf
  exact ⟨fuel, cs.toList, t, by simp, h1.any, h2⟩
set_option maxRecDepth 100000 in
/-- A list of types that came in. -/
theorem open_types {base : Nat} {v : Value} {d : DataW H} {p : List MemPlace} (hok : Value.okWide Try.prog W .any base 37 v) (h : DataW.Trod enc Try.prog W 0 (fun _ => true) true 37 v d p) : ∃ n l, TAtL W Any n v l ∧ Tp.cntL l ≤ Rows.uptoBulk d := by
  obtain ⟨a0, len, cap, rfl⟩ := okWide_slice Try.underlying37 hok
  obtain ⟨fuel, hf⟩ := h
  obtain ⟨v', l, e1, h1, h2⟩ := open_row (fun m _ => opens_all m) hf
  obtain rfl : v' = _ := by simpa [Value.cells] using e1.symm
  exact ⟨fuel, l, h1.any, h2⟩
theorem bulk_map (D : Nat → DataW H) (hD : ∀ i, 1 ≤ Rows.uptoBulk (D i)) : ∀ l : List Nat, l.length ≤ Rows.uptoBulkAll (l.map D)
  | [] => Nat.zero_le _
  | x :: r => by have := bulk_map D hD r; have := hD x; rw [List.map_cons, Rows.uptoBulkAll, List.length_cons]; omega
theorem bulk_pos (d : DataW H) : 1 ≤ Rows.uptoBulk d := by
  cases d with
  | lit l => cases l <;> simp [Rows.uptoBulk]
  | _ => simp [Rows.uptoBulk]
set_option maxRecDepth 100000 in
theorem open_intl {base : Nat} {v : Value} {d : DataW H} {p : List MemPlace} (hok : Value.okWide Try.prog W .any base 76 v) (h : DataW.Trod enc Try.prog W 0 (fun _ => true) true 76 v d p) : ∃ l, Ls W Any v l ∧ (∀ x ∈ l, R64 x) ∧ l.length ≤ Rows.uptoBulk d := by
  obtain ⟨a0, len, cap, rfl⟩ := okWide_slice Try.underlying76 hok
  obtain ⟨fuel, hf⟩ := h
  have hf' : DataW.trod enc Try.prog W 0 (fun _ => true) true fuel 76 [.slice a0 len cap] = some (d, p) := by simpa [Value.cells] using hf
  rcases open_slice1 Try.underlying76 cells_int hf' with ⟨e, e2⟩ | ⟨a, len', cap', m, n, V, D, Pl, e, -, hl, hm, hmm, e2, hx⟩
  · have e : Value.slice a0 len cap = .slice none 0 0 := by simpa using e
    injection e with e1 e2 e3
    subst e1; subst e2; subst e3
    exact ⟨[], .inr ⟨rfl, _, _, rfl⟩, (fun x hx => by cases hx), Nat.zero_le _⟩
  · have e : Value.slice a0 len cap = .slice (some a) len' cap' := by simpa using e
    injection e with q1 q2 q3
    subst q1; subst q2; subst q3
    injection e2 with e2 e3
    subst e2
    have hm2 : m = cap := by simpa using hmm
    clear hmm
    have h1 : ∀ i, i < len → ∃ x : Int, W.cell? (a.add i) = some (.int .i64 x) ∧ R64 x := by
      intro i hi
      obtain ⟨g1, g2⟩ := hx i (by omega)
      obtain ⟨x, e0, -, wx⟩ := DataW.trod_int Try.underlying3 g2
      refine ⟨x, ?_, wf_range wx⟩
      rw [g1]
      simpa using e0
    obtain ⟨f, hf⟩ := choose_lt (n := len) (p := fun i (x : Int) => W.cell? (a.add i) = some (.int .i64 x) ∧ R64 x) h1
    refine ⟨(List.range len).map f, ?_, (fun x hx => by obtain ⟨i, hi, rfl⟩ := List.mem_map.1 hx; exact (hf i (List.mem_range.1 hi)).2), ?_⟩
    · rcases Nat.eq_zero_or_pos len with h0 | h0
      · subst h0
        exact .inr ⟨rfl, _, _, rfl⟩
      · obtain ⟨b, off, spot⟩ := a
        have c0 := (hf 0 h0).1
        have hspot : spot = none := by simpa [Addr.add] using World.cell?_spot c0
        subst hspot
        refine .inl ⟨b, off, cap, by rw [List.length_map, List.length_range], trivial, by rw [List.length_map, List.length_range]; exact hl, by rw [List.length_map, List.length_range]; omega, fun i x hi => ?_⟩
        rw [List.getElem?_map] at hi
        obtain ⟨j, hj, rfl⟩ := Option.map_eq_some_iff.1 hi
        obtain ⟨hi2, hj2⟩ := List.getElem?_eq_some_iff.1 hj
        rw [List.length_range] at hi2
        rw [List.getElem_range] at hj2
        subst hj2
        have := (hf i hi2).1
        rw [addr_add'] at this
        exact this
    · have := bulk_map D (fun i => bulk_pos _) (List.range len)
      rw [List.length_map, Rows.uptoBulk]
      omega
theorem cells_sch : Try.prog.cellsOf 89 = 4 := by kernel_rfl
set_option maxRecDepth 100000 in
/-- A scheme that came in. -/
theorem open_scheme {base : Nat} {v : Value} {d : DataW H} {p : List MemPlace} (hok : Value.okWide Try.prog W .any base 89 v) (h : DataW.Trod enc Try.prog W 0 (fun _ => true) true 89 v d p) : ∃ n g vs t, v = .agg (.int .i64 g :: vs).toArray ∧ R64 g ∧ TAt W Any n vs t ∧ t.cnt ≤ Rows.uptoBulk d := by
  obtain ⟨cs, rfl, hsz⟩ := okWide_struct Try.underlying89 hok
  obtain ⟨fuel, hf⟩ := h
  obtain ⟨xs, n', rfl, hx, hl, hlen, hf⟩ := DataW.trod_struct Try.underlying89 hf
  rw [cells_sch] at hl
  obtain ⟨cl⟩ := cs
  simp only [Value.cells] at hl hf
  match cl, hl, xs, hlen with
  | [c0, c1, c2, c3], _, [y0, y1], _ =>
    have h0 := hf 0 _ rfl
    have h1 := hf 1 _ rfl
    replace h0 : DataW.trod enc Try.prog W 0 (fun _ => true) true n' 3 [c0] = some y0 := by simpa [cells_int] using h0
    replace h1 : DataW.trod enc Try.prog W 0 (fun _ => true) true n' 39 [c1, c2, c3] = some y1 := by simpa [cells_ty] using h1
    obtain ⟨i0, e0, rfl, w0⟩ := DataW.trod_int Try.underlying3 h0
    obtain rfl : c0 = _ := by simpa using e0
    obtain ⟨t, g1, g2⟩ := opens_all n' _ _ h1
    refine ⟨n', i0, [c1, c2, c3], t, rfl, wf_range w0, g1.any, ?_⟩
    injection hx with hx _
    rw [hx]
    simp only [Rows.uptoBulk, Rows.uptoBulkAll, List.map_cons, List.map_nil]
    omega
end Go.Proofs.Ytigliglmejkakab

namespace Go.Proofs.Ytigliglmejkakab
open Go.Lib
set_option linter.unusedVariables false

theorem Nm.cmp_refl : ∀ x : List UInt8, compareBytes x x = 0
  | [] => rfl
  | a :: ra => by
    rw [compareBytes, if_neg (UInt8.lt_irrefl a), if_neg (UInt8.lt_irrefl a)]
    exact Nm.cmp_refl ra
theorem Nm.u8_eq {a b : UInt8} (h1 : ¬ a < b) (h2 : ¬ b < a) : a = b := UInt8.le_antisymm (UInt8.not_lt.1 h2) (UInt8.not_lt.1 h1)
theorem Nm.cmp_eq : ∀ {x y : List UInt8}, compareBytes x y = 0 → x = y
  | [], [], _ => rfl
  | [], _ :: _, h => by simp [compareBytes] at h
  | _ :: _, [], h => by simp [compareBytes] at h
  | a :: ra, b :: bs, h => by
    rw [compareBytes] at h
    split at h
    · simp at h
    · split at h
      · simp at h
      · rename_i h1 h2
        rw [Nm.u8_eq h1 h2, Nm.cmp_eq h]
theorem Nm.cmp_swap : ∀ x y : List UInt8, compareBytes y x = - compareBytes x y
  | [], [] => rfl
  | [], _ :: _ => by simp [compareBytes]
  | _ :: _, [] => by simp [compareBytes]
  | a :: ra, b :: bs => by
    rw [compareBytes, compareBytes]
    by_cases h1 : a < b
    · rw [if_neg (UInt8.lt_asymm h1), if_pos h1, if_pos h1]; rfl
    · by_cases h2 : b < a
      · rw [if_pos h2, if_neg h1, if_pos h2]
      · rw [if_neg h2, if_neg h1, if_neg h1, if_neg h2, Nm.cmp_swap ra bs]
theorem Nm.cmp_three : ∀ x y : List UInt8, compareBytes x y = -1 ∨ compareBytes x y = 0 ∨ compareBytes x y = 1
  | [], [] => .inr (.inl rfl)
  | [], _ :: _ => .inl (by simp [compareBytes])
  | _ :: _, [] => .inr (.inr (by simp [compareBytes]))
  | a :: ra, b :: bs => by
    rw [compareBytes]
    split
    · exact .inl rfl
    · split
      · exact .inr (.inr rfl)
      · exact Nm.cmp_three ra bs
theorem Nm.cmp_trans : ∀ {x y z : List UInt8}, compareBytes x y = -1 → compareBytes y z = -1 → compareBytes x z = -1
  | [], [], _, h, _ => by simp [compareBytes] at h
  | [], _ :: _, [], _, h => by simp [compareBytes] at h
  | [], _ :: _, _ :: _, _, _ => by simp [compareBytes]
  | _ :: _, [], _, h, _ => by simp [compareBytes] at h
  | _ :: _, _ :: _, [], _, h => by simp [compareBytes] at h
  | a :: ra, b :: bs, c :: cs, h1, h2 => by
    rw [compareBytes] at h1 h2 ⊢
    by_cases hab : a < b
    · by_cases hbc : b < c
      · rw [if_pos (UInt8.lt_trans hab hbc)]
      · rw [if_neg hbc] at h2
        by_cases hcb : c < b
        · rw [if_pos hcb] at h2; simp at h2
        · rw [← Nm.u8_eq hbc hcb, if_pos hab]
    · rw [if_neg hab] at h1
      by_cases hba : b < a
      · rw [if_pos hba] at h1; simp at h1
      · rw [if_neg hba] at h1
        obtain rfl := Nm.u8_eq hab hba
        by_cases hbc : a < c
        · rw [if_pos hbc]
        · rw [if_neg hbc] at h2 ⊢
          by_cases hcb : c < a
          · rw [if_pos hcb] at h2; simp at h2
          · rw [if_neg hcb] at h2 ⊢
            exact Nm.cmp_trans h1 h2
/-- Less or the same goes through a third text. -/
theorem Nm.cmp_le {x y z : List UInt8} (h1 : compareBytes x y ≤ 0) (h2 : compareBytes y z ≤ 0) : compareBytes x z ≤ 0 := by
  rcases Nm.cmp_three x y with a | a | a
  · rcases Nm.cmp_three y z with b | b | b
    · rw [Nm.cmp_trans a b]; omega
    · rw [← Nm.cmp_eq b, a]; omega
    · omega
  · rw [Nm.cmp_eq a]; exact h2
  · omega
end Go.Proofs.Ytigliglmejkakab

namespace Go.Proofs
open Go.Shelf
def Try.lays213_ren : Go.Shelf.Ren := ⟨fun | 213 => 24 | 265 => 39 | n => n, fun | 9 => 9 | 3 => 3 | n => n, fun | n => n⟩
theorem Try.lays213 : Go.Proofs.Lays.n213 Try.prog Try.lays213_ren := {
  mixed := by kernel_rfl
  f213 := Try.func24.trans (congrArg some (by kernel_rfl))
  f265 := Try.func39.trans (congrArg some (by kernel_rfl))
  t3 := Try.underlying3
  a3 := Try.isAgg3
  z3 := Try.sizeOf3
  v3 := Try.zeroValue3
  t9 := Try.underlying9
  a9 := Try.isAgg9
  z9 := Try.sizeOf9
  v9 := Try.zeroValue9 }
open Go.RowKit in
/-- internal/bytealg.CompareString (what strings.Compare calls): IT RETURNS 'Lib.compareBytes a b'; the world is as it was. (LAID: no walk: one application.) -/
theorem Try.bytealg_CompareString (a b : ByteArray) (w : World) :
    Calls Try.prog 24 #[.string a, .string b] w fun e w' => e = .returned (.int .i64 (Lib.compareBytes a.data.toList b.data.toList)) ∧ w' = w := Any.bytealg_CompareString Try.lays213 a b w
def Try.lays106_ren : Go.Shelf.Ren := ⟨fun | 106 => 12 | 213 => 24 | 265 => 39 | n => n, fun | 9 => 9 | 3 => 3 | n => n, fun | n => n⟩
theorem Try.lays106 : Go.Proofs.Lays.n106 Try.prog Try.lays106_ren := {
  mixed := by kernel_rfl
  f106 := Try.func12.trans (congrArg some (by kernel_rfl))
  f213 := Try.func24.trans (congrArg some (by kernel_rfl))
  f265 := Try.func39.trans (congrArg some (by kernel_rfl))
  t3 := Try.underlying3
  a3 := Try.isAgg3
  z3 := Try.sizeOf3
  v3 := Try.zeroValue3
  t9 := Try.underlying9
  a9 := Try.isAgg9
  z9 := Try.sizeOf9
  v9 := Try.zeroValue9 }
open Go.RowKit in
/-- strings.Compare: "Compare returns an integer comparing two strings lexicographically. The result will be 0 if a == b, -1 if a < b, and +1 if a > b.": IT RETURNS 'Lib.compareBytes a b'; the world is as it was. (LAID: no walk: one application.) -/
theorem Try.strings_Compare (a b : ByteArray) (w : World) :
    Calls Try.prog 12 #[.string a, .string b] w fun e w' => e = .returned (.int .i64 (Lib.compareBytes a.data.toList b.data.toList)) ∧ w' = w := Any.strings_Compare Try.lays106 a b w
def Try.lays194_ren : Go.Shelf.Ren := ⟨fun | 194 => 15 | n => n, fun | 31 => 29 | 9 => 9 | 3 => 3 | 4 => 4 | 0 => 0 | n => n, fun | n => n⟩
theorem Try.lays194 : Go.Proofs.Lays.n194 Try.prog Try.lays194_ren := {
  mixed := by kernel_rfl
  f194 := Try.func15.trans (congrArg some (by kernel_rfl))
  t0 := Try.underlying0
  a0 := Try.isAgg0
  z0 := Try.sizeOf0
  v0 := Try.zeroValue0
  t3 := Try.underlying3
  a3 := Try.isAgg3
  z3 := Try.sizeOf3
  v3 := Try.zeroValue3
  t4 := Try.underlying4
  a4 := Try.isAgg4
  z4 := Try.sizeOf4
  v4 := Try.zeroValue4
  t9 := Try.underlying9
  a9 := Try.isAgg9
  z9 := Try.sizeOf9
  v9 := Try.zeroValue9
  t31 := Try.underlying29
  a31 := Try.isAgg29
  z31 := Try.sizeOf29
  v31 := Try.zeroValue29 }
open Go.RowKit Go.Lib Go.Sort in
/-- slices.Compact at []string: "Compact replaces consecutive runs of equal elements with a single copy. This is like the uniq command found on Unix. Compact modifies the contents of the slice s and returns the modified slice, which may have a smaller length. Compact zeroes the elements between the new length and the original length. The result preserves the nilness of s.": IT RETURNS THE SLICE CUT TO 'Lib.compact zs'; ITS CELLS HOLD 'Lib.compact zs', THEN ZERO VALUES up to the old length; all else is as it was, but for the count of draws. IN THE WORDS OF slices.Sort's CONTRACT ('Holds', 'putRow'): so the everyday 'slices.Sort(xs); xs = slices.Compact(xs)' goes from the one contract to the other. It asks 'zs.length ≤ cap' (every slice's: the reslicing 's[:k]' looks at it). Length 0, nil: '.._empty'. (LAID: no walk: one application.) -/
theorem Try.slices_Compact_string (blk off cap : Nat) (zs : List (List UInt8)) (w : World) (hH : Holds encStr w blk off zs.toArray) (hsz : zs.length ≤ 9223372036854775807) (hcap : zs.length ≤ cap) :
    Calls Try.prog 15 #[.slice (some ⟨blk, off, none⟩) zs.length cap] w fun e w' => e = .returned (.slice (some ⟨blk, off, none⟩) (Lib.compact zs).length cap) ∧ ∃ q, w' = putRow encStr (Sort.ahead w q) blk off (Lib.compact zs ++ List.replicate (zs.length - (Lib.compact zs).length) []).toArray := Any.slices_Compact_string Try.lays194 blk off cap zs w hH hsz hcap
open Go.RowKit Go.Lib Go.Sort in
/-- The same at a slice of length 0, a nil one too: it comes back as it is. (LAID: no walk: one application.) -/
theorem Try.slices_Compact_string_empty (a : Option Addr) (cap : Nat) (w : World) :
    Calls Try.prog 15 #[.slice a 0 cap] w fun e w' => e = .returned (.slice a 0 cap) ∧ w' = w := Any.slices_Compact_string_empty Try.lays194 a cap w
def Try.laysSlF6_f29_ren : Go.Shelf.Ren := ⟨fun | 6 => 29 | 15 => 53 | 14 => 52 | 28 => 69 | 29 => 70 | 20 => 61 | 21 => 62 | 22 => 63 | 23 => 64 | 24 => 65 | 25 => 66 | 26 => 67 | 27 => 68 | 46 => 75 | 47 => 76 | 48 => 77 | 49 => 78 | 50 => 79 | 57 => 81 | n => n, fun | 22 => 29 | 24 => 9 | 25 => 43 | 3 => 3 | 39 => 72 | 0 => 0 | 53 => 123 | 55 => 125 | 4 => 4 | 46 => 117 | 45 => 116 | 50 => 58 | 5 => 5 | 9 => 9 | 66 => 135 | 70 => 139 | 76 => 143 | 77 => 144 | n => n, fun | n => n⟩
theorem Try.laysSlF6_f29 : Go.Proofs.SlLaysF.n6 Try.prog Try.laysSlF6_f29_ren := {
  mixed := by kernel_rfl
  f6 := ⟨Try.f29.name, by decide, Try.func29.trans (congrArg some (by kernel_rfl))⟩
  f14 := ⟨Try.f52.name, by decide, Try.func52.trans (congrArg some (by kernel_rfl))⟩
  f15 := Try.func53.trans (congrArg some (by kernel_rfl))
  f20 := ⟨Try.f61.name, by decide, Try.func61.trans (congrArg some (by kernel_rfl))⟩
  f21 := ⟨Try.f62.name, by decide, Try.func62.trans (congrArg some (by kernel_rfl))⟩
  f22 := ⟨Try.f63.name, by decide, Try.func63.trans (congrArg some (by kernel_rfl))⟩
  f23 := ⟨Try.f64.name, by decide, Try.func64.trans (congrArg some (by kernel_rfl))⟩
  f24 := ⟨Try.f65.name, by decide, Try.func65.trans (congrArg some (by kernel_rfl))⟩
  f25 := ⟨Try.f66.name, by decide, Try.func66.trans (congrArg some (by kernel_rfl))⟩
  f26 := ⟨Try.f67.name, by decide, Try.func67.trans (congrArg some (by kernel_rfl))⟩
  f27 := ⟨Try.f68.name, by decide, Try.func68.trans (congrArg some (by kernel_rfl))⟩
  f28 := Try.func69.trans (congrArg some (by kernel_rfl))
  f29 := Try.func70.trans (congrArg some (by kernel_rfl))
  f46 := ⟨Try.f75.name, by decide, Try.func75.trans (congrArg some (by kernel_rfl))⟩
  f47 := Try.func76.trans (congrArg some (by kernel_rfl))
  f48 := Try.func77.trans (congrArg some (by kernel_rfl))
  f49 := ⟨Try.f78.name, by decide, Try.func78.trans (congrArg some (by kernel_rfl))⟩
  f50 := ⟨Try.f79.name, by decide, Try.func79.trans (congrArg some (by kernel_rfl))⟩
  f57 := ⟨Try.f81.name, by decide, Try.func81.trans (congrArg some (by kernel_rfl))⟩
  t0 := Try.underlying0
  a0 := Try.isAgg0
  z0 := Try.sizeOf0
  v0 := Try.zeroValue0
  t3 := Try.underlying3
  a3 := Try.isAgg3
  z3 := Try.sizeOf3
  v3 := Try.zeroValue3
  t4 := Try.underlying4
  a4 := Try.isAgg4
  z4 := Try.sizeOf4
  v4 := Try.zeroValue4
  t5 := Try.underlying5
  a5 := Try.isAgg5
  z5 := Try.sizeOf5
  v5 := Try.zeroValue5
  t9 := Try.underlying9
  a9 := Try.isAgg9
  z9 := Try.sizeOf9
  v9 := Try.zeroValue9
  t22 := Try.underlying29
  a22 := Try.isAgg29
  z22 := Try.sizeOf29
  v22 := Try.zeroValue29
  a24 := Try.isAgg9
  z24 := Try.sizeOf9
  t25 := Try.underlying43
  a25 := Try.isAgg43
  z25 := Try.sizeOf43
  v25 := Try.zeroValue43
  t39 := Try.underlying72
  a39 := Try.isAgg72
  z39 := Try.sizeOf72
  v39 := Try.zeroValue72
  t45 := Try.underlying116
  a45 := Try.isAgg116
  z45 := Try.sizeOf116
  v45 := Try.zeroValue116
  t46 := Try.underlying117
  a46 := Try.isAgg117
  z46 := Try.sizeOf117
  v46 := Try.zeroValue117
  t50 := Try.underlying58
  a50 := Try.isAgg58
  z50 := Try.sizeOf58
  v50 := Try.zeroValue58
  t53 := Try.underlying123
  a53 := Try.isAgg123
  z53 := Try.sizeOf123
  v53 := Try.zeroValue123
  t55 := Try.underlying125
  a55 := Try.isAgg125
  z55 := Try.sizeOf125
  v55 := Try.zeroValue125
  t66 := Try.underlying135
  a66 := Try.isAgg135
  z66 := Try.sizeOf135
  v66 := Try.zeroValue135
  t70 := Try.underlying139
  a70 := Try.isAgg139
  z70 := Try.sizeOf139
  v70 := Try.zeroValue139
  t76 := Try.underlying143
  a76 := Try.isAgg143
  z76 := Try.sizeOf143
  v76 := Try.zeroValue143
  t77 := Try.underlying144
  a77 := Try.isAgg144
  z77 := Try.sizeOf144
  v77 := Try.zeroValue144 }
open Go.RowKit Go.Lib Go.Sort in
/-- **slices.SortFunc, IN THE DOCUMENTATION's OWN TERMS: A PERMUTATION OF WHAT THE ROW HELD, SORTED BY 'cmp(a, b) < 0'.** Which of two equals comes first is left open ("The sort is not guaranteed to be stable"). (LAID AT THE INSTANCE 'slices.SortFunc[[]string,string]': no walk: one application.) -/
theorem Try.slices_SortFunc {α : Type} [Inhabited α] (enc : α → Value) (h1 : OneCell enc) (cf : α → α → Int) (hO : SWO (ltOf cf)) (g : Nat) (cb : Array Value) (blk off cap : Nat) (d : Array α) (w : World) (eg : ∀ args w, (callFunc g args).run Try.prog w = .ok (.enter g args) w) (hcmp : CmpLays1 Try.prog g cb enc cf blk off d.size w) (hH : Holds enc w blk off d) (hblk : blk < w.heap.size) (hsz : d.size < 4611686018427387904) :
    Calls Try.prog 29 #[.slice (some ⟨blk, off, none⟩) d.size cap, .func (.func g) #[] cb] w fun e w' =>
      e = .returned (.tuple #[]) ∧ ∃ d' n os, PermIn 0 d.size d d' ∧ SortedIn (ltOf cf) 0 d.size d' ∧ w' = sortWorld enc w blk off n d' os := Any.slices_SortFunc Try.laysSlF6_f29 enc h1 cf hO g cb blk off cap d w eg hcmp hH hblk hsz
end Go.Proofs

namespace Go.Proofs.Ytigliglmejkakab.Tgt
open Go.RowKit
set_option linter.unusedVariables false

/-- A target type: its kind, its number, its labels, its parts. -/
inductive Tt where
  | mk (k n : Int) (ls : List ByteArray) (ks : List Tt)
def Tt.k : Tt → Int | .mk k _ _ _ => k
def Tt.n : Tt → Int | .mk _ n _ _ => n
def Tt.ls : Tt → List ByteArray | .mk _ _ ls _ => ls
def Tt.ks : Tt → List Tt | .mk _ _ _ ks => ks
theorem Tt.eta (t : Tt) : Tt.mk t.k t.n t.ls t.ks = t := by cases t; rfl
mutual
def Tt.cnt : Tt → Nat
  | .mk _ _ _ ks => Tt.cntL ks + 1
def Tt.cntL : List Tt → Nat
  | [] => 0
  | x :: r => Tt.cnt x + Tt.cntL r
end
theorem Tt.cnt_ks (t : Tt) : t.cnt = Tt.cntL t.ks + 1 := by cases t; rw [Tt.cnt]; rfl
theorem Tt.cnt_pos (t : Tt) : 1 ≤ t.cnt := by rw [Tt.cnt_ks]; omega
theorem Tt.drop_at {l : List Tt} {k : Nat} {x : Tt} (hx : l[k]? = some x) : l.drop k = x :: l.drop (k + 1) := by
  obtain ⟨hk, rfl⟩ := List.getElem?_eq_some_iff.1 hx
  exact List.drop_eq_getElem_cons hk
theorem Tt.cntL_drop {l : List Tt} {k : Nat} {x : Tt} (hx : l[k]? = some x) : Tt.cntL (l.drop k) = x.cnt + Tt.cntL (l.drop (k + 1)) := by
  rw [Tt.drop_at hx, Tt.cntL]
/-- Is its number bound in its parts? -/
def Tt.binds (t : Tt) : Bool := decide (t.k = 9) || decide (t.k = 10) || decide (t.k = 11)
mutual
def Tt.deepest : Tt → Nat
  | .mk _ _ _ ks => Tt.deepestL ks + 1
def Tt.deepestL : List Tt → Nat
  | [] => 0
  | x :: r => max (Tt.deepest x) (Tt.deepestL r)
end
theorem Tt.deepest_ks (t : Tt) : t.deepest = Tt.deepestL t.ks + 1 := by cases t; rw [Tt.deepest]; rfl
theorem Tt.deepestL_drop {l : List Tt} {k : Nat} {x : Tt} (hx : l[k]? = some x) : Tt.deepestL (l.drop k) = max x.deepest (Tt.deepestL (l.drop (k + 1))) := by
  rw [Tt.drop_at hx, Tt.deepestL]
mutual
theorem Tt.deepest_le : ∀ t : Tt, t.deepest ≤ t.cnt
  | .mk k n ls ks => by rw [Tt.deepest, Tt.cnt]; have := Tt.deepestL_le ks; omega
theorem Tt.deepestL_le : ∀ l : List Tt, Tt.deepestL l ≤ Tt.cntL l
  | [] => by rw [Tt.deepestL, Tt.cntL]; exact Nat.le_refl _
  | x :: r => by rw [Tt.deepestL, Tt.cntL]; have := Tt.deepest_le x; have := Tt.deepestL_le r; omega
end
/-- What stands for a key: the first pair. -/
def lk : List (Int × Int) → Int → Option Int
  | [], _ => none
  | p :: r, x => if p.1 = x then some p.2 else lk r x
theorem lk_cons (p : Int × Int) (r : List (Int × Int)) (x : Int) : lk (p :: r) x = if p.1 = x then some p.2 else lk r x := rfl
theorem lk_mem {e : List (Int × Int)} {x a : Int} (h : lk e x = some a) : (x, a) ∈ e := by
  induction e with
  | nil => cases h
  | cons p r ih =>
    rw [lk_cons] at h
    split at h
    · rename_i h1
      injection h with h2
      subst h1 h2
      exact List.mem_cons_self
    · exact List.mem_cons_of_mem _ (ih h)
end Go.Proofs.Ytigliglmejkakab.Tgt
