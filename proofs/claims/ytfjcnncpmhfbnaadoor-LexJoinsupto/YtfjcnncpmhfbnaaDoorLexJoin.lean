/- What the program's Join comes to. -/
import Derived.Test.YtfjcnncpmhfbnaaDoorLexSame
import Derived.Test.YtfjcnncpmhfbnaaDoorLexR
import Derived.Test.YtfjcnncpmhfbnaaDoorShelfJoin
namespace Go.Proofs.YtfjcnncpmhfbnaaDoor
open Go.RowKit
set_option linter.unusedVariables false

theorem info_str : (Tryd.prog.info? 9).map (fun i => (i.zero, i.size, i.bytes)) = some (some (.string ⟨#[]⟩), 1, 16) := by kernel_rfl
def Tv.joined (xs : List Tv) : List UInt8 := Lib.join (xs.map fun x => x.text.data.toList) [32]

set_option maxHeartbeats 2000000 in
theorem lxJoin_any (v : Value) (xs : List Tv) (w : World) (h : TvAt w v xs) (hn : xs.length ≤ 8796093022208) (hj : (Tv.joined xs).length ≤ 140737488355328) :
    Calls Tryd.prog 13 #[v] w fun e w' => e = .returned (.string ⟨(Tv.joined xs).toArray⟩) ∧ Below w.heap.size w w' := by
  obtain ⟨i0, hi, hz0, hz1, hz2⟩ := info_parts info_str
  obtain ⟨va, vc, hvf⟩ := h.form
  have hcells : ∀ i t, xs[i]? = some t → ∃ g o c, v = .slice (some ⟨g, o, none⟩) xs.length c ∧ g < w.heap.size ∧ w.cell? ⟨g, o + i * 4, none⟩ = some (.int .i64 t.kind) ∧ w.cell? ⟨g, o + i * 4 + 1, none⟩ = some (.string t.text) ∧ w.cell? ⟨g, o + i * 4 + 2, none⟩ = some (.int .i64 t.n) ∧ w.cell? ⟨g, o + i * 4 + 3, none⟩ = some (.int .i64 t.place) := by
    intro i t ht
    rcases h with ⟨rfl, -⟩ | ⟨g, o, c, hv, hg, hc⟩
    · cases i <;> cases ht
    · obtain ⟨h0, h1, h2, h3⟩ := hc i t ht
      exact ⟨g, o, c, hv, hg, h0, h1, h2, h3⟩
  subst hvf
  have hb2 : i0.bytes * xs.length ≤ 281474976710656 := by rw [hz2]; omega
  clear h
  go_enter Tryd.func13, Tryd.ntmps13
  go_upto_region 2 with (at_make; refine wpList_make_full _ rfl _ _ 49 rfl w.heap.size 9 i0 (.string ⟨#[]⟩) 1 Tryd.underlying49 hi hz0 hz1 _ _ _ _ xs.length rfl rfl rfl rfl hb2 (by unfold maxLen; omega) (Nat.le_refl _) ?_; intro w1 hown1 hgrow1)
  have hB1 : Below w.heap.size w w1 := (Below.refl _ _).grown hgrow1 (Nat.le_refl _) (fun k hk => by cases hk)
  have hml : (madeCells (Value.string ⟨#[]⟩).cells (xs.length * 1)).toList.length = xs.length := by have := hown1.1; omega
  go_wp2
  go_loopw [11] (fun u wr => ∃ (k : Nat) (cs : List Value), u = .int .i64 k ∧ k ≤ xs.length ∧ cs.length = xs.length ∧ (∀ j x, j < k → xs[j]? = some x → cs[j]? = some (.string x.text)) ∧ wr.ownsRow w.heap.size 9 1 (.slice (some ⟨w.heap.size, 0, none⟩) xs.length xs.length) xs.length cs ∧ Below w.heap.size w wr) (fun u _ => xs.length - (intOf u).toNat)
  case atStart => exact ⟨0, _, rfl, Nat.zero_le _, hml, fun j x hj => absurd hj (Nat.not_lt_zero _), hown1, hB1⟩
  case round =>
    obtain ⟨k, cs, rfl, hk, hcl, hcs, hrow, hB⟩ := hrel
    by_cases hlt : k < xs.length
    · obtain ⟨x, hx⟩ : ∃ x, xs[k]? = some x := ⟨_, List.getElem?_eq_getElem hlt⟩
      obtain ⟨g, o, c, hv, hg, x0, x1, x2, x3⟩ := hcells k x hx
      injection hv with e1 _ e2
      subst e1; subst e2
      rw [← hB.cell hg] at x0 x1 x2 x3
      have hrow2 := hrow.alloc (.cells #[.int .i64 x.kind, .string x.text, .int .i64 x.n, .int .i64 x.place] 39)
      obtain ⟨hst, hgr⟩ := hrow2.stored k (.string x.text)
      have hfz : (wr.alloc (.cells #[.int .i64 x.kind, .string x.text, .int .i64 x.n, .int .i64 x.place] 39)).frozen? ⟨w.heap.size, k, none⟩ = false := hrow2.frozenAt k
      obtain ⟨u0, hu0⟩ : ∃ u0, (wr.alloc (.cells #[.int .i64 x.kind, .string x.text, .int .i64 x.n, .int .i64 x.place] 39)).cell? ⟨w.heap.size, k, none⟩ = some u0 := by
        rw [hrow2.cellAt k (by omega)]; exact ⟨_, List.getElem?_eq_getElem (by omega)⟩
      have HC : Hid (∀ j y, j < k + 1 → xs[j]? = some y → (cs.set k (.string x.text))[j]? = some (.string y.text)) := fun j y hj hy => by
        rw [List.getElem?_set]
        by_cases e : k = j
        · subst e
          rw [if_pos rfl, if_pos (by omega)]
          rw [hx] at hy; cases hy; rfl
        · rw [if_neg e]; exact hcs j y (by omega) hy
      have hne : ¬ (⟨w.heap.size, k, none⟩ : Addr).block = wr.heap.size := by
        have := (hrow.lt w.heap.size rfl).2
        show ¬ w.heap.size = wr.heap.size; omega
      clear hcells hcs hB1 hgrow1 hown1
      go_wp2
      go_roundw
      case rel => exact ⟨k + 1, cs.set k (.string x.text), by go_num, by omega, by rw [List.length_set]; exact hcl, HC.out, hst, (hB.alloc hB.size _).grown hgr (by have := hB.size; simp; omega) (fun j hj => by cases hj; exact Nat.le_refl _)⟩
      case measure => simp [intOf]; omega
    · have hall : ∀ (j : Nat) x, (xs.map Tv.text)[j]? = some x → wr.cell? ⟨w.heap.size, 0 + j, none⟩ = some (.string x) := by
        intro j x hx
        rw [List.getElem?_map] at hx
        cases hy : xs[j]? with
        | none => rw [hy] at hx; cases hx
        | some y =>
          rw [hy] at hx
          obtain rfl : y.text = x := by simpa using hx
          have hjl := (List.getElem?_eq_some_iff.1 hy).1
          rw [Nat.zero_add, hrow.cellAt j (by omega)]
          exact hcs j y (by omega) hy
      have hJ : ((xs.map Tv.text).map fun x => x.data.toList) = xs.map fun x => x.text.data.toList := by rw [List.map_map]; rfl
      have c1 := Tryd.strings_Join w.heap.size 0 xs.length (xs.map Tv.text) ⟨#[32]⟩ wr hall (hrow.lt _ rfl).2 (by rw [List.length_map]; omega) (by rw [List.length_map]; exact Nat.le_refl _) (by rw [hJ]; exact hj)
      rw [List.length_map, hJ] at c1
      clear hcells hcs hB1 hgrow1 hown1 hall hJ
      go_wp2_with (go_at_call 22; refine c1.mono ?_; rintro e w2 ⟨rfl, hb2⟩)
      go_ret
      exact ⟨rfl, lxTr hB hb2⟩
end Go.Proofs.YtfjcnncpmhfbnaaDoor
