/- The map of places. -/
import Derived.Maps.OwnSet
import Derived.DeepKeys4
import Derived.Test.YtknlpeloaapaiaaTsN
import Derived.Test.YtknlpeloaapaiaaTpS2
namespace Go.Proofs.Ytknlpeloaapaiaa
open Go.RowKit
set_option linter.unusedVariables false
set_option linter.unusedSimpArgs false

theorem laid12 : laidOutB Try.prog = true := by kernel_rfl
theorem pl_row : (111 : TypeId) < Try.prog.types.size := of_decide_eq_true (by kernel_rfl)
theorem pl_wide : (match Try.prog.underlying 111 with | some (.array _ _) | some (.struct _) => true | _ => false) = true := by kernel_rfl
set_option maxRecDepth 100000 in
theorem pl_law : WideMaps.KeyLaw Try.prog 111 := deep_law_laid laid12 (m := 2) (by omega) pl_row (by kernel_rfl) pl_wide
theorem pl_key : Maps.Keyed Try.prog 111 := Maps.Keyed.of_law pl_law
def pv (k n : Int) : Value := .agg #[.int .i64 k, .int .i64 n]
theorem wf64 {x : Int} (hx : R64 x) : (Lit.int .i64 x).wf = true := by obtain ⟨a, b⟩ := hx; simp [Lit.wf, IntKind.min, IntKind.max, IntKind.signed, IntKind.bits]; omega
theorem pl_cells : Try.prog.cellsOf 111 = 2 := by kernel_rfl
theorem int_cells : Try.prog.cellsOf 3 = 1 := by kernel_rfl
theorem pl_type : Try.prog.keyType 111 = true := by kernel_rfl
theorem pl_lits {k n : Int} (hk : R64 k) (hn : R64 n) (d : Nat) : Try.prog.keyLits (d + 2) 111 [.int .i64 k, .int .i64 n] = some [.int .i64 k, .int .i64 n] := by
  have h1 := wf64 hk
  have h2 := wf64 hn
  simp [Program.keyLits, Try.underlying111, Try.underlying3, pl_cells, int_cells, h1, h2]
theorem lit_inj {a b : Int} {p q : List MemPlace} (h : ((DataW.lit (Lit.int .i64 a) : DataW Unit), p) = (.lit (.int .i64 b), q)) : a = b := by
  have h := (Prod.mk.inj h).1
  injection h with h
  injection h
def kl (k n : Int) : Lit := .string (keyBytes [.int .i64 k, .int .i64 n])
theorem kl_of {k n : Int} (hk : R64 k) (hn : R64 n) : keyOf Try.prog 111 (pv k n) = some (kl k n) := by
  have hf : (pv k n).formed Try.prog 111 = true := by
    unfold pv Value.formed
    simp [Try.underlying111, pl_cells]
  obtain ⟨d, hd⟩ : ∃ d, Try.prog.types.size + 1 = d + 2 := ⟨Try.prog.types.size - 1, by have h : 0 < Try.prog.types.size := Nat.lt_of_le_of_lt (Nat.zero_le _) pl_row; omega⟩
  unfold keyOf
  rw [Try.underlying111]
  simp only [pl_type, hf, Bool.and_self, if_true, hd]
  have : (pv k n).cells.toList = [.int .i64 k, .int .i64 n] := by simp [pv, Value.cells]
  rw [this, pl_lits hk hn]
  rfl
theorem kl_inj {k n k' n' : Int} (hk : R64 k) (hn : R64 n) (hk' : R64 k') (hn' : R64 n') (h : kl k n = kl k' n') : k = k' ∧ n = n' := by
  have := pl_key.inj (kl_of hk hn) (by rw [h]; exact kl_of hk' hn')
  unfold pv at this
  injection this with this
  injection this with this
  injection this with e1 e2
  injection e2 with e2 _
  injection e1 with _ e1
  injection e2 with _ e2
  exact ⟨e1, e2⟩
theorem kl_lit (k n : Int) : WideAt.IsKeyLit (kl k n) := by simp [kl, WideAt.IsKeyLit]
/-- The map in block C: the i-th place of the list has the number i. -/
def Pls (w : World) (C : Nat) (L : List (Int × Int)) : Prop := ∃ D : DataW Unit, w.ownsMap Try.prog 111 (plainElem Try.prog 3) C L.length D ∧ Maps.IsMap D ∧ Maps.size D = L.length ∧
  (∀ x ∈ L, R64 x.1 ∧ R64 x.2) ∧ ∀ k n : Int, R64 k → R64 n → (Maps.has D (kl k n) = decide ((k, n) ∈ L)) ∧ ((k, n) ∈ L → ∀ zd, D.atKey (kl k n) zd = .lit (.int .i64 (L.idxOf (k, n) : Nat)))
theorem Pls.kept {w w' : World} {C : Nat} {L : List (Int × Int)} {row : Option Nat} (h : Pls w C L) (hg : w.grownBy w' row) (hne : some C ≠ row) : Pls w' C L := by
  obtain ⟨D, h1, h2⟩ := h
  exact ⟨D, h1.kept hg hne, h2⟩
theorem Pls.stays {w w' : World} {C : Nat} {L : List (Int × Int)} (h : Pls w C L) (hb : Below w.heap.size w w') : Pls w' C L :=
  h.kept (row := none) ⟨hb.os, hb.tape, hb.output, hb.size, fun b hb2 _ => hb.block b hb2⟩ (by simp)
theorem Pls.lt {w : World} {C : Nat} {L : List (Int × Int)} (h : Pls w C L) : C < w.heap.size := by
  obtain ⟨D, h1, h2⟩ := h
  exact h1.lt
theorem pls_new (w : World) : Pls (w.alloc (.map #[] 0)) w.heap.size [] := ⟨_, World.ownsMap_made w _ _ _, ⟨_, rfl⟩, rfl, (by simp), fun k n hk hn => ⟨by simp [Maps.has], by simp⟩⟩
theorem zero_int12 (w : World) : (zeroValue 3).run Try.prog w = .ok (.int .i64 0) w := by kernel_rfl
theorem Pls.look {w : World} {C : Nat} {L : List (Int × Int)} (h : Pls w C L) (hL : L.length ≤ 2097152) {k n : Int} (hk : R64 k) (hn : R64 n) : (Instr.lookup 67 (.map (some C)) (.agg #[.int .i64 k, .int .i64 n]) true).run Try.prog w = .ok (.tuple #[.int .i64 (if (k, n) ∈ L then (L.idxOf (k, n) : Nat) else 0), .bool (decide ((k, n) ∈ L))]) w := by
  obtain ⟨D, h1, h2, h3, h4, h5⟩ := h
  obtain ⟨v, ps, hr, hv⟩ := h1.look_ok pl_key Try.underlying67 (zero_int12 w) (plainElem_int (H := Unit) (P := Try.prog) (e := 3) Try.underlying3 (a := 0) (by rfl)) (kl_of hk hn)
  obtain ⟨a, rfl, hz⟩ := plainElem_int_inv Try.underlying3 hv
  unfold pv at hr
  rw [hr, (h5 k n hk hn).1]
  by_cases hm : (k, n) ∈ L
  · rw [if_pos hm]
    rw [(h5 k n hk hn).2 hm] at hz
    rw [lit_inj hz.1]
  · rw [if_neg hm]
    rw [Maps.atKey_of_not_has (by rw [(h5 k n hk hn).1]; exact decide_eq_false hm)] at hz
    rw [lit_inj hz.1]
theorem Pls.len {w : World} {C : Nat} {L : List (Int × Int)} (h : Pls w C L) (ty : TypeId) : (Builtin.len_ #[67] ty #[.map (some C)]).run Try.prog w = .ok (.int .i64 (L.length : Nat)) w := by
  obtain ⟨D, h1, h2, h3, h4, h5⟩ := h
  rw [h1.len Try.underlying67 ty, h3]
theorem Pls.put {w : World} {C : Nat} {L : List (Int × Int)} (h : Pls w C L) (hL : L.length ≤ 2097152) {k n : Int} (hk : R64 k) (hn : R64 n) (hnew : (k, n) ∉ L) : ∃ w', (Instr.mapUpdate 67 (.map (some C)) (.agg #[.int .i64 k, .int .i64 n]) (.int .i64 (L.length : Nat))).run Try.prog w = .ok () w' ∧ Pls w' C (L ++ [(k, n)]) ∧ w.grownBy w' (some C) := by
  obtain ⟨D, h1, h2, h3, h4, h5⟩ := h
  have hT : Maps.Tidy D := h1.tidy pl_key
  have h6 : R64 (L.length : Nat) := ⟨by omega, by omega⟩
  obtain ⟨w', hr, g1, g2⟩ := h1.store pl_key Try.underlying67 (by unfold maxLen; omega) (kl_of hk hn) (plainElem_int (H := Unit) (P := Try.prog) (e := 3) Try.underlying3 (wf64 h6))
  have hno : Maps.has D (kl k n) = false := by rw [(h5 k n hk hn).1]; exact decide_eq_false hnew
  refine ⟨w', hr, ⟨_, by rw [List.length_append]; exact g1, g1.isMap, ?_, ?_, ?_⟩, g2.grown⟩
  · rw [Maps.size_put hT, hno, h3, List.length_append]; rfl
  · intro x hx
    rcases List.mem_append.1 hx with hx | hx
    · exact h4 x hx
    · rw [List.mem_singleton.1 hx]; exact ⟨hk, hn⟩
  · intro k' n' hk' hn'
    by_cases he : kl k' n' = kl k n
    · obtain ⟨rfl, rfl⟩ := kl_inj hk' hn' hk hn he
      rw [Maps.has_put_same h2 (kl_lit _ _)]
      refine ⟨by simp, fun _ zd => ?_⟩
      rw [Maps.atKey_put_same h2 (kl_lit _ _)]
      rw [List.idxOf_append, if_neg hnew, List.idxOf_cons_self, Nat.zero_add]
    · have hne : (k', n') ≠ (k, n) := fun e => he (by rw [(Prod.mk.inj e).1, (Prod.mk.inj e).2])
      rw [Maps.has_put_other he, (h5 k' n' hk' hn').1]
      refine ⟨by simp [hne], fun hm zd => ?_⟩
      have hm' : (k', n') ∈ L := by
        rcases List.mem_append.1 hm with hm | hm
        · exact hm
        · exact absurd (List.mem_singleton.1 hm) hne
      rw [Maps.atKey_put_other he, (h5 k' n' hk' hn').2 hm', List.idxOf_append, if_pos hm']
end Go.Proofs.Ytknlpeloaapaiaa
