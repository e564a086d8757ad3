/- A slice of bytes of the call's own, grown byte by byte, whatever its row's mark: what an append to it leaves. -/
import Derived.WalkKit
import Derived.ArgAppend
import Derived.Lib.ConvBytes
import Derived.Laws.IdiomStrings
import Derived.Maps.AppendAt
import Derived.Test.YtmcjcgodapkkpaaProg
namespace Go.Proofs.Ytmcjcgodapkkpaa
open Go.RowKit
set_option linter.unusedVariables false

abbrev bv (b : UInt8) : Value := .int .u8 (b.toNat : Int)

/-- v is a slice whose elements are the bytes l, in a row from block base on; behind them nothing is frozen. -/
def ByteRow (w : World) (base : Nat) (v : Value) (l : List UInt8) : Prop :=
  ∃ g cap cur fz, v = .slice (some ⟨g, 0, none⟩) l.length cap ∧ base ≤ g ∧ w.heap[g]? = some (.cells cur 5 fz) ∧ cur.size = cap ∧ l.length ≤ cap ∧ cur.toList.take l.length = l.map bv ∧ (fz.2 ≤ l.length ∨ cap ≤ fz.1)

theorem ByteRow.alloc {w : World} {base : Nat} {v : Value} {l : List UInt8} (h : ByteRow w base v l) (o : Obj) : ByteRow (w.alloc o) base v l := by
  obtain ⟨g, cap, cur, fz, e, hg, hk, r⟩ := h
  exact ⟨g, cap, cur, fz, e, hg, (Below.heap_alloc w o g (Array.getElem?_eq_some_iff.1 hk).1).trans hk, r⟩

theorem ByteRow.cells {w : World} {base g n cap : Nat} {l : List UInt8} (h : ByteRow w base (.slice (some ⟨g, 0, none⟩) n cap) l) : ∀ j (hj : j < l.length), w.cell? ((⟨g, 0, none⟩ : Addr).add j) = some (bv l[j]) := by
  obtain ⟨g', cap', cur, fz, e, hg, hk, hs, hc, ht, hf⟩ := h
  simp only [Value.slice.injEq, Option.some.injEq, Addr.mk.injEq] at e
  obtain ⟨⟨rfl, _, _⟩, _, _⟩ := e
  intro j hj
  have hadd : (⟨g, 0, none⟩ : Addr).add j = ⟨g, j, none⟩ := by unfold Addr.add; split <;> simp_all
  rw [hadd, cell_of_row w g j cur 5 fz hk]
  have := congrArg (fun t => t[j]?) ht
  simp only [List.getElem?_take, hj, if_true, List.getElem?_map, List.getElem?_eq_getElem hj, Option.map_some] at this
  simpa using this

theorem ByteRow.shape {w : World} {base : Nat} {v : Value} {l : List UInt8} (h : ByteRow w base v l) : ∃ g cap, v = .slice (some ⟨g, 0, none⟩) l.length cap := by
  obtain ⟨g, cap, cur, fz, e, _⟩ := h
  exact ⟨g, cap, e⟩

theorem info5 : (Try.prog.info? 5).map (fun i => (i.zero, i.size, i.bytes)) = some (some (.int .u8 0), 1, 1) := by kernel_rfl

/-- One byte is appended. -/
theorem append_byte {w : World} {base : Nat} {v : Value} {l : List UInt8} (h : ByteRow w base v l) (b : UInt8) (hb : base ≤ w.heap.size) (hl : l.length ≤ 8388608) (ad : Addr) (c : Nat) (hc : w.cell? ad = some (bv b)) :
    ∃ v' w', (Builtin.append_ #[45, 45] 45 #[v, .slice (some ad) 1 c]).run Try.prog w = .ok v' w' ∧ ByteRow w' base v' (l ++ [b]) ∧ Below base w w' := by
  obtain ⟨i0, hi, hz0, hz1, hz2⟩ := info_parts info5
  have hcl := h
  obtain ⟨g, cap, cur, fz, rfl, hg, hk, hs, hlc, ht, hf⟩ := h
  have hnews : ∀ j u, [bv b][j]? = some u → w.cell? (ad.add j) = some u := by
    intro j u hj
    match j, hj with
    | 0, hj => simp at hj; subst hj; simpa [Addr.add] using hc
    | j + 1, hj => simp at hj
  by_cases hr : l.length + 1 ≤ cap
  · have hrun := run_append_room_cells (P := Try.prog) w 45 45 5 i0 Try.underlying45 hi g 0 l.length cap ad 1 c [bv b] (by simp [hz1]) hnews (by simp [Value.oneCell', bv]) hr
      (fun j hj => by
        simp at hj; subst hj
        rw [cell_of_row w g _ cur 5 fz hk, hz1]
        simp
        omega)
      (fun j hj => by
        simp at hj; subst hj
        rw [hz1]
        simp [World.frozen?, hk]
        omega)
    refine ⟨_, _, hrun, ?_, ?_⟩
    · refine ⟨g, cap, cur.setIfInBounds l.length (bv b), fz, by simp, hg, ?_, by simp [hs], by simp; omega, ?_, by simp; omega⟩
      · rw [hz1]
        show (w.heap.modify g _)[g]? = _
        obtain ⟨hlt, hkk⟩ := Array.getElem?_eq_some_iff.1 hk
        rw [Array.getElem?_eq_getElem (by rw [Array.size_modify]; exact hlt), Array.getElem_modify_self, hkk]
        simp
      · rw [Array.toList_setIfInBounds, List.length_append, List.length_singleton, List.map_append, ← ht]
        rw [List.take_succ_eq_append_getElem (by simp; omega), List.take_set_of_le (Nat.le_refl _)]
        simp
    · rw [hz1]
      exact (Below.refl base w).setCell (p := ⟨g, 0 + l.length * 1, none⟩) hg _
  · obtain ⟨v', w', hrun, hown, hgr⟩ := run_append_arg_grows (P := Try.prog) w 45 45 5 i0 (.int .u8 0) 1 1 Try.underlying45 hi hz0 hz1 hz2 rfl (by decide) ⟨g, 0, none⟩ l.length cap (l.map bv) (by simp)
      (fun j u hu => by
        obtain ⟨hj, rfl⟩ := List.getElem?_eq_some_iff.1 hu
        have := hcl.cells j (by simpa using hj)
        simpa using this) ad 1 c [bv b] (by simp) hnews (by omega) (by unfold maxLen; omega) (by omega)
    refine ⟨v', w', hrun, ?_, (Below.refl base w).grown hgr hb (fun k e => by cases e)⟩
    rcases hown.2 with ⟨_, h0⟩ | ⟨g', cap', cur', rfl, hg', hk', hn', hm', hs', ht'⟩
    · omega
    · exact ⟨g', cap', cur', (0, 0), by simp, by omega, hk', by omega, by simp; omega, by simpa using ht', .inl (Nat.zero_le _)⟩

/-- A text turned into bytes. -/
theorem conv_row (w : World) (t : ByteArray) : ByteRow (Lib.bytesWorld w 5 t) w.heap.size (.slice (some ⟨w.heap.size, 0, none⟩) t.size (grownCap w t.size 0 5)) t.data.toList := by
  have eL : t.data.toList.length = t.size := by rw [Array.length_toList]; rfl
  have hge := grownCap_ge w t.size 0 5
  have hsz : (Lib.bytesCells w 5 t).size = grownCap w t.size 0 5 := by
    unfold Lib.bytesCells
    have : t.data.size = t.size := rfl
    simp
    omega
  refine ⟨w.heap.size, grownCap w t.size 0 5, Lib.bytesCells w 5 t, _, by rw [eL], Nat.le_refl _, Lib.bytesWorld_at_new w 5 t, hsz, by omega, ?_, .inr (by rw [hsz]; exact Nat.le_refl _)⟩
  unfold Lib.bytesCells
  have : t.data.size = t.size := rfl
  rw [eL, Array.toList_append, List.take_append_of_le_length (by simp), List.take_of_length_le (by simp)]
  simp

theorem conv_below (w : World) (t : ByteArray) : Below w.heap.size w (Lib.bytesWorld w 5 t) :=
  ⟨by simp [Lib.bytesWorld, World.freeze]; rfl, by simp [Lib.bytesWorld, World.freeze], by simp [Lib.bytesWorld, World.freeze]; rfl, by rw [Lib.bytesWorld_size]; omega, fun k hk => Lib.bytesWorld_at_old w 5 t k hk⟩

/-- An append whose run is known, in the walk. -/
theorem wpList_run {P : Program} {ops : Array Oper} {rest : List Oper} {o : Oper} {a : Act} {w : World} {Q : Exit → Act → World → Prop}
    (hg : o.guard = none) (s x : Operand) (t : TypeId) (hop : o.op = Op.call { callee := Callee.builtin Builtin.append, args := #[s, x], argTypes := #[t, t] })
    (v xv v' : Value) (w' : World) (hs : a.eval s = v) (hx : a.eval x = xv) (hrun : (Builtin.append_ #[t, t] o.type #[v, xv]).run P w = .ok v' w') (hK : wpList P ops Q rest (a.put o.dst v') w') :
    wpList P ops Q (o :: rest) a w := by
  refine wpList_plain hg fun K hK' => ?_
  unfold Oper.wp
  simp [execOp, hop, resolve, invoke, builtin, hs, hx, hrun, Result.andThen]
  exact hK' _ _ hK
end Go.Proofs.Ytmcjcgodapkkpaa
