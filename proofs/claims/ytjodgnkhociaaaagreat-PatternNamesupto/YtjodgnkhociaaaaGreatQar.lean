/- New, Meta. -/
import Derived.Maps.OwnSet
import Derived.Maps.AppendAt
import Derived.Test.YtjodgnkhociaaaaGreatQaq
import Derived.Test.YtjodgnkhociaaaaGreatQag
import Derived.Test.YtjodgnkhociaaaaGreatQaf
namespace Go.Proofs.YtjodgnkhociaaaaGreat
open Go.RowKit
set_option linter.unusedVariables false
set_option linter.unusedSimpArgs false

theorem zero_fp (w : World) : (zeroValue 135).run Tryz.prog w = .ok (.pointer none) w := by kernel_rfl
theorem fit_none (R : Value → Option (DataW Unit × List MemPlace)) : WideElems.Fit Tryz.prog 3 R #[] 0 := ⟨by simp, MapKept.stamped_empty 0, by simp⟩
/-- An empty map. -/
abbrev Em (w : World) (M : Nat) : Prop := w.heap[M]? = some (.map #[] 0)
theorem Em.stays {w w' : World} {M : Nat} (h : Em w M) (hb : Below w.heap.size w w') : Em w' M := by
  have hl : M < w.heap.size := by
    rcases Nat.lt_or_ge M w.heap.size with h1 | h1
    · exact h1
    · unfold Em at h; rw [Array.getElem?_eq_none h1] at h; cases h
  unfold Em; rw [hb.block M hl]; exact h
theorem look_empty {w : World} {M : Nat} (h : Em w M) (n : Int) (hn : R64 n) : (Instr.lookup 77 (.map (some M)) (.int .i64 n) false).run Tryz.prog w = .ok (.pointer none) w := by
  have hw : (Lit.int .i64 n).wf = true := by obtain ⟨a, b⟩ := hn; simp [Lit.wf, IntKind.min, IntKind.max, IntKind.signed, IntKind.bits]; omega
  rcases Maps.fit_look false int_key Tryz.underlying77 (zero_fp w) h (fit_none (fun _ => none)) (Maps.keyOf_int_mk Tryz.underlying3 hw) with ⟨h1, -⟩ | ⟨e0, y, h1, -⟩
  · exact h1
  · simp at h1
theorem set_same {w : World} {b : Nat} {o : Obj} (h : w.heap[b]? = some o) : ChangeMaps.setBlock w b o = w := by
  have h2 : w.heap.setIfInBounds b o = w.heap := by
    apply Array.ext_getElem?
    intro i
    rw [Array.getElem?_setIfInBounds]
    by_cases he : b = i
    · subst he
      obtain ⟨hl, hv⟩ := Array.getElem?_eq_some_iff.1 h
      simp [hl, hv]
    · simp [he]
  unfold ChangeMaps.setBlock
  rw [h2]
theorem del_empty {w : World} {M : Nat} (h : Em w M) (n : Int) (hn : R64 n) (ty : TypeId) : (Builtin.delete_ #[77, 3] ty #[.map (some M), .int .i64 n]).run Tryz.prog w = .ok (.tuple #[]) w := by
  have hw : (Lit.int .i64 n).wf = true := by obtain ⟨a, b⟩ := hn; simp [Lit.wf, IntKind.min, IntKind.max, IntKind.signed, IntKind.bits]; omega
  obtain ⟨es', h1, -, h2, -⟩ := Maps.fit_drop (ty := ty) int_key Tryz.underlying77 h (fit_none (fun _ => none)) (Maps.keyOf_int_mk Tryz.underlying3 hw)
  have : es' = #[] := by simpa using h2
  subst this
  rw [h1, set_same h]

set_option maxRecDepth 100000 in
theorem New_any (w : World) : Calls Tryz.prog 12 #[] w fun e w' => e = .returned (.pointer (some ⟨w.heap.size + 1, 0, none⟩)) ∧ w' = (w.alloc (.map #[] 0)).alloc (.cells #[.slice none 0 0, .map (some w.heap.size)] ST) := by
  have hmm := @run_makeMap Tryz.prog
  go_enter Tryz.func12, Tryz.ntmps12
  go_wp2
  go_ret
  exact ⟨by simp, rfl⟩
/-- A store whose metas are all open, nothing being known. -/
structure StoN (W : World) (S M base : Nat) (v : Value) (n : Nat) : Prop where
  st : Arr W S ST [v, .map (some M)]
  em : Em W M
  own : W.ownsRow base PT 1 v n (List.replicate n (.pointer none))
  lo : S < base
  ms : M < S
  le : base ≤ W.heap.size
theorem StoN.stays {W W' : World} {S M base n : Nat} {v : Value} (h : StoN W S M base v n) (hb : Below W.heap.size W W') : StoN W' S M base v n := ⟨h.st.stays hb, h.em.stays hb, own_stays h.own hb, h.lo, h.ms, Nat.le_trans h.le hb.size⟩
theorem info_fp : (Tryz.prog.info? 135).map (fun i => (i.zero, i.size, i.bytes)) = some (some (.pointer none), 1, 8) := by kernel_rfl
theorem wpList_del {P : Program} {ops : Array Oper} {rest : List Oper} {o : Oper} {a : Act} {w : World} {Q : Exit → Act → World → Prop} (hgd : o.guard = none) (s x : Operand) (t k : TypeId)
    (ho : o.op = .call { callee := .builtin .delete, args := #[s, x], argTypes := #[t, k] }) (v vx : Value) (hs : a.eval s = v) (hx : a.eval x = vx) (w' : World)
    (hr : (Builtin.delete_ #[t, k] o.type #[v, vx]).run P w = .ok (.tuple #[]) w') (h : wpList P ops Q rest (a.put o.dst (.tuple #[])) w') : wpList P ops Q (o :: rest) a w := by
  refine wpList_plain hgd fun _ hK => ?_
  unfold Oper.wp execOp
  simp only [ho, resolve, invoke, builtin, Sem.run_bind, Sem.run_pure, Result.andThen_ok, List.map_toArray, List.map_cons, List.map_nil, hs, hx, hr]
  exact hK _ _ h
theorem StoN.other {W : World} {S M base n : Nat} {v : Value} (h : StoN W S M base v n) {p : Addr} (h1 : S ≠ p.block) (h2 : M ≠ p.block) (h3 : v.ownBlock ≠ some p.block) (u : Value) : StoN (W.setCell p u) S M base v n :=
  ⟨h.st.other h1 u, (Below.heap_setCell _ _ _ _ h2).trans h.em, h.own.kept (row := some p.block) ⟨rfl, rfl, rfl, by simp [World.setCell], fun b _ hb => Below.heap_setCell _ _ _ _ (fun e => hb (by simp [e]))⟩ (Or.inr h3), h.lo, h.ms, (by simp [World.setCell]; exact h.le)⟩
theorem app_fp (wd : World) (S M base : Nat) (n : Nat) (a : Option Addr) (c : Nat) (HD : StoN wd S M base (.slice a n c) n) (hn : n ≤ 1000) : ∃ a' c' w', (Builtin.append_ #[78, 78] 78 #[.slice a n c, .slice (some ⟨wd.heap.size, 0, none⟩) 1 1]).run Tryz.prog (wd.alloc (.cells #[.pointer none] PT)) = .ok (.slice a' (n + 1) c') w' ∧ w'.ownsRow base PT 1 (.slice a' (n + 1) c') (n + 1) (List.replicate (n + 1) (.pointer none)) ∧ Below base (wd.alloc (.cells #[.pointer none] PT)) w' ∧ wd.heap.size + 1 ≤ w'.heap.size ∧ (wd.alloc (.cells #[.pointer none] PT)).grownBy w' (Value.slice a n c).ownBlock ∧ ((Value.slice a' (n + 1) c').ownBlock = (Value.slice a n c).ownBlock ∨ (Value.slice a' (n + 1) c').ownBlock = some (wd.heap.size + 1)) := by
  obtain ⟨i0, hi0, hz0, hz1, hz2⟩ := info_parts0 info_fp
  have HA := bl_alloc (Below.refl wd.heap.size wd) (.cells #[.pointer none] PT)
  have hbk : ∀ b, (Value.slice a n c).ownBlock = some b → base ≤ b := fun b hb => (HD.own.lt b hb).1
  obtain ⟨v', w', hr, ho', hg', -, hob⟩ := run_append_own_at (P := Tryz.prog) (w := wd.alloc (.cells #[.pointer none] PT)) base 78 78 PT i0 (.pointer none) 1 8 Tryz.underlying78 hi0 hz0 hz1 hz2 rfl (by decide) (.slice a n c) n _ (HD.stays HA).own ⟨wd.heap.size, 0, none⟩ 1 1 [.pointer none] rfl
    (fun j u hj => by
      match j, hj with
      | 0, hj =>
        simp at hj
        subst hj
        have h1 := heap_alloc_at wd (.cells #[.pointer none] PT)
        have h2 : (⟨wd.heap.size, 0, none⟩ : Addr).add 0 = ⟨wd.heap.size, 0, none⟩ := by simp [Addr.add]
        rw [h2, cell_at h1]
        rfl
      | j + 1, hj => simp at hj) (fun u hu => by simp at hu; subst hu; rfl) (by unfold maxLen; omega) (by omega) (by have := (HD.stays HA).le; exact this)
  obtain ⟨a', c', rfl⟩ := own_form ho'
  refine ⟨a', c', w', hr, ?_, ⟨hg'.os, hg'.tape, hg'.output, hg'.size, fun k hk => hg'.block k (by have := HD.le; rw [size_alloc]; omega) (fun e => by have := hbk k e.symm; omega)⟩, by have := hg'.size; rw [size_alloc] at this; exact this, hg', by rw [size_alloc] at hob; exact hob⟩
  rw [List.replicate_succ']
  exact ho'

set_option maxHeartbeats 2000000 in
set_option maxRecDepth 100000 in
theorem Meta_any (w : World) (S M base : Nat) (v : Value) (n : Nat) (h : StoN w S M base v n) (hn : n ≤ 1000) : Calls Tryz.prog 45 #[.pointer (some ⟨S, 0, none⟩)] w fun e w' => e = .returned (.agg #[.int .i64 7, .int .i64 (n : Int), .slice none 0 0]) ∧ (∃ v', StoN w' S M base v' (n + 1)) ∧ Below S w w' := by
  obtain ⟨a, c, rfl⟩ : ∃ a c, v = .slice a n c := own_form h.own
  have hR : R64 (n : Int) := ⟨by omega, by omega⟩
  have HD0 : Hid (StoN (w.alloc (.cells #[.int .i64 0, .int .i64 0, .slice none 0 0] 47)) S M base (.slice a n c) n) := h.stays (bl_alloc (Below.refl _ _) _)
  have HD := hid (HD0.out.stays (Below.refl _ _).drew)
  have hSw : S < w.heap.size := h.st.lt
  have HBW : Hid (Below w.heap.size w (w.alloc (.cells #[.int .i64 0, .int .i64 0, .slice none 0 0] 47)).drew) := (bl_alloc (Below.refl _ _) _).drew
  have HRB : Hid (Arr (w.alloc (.cells #[.int .i64 0, .int .i64 0, .slice none 0 0] 47)).drew w.heap.size 47 [.int .i64 0, .int .i64 0, .slice none 0 0]) := Arr.stays (w := (w.alloc (.cells #[.int .i64 0, .int .i64 0, .slice none 0 0] 47))) ⟨heap_alloc_at _ _⟩ (Below.refl _ _).drew
  obtain ⟨a', c', w', hr, ho', hb', hsz, hgr, hob⟩ := app_fp _ S M base n a c HD.out hn
  have HO := hid ho'
  have HBL := hid hb'
  have hlo := h.lo
  have hms := h.ms
  have l0 : (w.alloc (.cells #[.int .i64 0, .int .i64 0, .slice none 0 0] 47)).drew.cell? ⟨S, 0, none⟩ = some (.slice a n c) := HD.out.st.cell 0
  have lc : ∀ o, ((w.alloc (.cells #[.int .i64 0, .int .i64 0, .slice none 0 0] 47)).drew.alloc o).cell? ⟨S, 0, none⟩ = some (.slice a n c) := fun o => (HD.out.stays (bl_alloc (Below.refl _ _) o)).st.cell 0
  have lc1 : ∀ o, ((w.alloc (.cells #[.int .i64 0, .int .i64 0, .slice none 0 0] 47)).drew.alloc o).cell? ⟨S, 1, none⟩ = some (.map (some M)) := fun o => (HD.out.stays (bl_alloc (Below.refl _ _) o)).st.cell 1
  have hs0 : Hid ((w.alloc (.cells #[.int .i64 0, .int .i64 0, .slice none 0 0] 47)).drew.cell? ⟨S, 1, none⟩ = some (.map (some M)) ∧ Em (w.alloc (.cells #[.int .i64 0, .int .i64 0, .slice none 0 0] 47)).drew M) := ⟨HD.out.st.cell 1, HD.out.em⟩
  have HSA : Hid (Arr w' S ST [.slice a n c, .map (some M)]) := ⟨(HBL.out.block S hlo).trans (HD.out.stays (bl_alloc (Below.refl _ _) (.cells #[.pointer none] PT))).st.b⟩
  have HEM : Hid (Em w' M) := (HBL.out.block M (by omega)).trans (HD.out.stays (bl_alloc (Below.refl _ _) (.cells #[.pointer none] PT))).em
  have hs2 : Hid (w'.cell? ⟨S, 1, none⟩ = some (.map (some M)) ∧ Em w' M) := ⟨HSA.out.cell 1, HEM.out⟩
  have HS3 : Hid (Arr (w'.setCell ⟨S, 0, none⟩ (.slice a' (n + 1) c')) S ST [.slice a' (n + 1) c', .map (some M)]) := HSA.out.set 0 _
  have HE3 : Hid (Em (w'.setCell ⟨S, 0, none⟩ (.slice a' (n + 1) c')) M) := (Below.heap_setCell _ _ _ _ (fun e => by have e : M = S := e; omega)).trans HEM.out
  have hs3 : Hid ((w'.setCell ⟨S, 0, none⟩ (.slice a' (n + 1) c')).cell? ⟨S, 1, none⟩ = some (.map (some M)) ∧ Em (w'.setCell ⟨S, 0, none⟩ (.slice a' (n + 1) c')) M) := ⟨HS3.out.cell 1, HE3.out⟩
  have fz := HSA.out.frozen
  have sc0 := HSA.out.cell
  have HRA : Hid (Arr w' w.heap.size 47 [.int .i64 0, .int .i64 0, .slice none 0 0]) := ⟨(hgr.block w.heap.size (by rw [size_alloc]; have := HBW.out.size; have := HRB.out.lt; omega) (fun e => by have := (h.own.lt _ e.symm).2; omega)).trans (HRB.out.stays (bl_alloc (Below.refl _ _) (.cells #[.pointer none] PT))).b⟩
  have c0 := HD0.out.st.cell
  have hnl : (n : Int) ≤ 1000 := by omega
  have HO7 : Hid ((w'.setCell ⟨S, 0, none⟩ (.slice a' (n + 1) c')).ownsRow base PT 1 (.slice a' (n + 1) c') (n + 1) (List.replicate (n + 1) (.pointer none))) := HO.out.kept (row := some S) ⟨rfl, rfl, rfl, by simp [World.setCell], fun b _ hb => Below.heap_setCell _ _ _ _ (fun e => hb (by simp [e]))⟩ (Or.inr (fun e => by have := (HO.out.lt _ e).1; omega))
  have HR7 : Hid (Arr (w'.setCell ⟨S, 0, none⟩ (.slice a' (n + 1) c')) w.heap.size 47 [.int .i64 0, .int .i64 0, .slice none 0 0]) := HRA.out.other (p := ⟨S, 0, none⟩) (by show ¬ _ = S; omega) _
  have bb1 : Below S w (w.alloc (.cells #[.int .i64 0, .int .i64 0, .slice none 0 0] 47)).drew := HBW.out.mono (by omega)
  have bb2 : Below S (w.alloc (.cells #[.int .i64 0, .int .i64 0, .slice none 0 0] 47)).drew ((w.alloc (.cells #[.int .i64 0, .int .i64 0, .slice none 0 0] 47)).drew.alloc (.cells #[.pointer none] PT)) := (bl_alloc (Below.refl _ _) (.cells #[.pointer none] PT)).mono (by have := HBW.out.size; omega)
  have bb3 : Below S ((w.alloc (.cells #[.int .i64 0, .int .i64 0, .slice none 0 0] 47)).drew.alloc (.cells #[.pointer none] PT)) w' := HBL.out.mono (by omega)
  have HB7 : Hid (Below S w (w'.setCell ⟨S, 0, none⟩ (.slice a' (n + 1) c'))) := ((bb1.trans bb2).trans bb3).setCell (p := ⟨S, 0, none⟩) (Nat.le_refl _) _
  have HNB : Hid ((Value.slice a' (n + 1) c').ownBlock ≠ some w.heap.size) := by
    intro e
    rcases hob with h1 | h1
    · rw [h1] at e
      have := (h.own.lt _ e).2
      omega
    · rw [h1] at e
      injection e with e
      have := HBW.out.size
      have := HRB.out.lt
      omega
  have HLE : Hid (base ≤ (w'.setCell ⟨S, 0, none⟩ (.slice a' (n + 1) c')).heap.size) := by
    have h1 : (w'.setCell ⟨S, 0, none⟩ (.slice a' (n + 1) c')).heap.size = w'.heap.size := by simp [World.setCell]
    have := h.le
    have := HBW.out.size
    show base ≤ _
    rw [h1]
    omega
  clear h ho' hb' hgr hsz hob bb1 bb2 bb3
  go_enter Tryz.func45, Tryz.ntmps45
  go_wp2
  refine wp_region_held_drew (S := fun wz => wz.cell? ⟨S, 1, none⟩ = some (.map (some M)) ∧ Em wz M) (by kernel_rfl) (hs0.out) (fun hS => ?_)
  generalize (w.alloc (.cells #[.int .i64 0, .int .i64 0, .slice none 0 0] 47)).drew = wd at hS HD hr HBL HBW HRB l0 lc lc1 ⊢
  refine wpAnyH_take (i := 0) (v := ?_) rfl (by kernel_rfl) (by kernel_rfl) (by kernel_rfl) (fun _ _ _ h => h) (Or.inl ⟨by rfl, ?_⟩) hS ?_
  rotate_left
  · intro wz hz; go_simp; try with_reducible rfl
  try simp only [Act.put, List.setIfInBounds_toArray, List.set_cons_zero, List.set_cons_succ, List.getElem_toArray, List.getElem_cons_succ, List.getElem_cons_zero]
  refine wpAnyH_take (i := 1) (v := ?_) rfl (by kernel_rfl) (by kernel_rfl) (by kernel_rfl) (fun _ _ _ h => h) (Or.inl ⟨by rfl, ?_⟩) hS ?_
  rotate_left
  · intro wz hz; go_simp; try with_reducible rfl
  try simp only [Act.put, List.setIfInBounds_toArray, List.set_cons_zero, List.set_cons_succ, List.getElem_toArray, List.getElem_cons_succ, List.getElem_cons_zero]
  refine wpAnyH_take (i := 2) (v := ?_) rfl (by kernel_rfl) (by kernel_rfl) (by kernel_rfl) (fun _ _ _ h => h) (Or.inl ⟨by rfl, ?_⟩) hS ?_
  rotate_left
  · intro wz hz; go_simp; try with_reducible rfl
  try simp only [Act.put, List.setIfInBounds_toArray, List.set_cons_zero, List.set_cons_succ, List.getElem_toArray, List.getElem_cons_succ, List.getElem_cons_zero]
  refine wpAnyH_take (i := 3) (v := ?_) rfl (by kernel_rfl) (by kernel_rfl) (by kernel_rfl) (fun _ _ _ h => h) (Or.inl ⟨by rfl, ?_⟩) hS ?_
  rotate_left
  · intro wz hz; go_simp; try with_reducible rfl
  try simp only [Act.put, List.setIfInBounds_toArray, List.set_cons_zero, List.set_cons_succ, List.getElem_toArray, List.getElem_cons_succ, List.getElem_cons_zero]
  refine wpAnyH_take (i := 5) (v := ?_) rfl (by kernel_rfl) (by kernel_rfl) (by kernel_rfl) (fun _ _ _ h => h) (Or.inl ⟨by rfl, ?_⟩) hS ?_
  rotate_left
  · intro wz hz; go_simp; try with_reducible rfl
  try simp only [Act.put, List.setIfInBounds_toArray, List.set_cons_zero, List.set_cons_succ, List.getElem_toArray, List.getElem_cons_succ, List.getElem_cons_zero]
  refine wpAnyH_take (i := 6) (v := ?_) rfl (by kernel_rfl) (by kernel_rfl) (by kernel_rfl) (fun _ _ _ h => h) (Or.inl ⟨by rfl, ?_⟩) hS ?_
  rotate_left
  · intro wz hz; go_simp; try with_reducible rfl
  try simp only [Act.put, List.setIfInBounds_toArray, List.set_cons_zero, List.set_cons_succ, List.getElem_toArray, List.getElem_cons_succ, List.getElem_cons_zero]
  refine wpAnyH_take (i := 7) (v := ?_) rfl (by kernel_rfl) (by kernel_rfl) (by kernel_rfl) (fun _ _ _ h => h) (Or.inl ⟨by rfl, ?_⟩) hS ?_
  rotate_left
  · intro wz hz; go_simp; try with_reducible rfl
  try simp only [Act.put, List.setIfInBounds_toArray, List.set_cons_zero, List.set_cons_succ, List.getElem_toArray, List.getElem_cons_succ, List.getElem_cons_zero]
  refine wpAnyH_take (i := 8) (v := ?_) rfl (by kernel_rfl) (by kernel_rfl) (by kernel_rfl) (fun _ _ _ h => h) (Or.inl ⟨by rfl, ?_⟩) hS ?_
  rotate_left
  · intro wz hz; obtain ⟨yy0, yy1⟩ := hz; have yy2 := look_empty yy1 (n : Int) hR; go_simp; try with_reducible rfl
  try simp only [Act.put, List.setIfInBounds_toArray, List.set_cons_zero, List.set_cons_succ, List.getElem_toArray, List.getElem_cons_succ, List.getElem_cons_zero]
  refine wpAnyH_take (i := 9) (v := ?_) rfl (by kernel_rfl) (by kernel_rfl) (by kernel_rfl) (fun _ _ _ h => h) (Or.inl ⟨by rfl, ?_⟩) hS ?_
  rotate_left
  · intro wz hz; go_simp; try with_reducible rfl
  try simp only [Act.put, List.setIfInBounds_toArray, List.set_cons_zero, List.set_cons_succ, List.getElem_toArray, List.getElem_cons_succ, List.getElem_cons_zero]
  refine wpAnyH_take (i := 10) (v := ?_) rfl (by kernel_rfl) (by kernel_rfl) (by kernel_rfl) (fun _ _ _ h => h) (Or.inl ⟨by rfl, ?_⟩) hS ?_
  rotate_left
  · intro wz hz; obtain ⟨yy0, yy1⟩ := hz; have yy2 := look_empty yy1 (n : Int) hR; go_simp; try with_reducible rfl
  try simp only [Act.put, List.setIfInBounds_toArray, List.set_cons_zero, List.set_cons_succ, List.getElem_toArray, List.getElem_cons_succ, List.getElem_cons_zero]
  refine wpAnyH_ready (rs := [4, 11]) (by kernel_rfl) (by simp) (AllReadyH.cons rfl (fun K hK => ?a1_4) (AllReadyH.cons rfl (fun K hK => ?a1_11) AllReadyH.nil))
  case' a1_4 =>
    go_simp
    refine hK.out _ _ (hS) (fun hSn => ?_)
    clear hK K hS
    have hS := hSn
    clear hSn
    try simp only [Act.put, List.setIfInBounds_toArray, List.set_cons_zero, List.set_cons_succ, List.getElem_toArray, List.getElem_cons_succ, List.getElem_cons_zero]
    refine wpAnyH_ready (rs := [11]) (by kernel_rfl) (by simp) (AllReadyH.cons rfl (fun K hK => ?a2_11) AllReadyH.nil)
    case' a2_11 =>
      go_simp
      refine hK.out _ _ (⟨lc1 _, hS.2.stays (bl_alloc (Below.refl _ _) _)⟩) (fun hSn => ?_)
      clear hK K hS
      have hS := hSn
      clear hSn
      try simp only [Act.put, List.setIfInBounds_toArray, List.set_cons_zero, List.set_cons_succ, List.getElem_toArray, List.getElem_cons_succ, List.getElem_cons_zero]
      refine wpAnyH_ready (rs := [12]) (by kernel_rfl) (by simp) (AllReadyH.cons rfl (fun K hK => ?a3_12) AllReadyH.nil)
      case' a3_12 =>
        refine step_app_eq rfl _ _ _ rfl _ _ rfl rfl _ _ hr ?_
        refine hK.out _ _ (hs2.out) (fun hSn => ?_)
        clear hK K hS
        have hS := hSn
        clear hSn
        try simp only [Act.put, List.setIfInBounds_toArray, List.set_cons_zero, List.set_cons_succ, List.getElem_toArray, List.getElem_cons_succ, List.getElem_cons_zero]
        refine wpAnyH_take (i := 13) (v := ?_) rfl (by kernel_rfl) (by kernel_rfl) (by kernel_rfl) (fun _ _ _ h => h) (Or.inl ⟨by rfl, ?_⟩) hS ?_
        rotate_left
        · intro wz hz; go_simp; try with_reducible rfl
        try simp only [Act.put, List.setIfInBounds_toArray, List.set_cons_zero, List.set_cons_succ, List.getElem_toArray, List.getElem_cons_succ, List.getElem_cons_zero]
        refine wpAnyH_take (i := 14) (v := ?_) rfl (by kernel_rfl) (by kernel_rfl) (by kernel_rfl) (fun _ _ _ h => h) (Or.inl ⟨by rfl, ?_⟩) hS ?_
        rotate_left
        · intro wz hz; go_simp; try with_reducible rfl
        try simp only [Act.put, List.setIfInBounds_toArray, List.set_cons_zero, List.set_cons_succ, List.getElem_toArray, List.getElem_cons_succ, List.getElem_cons_zero]
        refine wpAnyH_ready (rs := [15]) (by kernel_rfl) (by simp) (AllReadyH.cons rfl (fun K hK => ?a4_15) AllReadyH.nil)
        case' a4_15 =>
          go_simp
          refine hK.out _ _ (hs3.out) (fun hSn => ?_)
          clear hK K hS
          have hS := hSn
          clear hSn
          try simp only [Act.put, List.setIfInBounds_toArray, List.set_cons_zero, List.set_cons_succ, List.getElem_toArray, List.getElem_cons_succ, List.getElem_cons_zero]
          refine wpAnyH_done (by kernel_rfl) ?_ _
  case' a1_11 =>
    go_simp
    refine hK.out _ _ (⟨lc1 _, hS.2.stays (bl_alloc (Below.refl _ _) _)⟩) (fun hSn => ?_)
    clear hK K hS
    have hS := hSn
    clear hSn
    try simp only [Act.put, List.setIfInBounds_toArray, List.set_cons_zero, List.set_cons_succ, List.getElem_toArray, List.getElem_cons_succ, List.getElem_cons_zero]
    refine wpAnyH_ready (rs := [4]) (by kernel_rfl) (by simp) (AllReadyH.cons rfl (fun K hK => ?a5_4) AllReadyH.nil)
    case' a5_4 =>
      go_simp
      refine hK.out _ _ (hS) (fun hSn => ?_)
      clear hK K hS
      have hS := hSn
      clear hSn
      try simp only [Act.put, List.setIfInBounds_toArray, List.set_cons_zero, List.set_cons_succ, List.getElem_toArray, List.getElem_cons_succ, List.getElem_cons_zero]
      refine wpAnyH_ready (rs := [12]) (by kernel_rfl) (by simp) (AllReadyH.cons rfl (fun K hK => ?a6_12) AllReadyH.nil)
      case' a6_12 =>
        refine step_app_eq rfl _ _ _ rfl _ _ rfl rfl _ _ hr ?_
        refine hK.out _ _ (hs2.out) (fun hSn => ?_)
        clear hK K hS
        have hS := hSn
        clear hSn
        try simp only [Act.put, List.setIfInBounds_toArray, List.set_cons_zero, List.set_cons_succ, List.getElem_toArray, List.getElem_cons_succ, List.getElem_cons_zero]
        refine wpAnyH_take (i := 13) (v := ?_) rfl (by kernel_rfl) (by kernel_rfl) (by kernel_rfl) (fun _ _ _ h => h) (Or.inl ⟨by rfl, ?_⟩) hS ?_
        rotate_left
        · intro wz hz; go_simp; try with_reducible rfl
        try simp only [Act.put, List.setIfInBounds_toArray, List.set_cons_zero, List.set_cons_succ, List.getElem_toArray, List.getElem_cons_succ, List.getElem_cons_zero]
        refine wpAnyH_take (i := 14) (v := ?_) rfl (by kernel_rfl) (by kernel_rfl) (by kernel_rfl) (fun _ _ _ h => h) (Or.inl ⟨by rfl, ?_⟩) hS ?_
        rotate_left
        · intro wz hz; go_simp; try with_reducible rfl
        try simp only [Act.put, List.setIfInBounds_toArray, List.set_cons_zero, List.set_cons_succ, List.getElem_toArray, List.getElem_cons_succ, List.getElem_cons_zero]
        refine wpAnyH_ready (rs := [15]) (by kernel_rfl) (by simp) (AllReadyH.cons rfl (fun K hK => ?a7_15) AllReadyH.nil)
        case' a7_15 =>
          go_simp
          refine hK.out _ _ (hs3.out) (fun hSn => ?_)
          clear hK K hS
          have hS := hSn
          clear hSn
          try simp only [Act.put, List.setIfInBounds_toArray, List.set_cons_zero, List.set_cons_succ, List.getElem_toArray, List.getElem_cons_succ, List.getElem_cons_zero]
          refine wpAnyH_done (by kernel_rfl) ?_ _
  all_goals (
    clear hr HD HD0 l0 lc lc1 hs0 hs2 hs3 fz sc0 HSA HEM HRA c0 HBL HBW HRB HO hS
    generalize w'.setCell ⟨S, 0, none⟩ (.slice a' (n + 1) c') = w7 at HS3 HE3 HO7 HR7 HB7 HLE ⊢
    have hd := del_empty HE3.out (n : Int) hR
    have s7 := HS3.out.cell
    have hme : Hid (Calls Tryz.prog 51 #[.int .i64 (n : Int)] w7 fun e w' => e = .returned (.agg #[.int .i64 7, .int .i64 (n : Int), .slice none 0 0]) ∧ Below w7.heap.size w7 w') := meta_any w7 n
    go_wp2_with (first
      | (at_builtin; refine wpList_del rfl _ _ _ _ rfl _ _ rfl rfl _ (hd _) ?_)
      | (go_at_call 51; refine hme.out.mono ?_; rintro e w8 ⟨rfl, b8⟩; have r8 := (HR7.out.stays b8).cell; have f8 := (HR7.out.stays b8).frozen; have HB8 := hid b8; clear b8))
    refine bodyPost_ret (v := .agg #[.int .i64 7, .int .i64 (n : Int), .slice none 0 0]) (by rw [results_cell1 (fn := Tryz.f45) (p := 2) (ty := 47) (by kernel_rfl)]; simp [go_sem, r8, f8]) rfl ?_
    have HZ : StoN w8 S M base (.slice a' (n + 1) c') (n + 1) := StoN.stays ⟨HS3.out, HE3.out, HO7.out, hlo, hms, HLE.out⟩ HB8.out
    have nS : S ≠ w.heap.size := by omega
    have nM : M ≠ w.heap.size := by omega
    refine ⟨rfl, ⟨_, ((HZ.other (p := ⟨w.heap.size, 0, none⟩) nS nM HNB.out _).other (p := ⟨w.heap.size, 1, none⟩) nS nM HNB.out _).other (p := ⟨w.heap.size, 2, none⟩) nS nM HNB.out _⟩, ?_⟩
    refine (((HB7.out.trans (HB8.out.mono (by have := HB7.out.size; omega))).setCell (p := ⟨w.heap.size, 0, none⟩) ?_ _).setCell (p := ⟨w.heap.size, 1, none⟩) ?_ _).setCell (p := ⟨w.heap.size, 2, none⟩) ?_ _
    all_goals (show _ ≤ w.heap.size; omega))
end Go.Proofs.YtjodgnkhociaaaaGreat
