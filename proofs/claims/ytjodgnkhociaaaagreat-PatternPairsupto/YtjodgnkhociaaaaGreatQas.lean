/- A store that is open, wherever its list lies; Meta. pattern.constructorsOf of the two example patterns. -/
import Derived.Test.YtjodgnkhociaaaaGreatQar
import Derived.Test.YtjodgnkhociaaaaGreatQaq
namespace Go.Proofs.YtjodgnkhociaaaaGreat
open Go.RowKit
set_option linter.unusedVariables false
set_option linter.unusedSimpArgs false

structure StoG (W : World) (S M base : Nat) (v : Value) (n : Nat) : Prop where
  st : Arr W S ST [v, .map (some M)]
  em : Em W M
  own : W.ownsRow base PT 1 v n (List.replicate n (.pointer none))
  le : base ≤ W.heap.size
/-- What a step leaves alone: all blocks that were there but those of E. -/
structure Xf (E : Nat → Prop) (w w' : World) : Prop where
  os : w'.os = w.os
  tape : w'.tape = w.tape
  output : w'.output = w.output
  size : w.heap.size ≤ w'.heap.size
  block : ∀ k, k < w.heap.size → ¬ E k → w'.heap[k]? = w.heap[k]?
theorem Xf.of_below {E : Nat → Prop} {w w' : World} (h : Below w.heap.size w w') : Xf E w w' := ⟨h.os, h.tape, h.output, h.size, fun k hk _ => h.block k hk⟩
theorem Xf.trans {E : Nat → Prop} {a b c : World} (h : Xf E a b) (k : Xf E b c) : Xf E a c :=
  ⟨k.os.trans h.os, k.tape.trans h.tape, k.output.trans h.output, Nat.le_trans h.size k.size, fun x h1 h2 => (k.block x (Nat.lt_of_lt_of_le h1 h.size) h2).trans (h.block x h1 h2)⟩
theorem Xf.mono {E E' : Nat → Prop} {w w' : World} (h : Xf E w w') (hE : ∀ k, k < w.heap.size → E k → E' k) : Xf E' w w' := ⟨h.os, h.tape, h.output, h.size, fun k hk hn => h.block k hk (fun e => hn (hE k hk e))⟩
theorem Xf.tail {E E' : Nat → Prop} {a b c : World} (h : Xf E a b) (k : Xf E' b c) (hE : ∀ x, x < a.heap.size → E' x → E x) : Xf E a c :=
  ⟨k.os.trans h.os, k.tape.trans h.tape, k.output.trans h.output, Nat.le_trans h.size k.size, fun x h1 h2 => (k.block x (Nat.lt_of_lt_of_le h1 h.size) (fun e => h2 (hE x h1 e))).trans (h.block x h1 h2)⟩
theorem Xf.set {E : Nat → Prop} {w w1 : World} (h : Xf E w w1) {b : Nat} (hb : E b ∨ w.heap.size ≤ b) (j : Nat) (u : Value) : Xf E w (w1.setCell ⟨b, j, none⟩ u) :=
  ⟨h.os, h.tape, h.output, by simp [World.setCell]; exact h.size, fun k hk hn => (Below.heap_setCell _ _ _ _ (by show k ≠ b; rintro rfl; exact hb.elim hn (fun e => by omega))).trans (h.block k hk hn)⟩
theorem Xf.arr {E : Nat → Prop} {w w' : World} (h : Xf E w w') {b : Nat} {T : TypeId} {cur : List Value} (hA : Arr w b T cur) (hn : ¬ E b) : Arr w' b T cur := ⟨(h.block b hA.lt hn).trans hA.b⟩
theorem Xf.cells {E : Nat → Prop} {w w' : World} (h : Xf E w w') {b o : Nat} {vs : List Value} (hb : b < w.heap.size) (hc : Cells w b o vs) (hn : ¬ E b) : Cells w' b o vs := fun j v hv => (World.cell?_of_block (w := w) (h.block b hb hn)).trans (hc j v hv)
theorem Xf.below {E : Nat → Prop} {w w' : World} (h : Xf E w w') {B : Nat} (hB : B ≤ w.heap.size) (hE : ∀ k, E k → B ≤ k) : Below B w w' := ⟨h.os, h.tape, h.output, h.size, fun k hk => h.block k (by omega) (fun e => by have := hE k e; omega)⟩
/-- What a store may change. -/
abbrev Es (S : Nat) (v : Value) : Nat → Prop := fun k => k = S ∨ v.ownBlock = some k
theorem StoG.stays {W W' : World} {S M base n : Nat} {v : Value} (h : StoG W S M base v n) (hb : Below W.heap.size W W') : StoG W' S M base v n := ⟨h.st.stays hb, h.em.stays hb, own_stays h.own hb, Nat.le_trans h.le hb.size⟩
theorem StoN.toG {W : World} {S M base n : Nat} {v : Value} (h : StoN W S M base v n) : StoG W S M base v n := ⟨h.st, h.em, h.own, h.le⟩
theorem StoG.apart {W : World} {S M base n : Nat} {v : Value} (h : StoG W S M base v n) {b : Nat} (hb : v.ownBlock = some b) : b ≠ S ∧ b ≠ M := by
  rcases h.own.2 with ⟨rfl, h0⟩ | ⟨g, cap, cur, rfl, -, hg, -⟩
  · simp [Value.ownBlock] at hb
  · simp only [Value.ownBlock, Option.some.injEq] at hb
    subst hb
    refine ⟨fun e => ?_, fun e => ?_⟩
    · subst e
      have := h.st.b
      rw [hg] at this
      simp at this
      exact absurd this.2 (by decide)
    · subst e
      have := h.em
      unfold Em at this
      rw [hg] at this
      cases this
theorem StoG.ne {W : World} {S M base n : Nat} {v : Value} (h : StoG W S M base v n) : S ≠ M := by
  rintro rfl
  have h1 := h.st.b
  have h2 := h.em
  unfold Em at h2
  rw [h1] at h2
  cases h2
theorem StoG.other {W : World} {S M base n : Nat} {v : Value} (h : StoG W S M base v n) {p : Addr} (h1 : S ≠ p.block) (h2 : M ≠ p.block) (h3 : v.ownBlock ≠ some p.block) (u : Value) : StoG (W.setCell p u) S M base v n :=
  ⟨h.st.other h1 u, (Below.heap_setCell _ _ _ _ h2).trans h.em, h.own.kept (row := some p.block) ⟨rfl, rfl, rfl, by simp [World.setCell], fun b _ hb => Below.heap_setCell _ _ _ _ (fun e => hb (by simp [e]))⟩ (Or.inr h3), (by simp [World.setCell]; exact h.le)⟩
theorem app_fpG (wd : World) (S M base : Nat) (n : Nat) (a : Option Addr) (c : Nat) (HD : StoG wd S M base (.slice a n c) n) (hn : n ≤ 1000) : ∃ a' c' w', (Builtin.append_ #[78, 78] 78 #[.slice a n c, .slice (some ⟨wd.heap.size, 0, none⟩) 1 1]).run Tryz.prog (wd.alloc (.cells #[.pointer none] PT)) = .ok (.slice a' (n + 1) c') w' ∧ w'.ownsRow base PT 1 (.slice a' (n + 1) c') (n + 1) (List.replicate (n + 1) (.pointer none)) ∧ wd.heap.size + 1 ≤ w'.heap.size ∧ (wd.alloc (.cells #[.pointer none] PT)).grownBy w' (Value.slice a n c).ownBlock ∧ ((Value.slice a' (n + 1) c').ownBlock = (Value.slice a n c).ownBlock ∨ (Value.slice a' (n + 1) c').ownBlock = some (wd.heap.size + 1)) := by
  obtain ⟨i0, hi0, hz0, hz1, hz2⟩ := info_parts0 info_fp
  have HA := bl_alloc (Below.refl wd.heap.size wd) (.cells #[.pointer none] PT)
  obtain ⟨v', w', hr, ho', hg', -, hob⟩ := run_append_own_at (P := Tryz.prog) (w := wd.alloc (.cells #[.pointer none] PT)) base 78 78 PT i0 (.pointer none) 1 8 Tryz.underlying78 hi0 hz0 hz1 hz2 rfl (by decide) (.slice a n c) n _ (HD.stays HA).own ⟨wd.heap.size, 0, none⟩ 1 1 [.pointer none] rfl
    (fun j u hj => by
      match j, hj with
      | 0, hj =>
        simp at hj
        subst hj
        have h1 := heap_alloc_at wd (.cells #[.pointer none] PT)
        have h2 : (⟨wd.heap.size, 0, none⟩ : Addr).add 0 = ⟨wd.heap.size, 0, none⟩ := by simp [Addr.add]
        rw [h2, cell_at h1]
        rfl
      | j + 1, hj => simp at hj) (fun u hu => by simp at hu; subst hu; rfl) (by unfold maxLen; omega) (by omega) (by have := (HD.stays HA).le; exact this)
  obtain ⟨a', c', rfl⟩ := own_form ho'
  refine ⟨a', c', w', hr, ?_, by have := hg'.size; rw [size_alloc] at this; exact this, hg', by rw [size_alloc] at hob; exact hob⟩
  rw [List.replicate_succ']
  exact ho'

set_option maxHeartbeats 2000000 in
set_option maxRecDepth 100000 in
theorem Meta_G (w : World) (S M base : Nat) (v : Value) (n : Nat) (h : StoG w S M base v n) (hn : n ≤ 1000) : Calls Tryz.prog 45 #[.pointer (some ⟨S, 0, none⟩)] w fun e w' => e = .returned (.agg #[.int .i64 7, .int .i64 (n : Int), .slice none 0 0]) ∧ (∃ v', StoG w' S M base v' (n + 1)) ∧ Xf (Es S v) w w' := by
  obtain ⟨a, c, rfl⟩ : ∃ a c, v = .slice a n c := own_form h.own
  have hR : R64 (n : Int) := ⟨by omega, by omega⟩
  have HD0 : Hid (StoG (w.alloc (.cells #[.int .i64 0, .int .i64 0, .slice none 0 0] 47)) S M base (.slice a n c) n) := h.stays (bl_alloc (Below.refl _ _) _)
  have HD := hid (HD0.out.stays (Below.refl _ _).drew)
  have hSw : S < w.heap.size := h.st.lt
  have hMw : M < w.heap.size := by
    rcases Nat.lt_or_ge M w.heap.size with h1 | h1
    · exact h1
    · have := h.em; unfold Em at this; rw [Array.getElem?_eq_none h1] at this; cases this
  have hSM := h.ne
  have hap := fun b e => h.apart (b := b) e
  have HBW : Hid (Below w.heap.size w (w.alloc (.cells #[.int .i64 0, .int .i64 0, .slice none 0 0] 47)).drew) := (bl_alloc (Below.refl _ _) _).drew
  have HRB : Hid (Arr (w.alloc (.cells #[.int .i64 0, .int .i64 0, .slice none 0 0] 47)).drew w.heap.size 47 [.int .i64 0, .int .i64 0, .slice none 0 0]) := Arr.stays (w := (w.alloc (.cells #[.int .i64 0, .int .i64 0, .slice none 0 0] 47))) ⟨heap_alloc_at _ _⟩ (Below.refl _ _).drew
  obtain ⟨a', c', w', hr, ho', hsz, hgr, hob⟩ := app_fpG _ S M base n a c HD.out hn
  have HO := hid ho'
  have hwd : w.heap.size < (w.alloc (.cells #[.int .i64 0, .int .i64 0, .slice none 0 0] 47)).drew.heap.size := HRB.out.lt
  have hkeep : ∀ k, k < (w.alloc (.cells #[.int .i64 0, .int .i64 0, .slice none 0 0] 47)).drew.heap.size → (Value.slice a n c).ownBlock ≠ some k → w'.heap[k]? = (w.alloc (.cells #[.int .i64 0, .int .i64 0, .slice none 0 0] 47)).drew.heap[k]? := fun k hk hne => (hgr.block k (by rw [size_alloc]; omega) (fun e => hne e.symm)).trans (Below.heap_alloc _ _ k hk)
  have hrw : ∀ b, (Value.slice a n c).ownBlock = some b → base ≤ b ∧ b < w.heap.size := fun b e => h.own.lt b e
  have l0 : (w.alloc (.cells #[.int .i64 0, .int .i64 0, .slice none 0 0] 47)).drew.cell? ⟨S, 0, none⟩ = some (.slice a n c) := HD.out.st.cell 0
  have lc : ∀ o, ((w.alloc (.cells #[.int .i64 0, .int .i64 0, .slice none 0 0] 47)).drew.alloc o).cell? ⟨S, 0, none⟩ = some (.slice a n c) := fun o => (HD.out.stays (bl_alloc (Below.refl _ _) o)).st.cell 0
  have lc1 : ∀ o, ((w.alloc (.cells #[.int .i64 0, .int .i64 0, .slice none 0 0] 47)).drew.alloc o).cell? ⟨S, 1, none⟩ = some (.map (some M)) := fun o => (HD.out.stays (bl_alloc (Below.refl _ _) o)).st.cell 1
  have hs0 : Hid ((w.alloc (.cells #[.int .i64 0, .int .i64 0, .slice none 0 0] 47)).drew.cell? ⟨S, 1, none⟩ = some (.map (some M)) ∧ Em (w.alloc (.cells #[.int .i64 0, .int .i64 0, .slice none 0 0] 47)).drew M) := ⟨HD.out.st.cell 1, HD.out.em⟩
  have HSA : Hid (Arr w' S ST [.slice a n c, .map (some M)]) := ⟨(hkeep S (by omega) (fun e => (hap S e).1 rfl)).trans HD.out.st.b⟩
  have HEM : Hid (Em w' M) := (hkeep M (by omega) (fun e => (hap M e).2 rfl)).trans HD.out.em
  have hs2 : Hid (w'.cell? ⟨S, 1, none⟩ = some (.map (some M)) ∧ Em w' M) := ⟨HSA.out.cell 1, HEM.out⟩
  have HS3 : Hid (Arr (w'.setCell ⟨S, 0, none⟩ (.slice a' (n + 1) c')) S ST [.slice a' (n + 1) c', .map (some M)]) := HSA.out.set 0 _
  have HE3 : Hid (Em (w'.setCell ⟨S, 0, none⟩ (.slice a' (n + 1) c')) M) := (Below.heap_setCell _ _ _ _ (fun e => hSM (show S = M from e.symm))).trans HEM.out
  have hs3 : Hid ((w'.setCell ⟨S, 0, none⟩ (.slice a' (n + 1) c')).cell? ⟨S, 1, none⟩ = some (.map (some M)) ∧ Em (w'.setCell ⟨S, 0, none⟩ (.slice a' (n + 1) c')) M) := ⟨HS3.out.cell 1, HE3.out⟩
  have fz := HSA.out.frozen
  have sc0 := HSA.out.cell
  have HRA : Hid (Arr w' w.heap.size 47 [.int .i64 0, .int .i64 0, .slice none 0 0]) := ⟨(hkeep w.heap.size hwd (fun e => by have := (hrw _ e).2; omega)).trans HRB.out.b⟩
  have c0 := HD0.out.st.cell
  have hnl : (n : Int) ≤ 1000 := by omega
  have hnS : (Value.slice a' (n + 1) c').ownBlock ≠ some S := fun e => by
    rcases hob with h1 | h1
    · rw [h1] at e; exact (hap S e).1 rfl
    · rw [h1] at e; injection e with e; omega
  have HO7 : Hid ((w'.setCell ⟨S, 0, none⟩ (.slice a' (n + 1) c')).ownsRow base PT 1 (.slice a' (n + 1) c') (n + 1) (List.replicate (n + 1) (.pointer none))) := HO.out.kept (row := some S) ⟨rfl, rfl, rfl, by simp [World.setCell], fun b _ hb => Below.heap_setCell _ _ _ _ (fun e => hb (by simp [e]))⟩ (Or.inr hnS)
  have HR7 : Hid (Arr (w'.setCell ⟨S, 0, none⟩ (.slice a' (n + 1) c')) w.heap.size 47 [.int .i64 0, .int .i64 0, .slice none 0 0]) := HRA.out.other (p := ⟨S, 0, none⟩) (by show ¬ _ = S; omega) _
  have bb3 : Xf (Es S (.slice a n c)) (w.alloc (.cells #[.int .i64 0, .int .i64 0, .slice none 0 0] 47)).drew w' := ⟨hgr.os, hgr.tape, hgr.output, by omega, fun k hk hn => hkeep k hk (fun e => hn (.inr e))⟩
  have HB7 : Hid (Xf (Es S (.slice a n c)) w (w'.setCell ⟨S, 0, none⟩ (.slice a' (n + 1) c'))) := ((Xf.of_below HBW.out).trans bb3).set (.inl (.inl rfl)) 0 _
  have HNB : Hid ((Value.slice a' (n + 1) c').ownBlock ≠ some w.heap.size) := by
    intro e
    rcases hob with h1 | h1
    · rw [h1] at e
      have := (hrw _ e).2
      omega
    · rw [h1] at e
      injection e with e
      omega
  have HLE : Hid (base ≤ (w'.setCell ⟨S, 0, none⟩ (.slice a' (n + 1) c')).heap.size) := by
    have h1 : (w'.setCell ⟨S, 0, none⟩ (.slice a' (n + 1) c')).heap.size = w'.heap.size := by simp [World.setCell]
    have := h.le
    show base ≤ _
    rw [h1]
    omega
  have hsz7 : w.heap.size < (w'.setCell ⟨S, 0, none⟩ (.slice a' (n + 1) c')).heap.size := HR7.out.lt
  clear h ho' hgr hsz hob bb3 hkeep hrw hap hnS hwd
  go_enter Tryz.func45, Tryz.ntmps45
  go_wp2
  refine wp_region_held_drew (S := fun wz => wz.cell? ⟨S, 1, none⟩ = some (.map (some M)) ∧ Em wz M) (by kernel_rfl) (hs0.out) (fun hS => ?_)
  generalize (w.alloc (.cells #[.int .i64 0, .int .i64 0, .slice none 0 0] 47)).drew = wd at hS HD hr HBW HRB l0 lc lc1 ⊢
  refine wpAnyH_take (i := 0) (v := ?_) rfl (by kernel_rfl) (by kernel_rfl) (by kernel_rfl) (fun _ _ _ h => h) (Or.inl ⟨by rfl, ?_⟩) hS ?_
  rotate_left
  · intro wz hz; go_simp; try with_reducible rfl
  try simp only [Act.put, List.setIfInBounds_toArray, List.set_cons_zero, List.set_cons_succ, List.getElem_toArray, List.getElem_cons_succ, List.getElem_cons_zero]
  refine wpAnyH_take (i := 1) (v := ?_) rfl (by kernel_rfl) (by kernel_rfl) (by kernel_rfl) (fun _ _ _ h => h) (Or.inl ⟨by rfl, ?_⟩) hS ?_
  rotate_left
  · intro wz hz; go_simp; try with_reducible rfl
  try simp only [Act.put, List.setIfInBounds_toArray, List.set_cons_zero, List.set_cons_succ, List.getElem_toArray, List.getElem_cons_succ, List.getElem_cons_zero]
  refine wpAnyH_take (i := 2) (v := ?_) rfl (by kernel_rfl) (by kernel_rfl) (by kernel_rfl) (fun _ _ _ h => h) (Or.inl ⟨by rfl, ?_⟩) hS ?_
  rotate_left
  · intro wz hz; go_simp; try with_reducible rfl
  try simp only [Act.put, List.setIfInBounds_toArray, List.set_cons_zero, List.set_cons_succ, List.getElem_toArray, List.getElem_cons_succ, List.getElem_cons_zero]
  refine wpAnyH_take (i := 3) (v := ?_) rfl (by kernel_rfl) (by kernel_rfl) (by kernel_rfl) (fun _ _ _ h => h) (Or.inl ⟨by rfl, ?_⟩) hS ?_
  rotate_left
  · intro wz hz; go_simp; try with_reducible rfl
  try simp only [Act.put, List.setIfInBounds_toArray, List.set_cons_zero, List.set_cons_succ, List.getElem_toArray, List.getElem_cons_succ, List.getElem_cons_zero]
  refine wpAnyH_take (i := 5) (v := ?_) rfl (by kernel_rfl) (by kernel_rfl) (by kernel_rfl) (fun _ _ _ h => h) (Or.inl ⟨by rfl, ?_⟩) hS ?_
  rotate_left
  · intro wz hz; go_simp; try with_reducible rfl
  try simp only [Act.put, List.setIfInBounds_toArray, List.set_cons_zero, List.set_cons_succ, List.getElem_toArray, List.getElem_cons_succ, List.getElem_cons_zero]
  refine wpAnyH_take (i := 6) (v := ?_) rfl (by kernel_rfl) (by kernel_rfl) (by kernel_rfl) (fun _ _ _ h => h) (Or.inl ⟨by rfl, ?_⟩) hS ?_
  rotate_left
  · intro wz hz; go_simp; try with_reducible rfl
  try simp only [Act.put, List.setIfInBounds_toArray, List.set_cons_zero, List.set_cons_succ, List.getElem_toArray, List.getElem_cons_succ, List.getElem_cons_zero]
  refine wpAnyH_take (i := 7) (v := ?_) rfl (by kernel_rfl) (by kernel_rfl) (by kernel_rfl) (fun _ _ _ h => h) (Or.inl ⟨by rfl, ?_⟩) hS ?_
  rotate_left
  · intro wz hz; go_simp; try with_reducible rfl
  try simp only [Act.put, List.setIfInBounds_toArray, List.set_cons_zero, List.set_cons_succ, List.getElem_toArray, List.getElem_cons_succ, List.getElem_cons_zero]
  refine wpAnyH_take (i := 8) (v := ?_) rfl (by kernel_rfl) (by kernel_rfl) (by kernel_rfl) (fun _ _ _ h => h) (Or.inl ⟨by rfl, ?_⟩) hS ?_
  rotate_left
  · intro wz hz; obtain ⟨yy0, yy1⟩ := hz; have yy2 := look_empty yy1 (n : Int) hR; go_simp; try with_reducible rfl
  try simp only [Act.put, List.setIfInBounds_toArray, List.set_cons_zero, List.set_cons_succ, List.getElem_toArray, List.getElem_cons_succ, List.getElem_cons_zero]
  refine wpAnyH_take (i := 9) (v := ?_) rfl (by kernel_rfl) (by kernel_rfl) (by kernel_rfl) (fun _ _ _ h => h) (Or.inl ⟨by rfl, ?_⟩) hS ?_
  rotate_left
  · intro wz hz; go_simp; try with_reducible rfl
  try simp only [Act.put, List.setIfInBounds_toArray, List.set_cons_zero, List.set_cons_succ, List.getElem_toArray, List.getElem_cons_succ, List.getElem_cons_zero]
  refine wpAnyH_take (i := 10) (v := ?_) rfl (by kernel_rfl) (by kernel_rfl) (by kernel_rfl) (fun _ _ _ h => h) (Or.inl ⟨by rfl, ?_⟩) hS ?_
  rotate_left
  · intro wz hz; obtain ⟨yy0, yy1⟩ := hz; have yy2 := look_empty yy1 (n : Int) hR; go_simp; try with_reducible rfl
  try simp only [Act.put, List.setIfInBounds_toArray, List.set_cons_zero, List.set_cons_succ, List.getElem_toArray, List.getElem_cons_succ, List.getElem_cons_zero]
  refine wpAnyH_ready (rs := [4, 11]) (by kernel_rfl) (by simp) (AllReadyH.cons rfl (fun K hK => ?a1_4) (AllReadyH.cons rfl (fun K hK => ?a1_11) AllReadyH.nil))
  case' a1_4 =>
    go_simp
    refine hK.out _ _ (hS) (fun hSn => ?_)
    clear hK K hS
    have hS := hSn
    clear hSn
    try simp only [Act.put, List.setIfInBounds_toArray, List.set_cons_zero, List.set_cons_succ, List.getElem_toArray, List.getElem_cons_succ, List.getElem_cons_zero]
    refine wpAnyH_ready (rs := [11]) (by kernel_rfl) (by simp) (AllReadyH.cons rfl (fun K hK => ?a2_11) AllReadyH.nil)
    case' a2_11 =>
      go_simp
      refine hK.out _ _ (⟨lc1 _, hS.2.stays (bl_alloc (Below.refl _ _) _)⟩) (fun hSn => ?_)
      clear hK K hS
      have hS := hSn
      clear hSn
      try simp only [Act.put, List.setIfInBounds_toArray, List.set_cons_zero, List.set_cons_succ, List.getElem_toArray, List.getElem_cons_succ, List.getElem_cons_zero]
      refine wpAnyH_ready (rs := [12]) (by kernel_rfl) (by simp) (AllReadyH.cons rfl (fun K hK => ?a3_12) AllReadyH.nil)
      case' a3_12 =>
        refine step_app_eq rfl _ _ _ rfl _ _ rfl rfl _ _ hr ?_
        refine hK.out _ _ (hs2.out) (fun hSn => ?_)
        clear hK K hS
        have hS := hSn
        clear hSn
        try simp only [Act.put, List.setIfInBounds_toArray, List.set_cons_zero, List.set_cons_succ, List.getElem_toArray, List.getElem_cons_succ, List.getElem_cons_zero]
        refine wpAnyH_take (i := 13) (v := ?_) rfl (by kernel_rfl) (by kernel_rfl) (by kernel_rfl) (fun _ _ _ h => h) (Or.inl ⟨by rfl, ?_⟩) hS ?_
        rotate_left
        · intro wz hz; go_simp; try with_reducible rfl
        try simp only [Act.put, List.setIfInBounds_toArray, List.set_cons_zero, List.set_cons_succ, List.getElem_toArray, List.getElem_cons_succ, List.getElem_cons_zero]
        refine wpAnyH_take (i := 14) (v := ?_) rfl (by kernel_rfl) (by kernel_rfl) (by kernel_rfl) (fun _ _ _ h => h) (Or.inl ⟨by rfl, ?_⟩) hS ?_
        rotate_left
        · intro wz hz; go_simp; try with_reducible rfl
        try simp only [Act.put, List.setIfInBounds_toArray, List.set_cons_zero, List.set_cons_succ, List.getElem_toArray, List.getElem_cons_succ, List.getElem_cons_zero]
        refine wpAnyH_ready (rs := [15]) (by kernel_rfl) (by simp) (AllReadyH.cons rfl (fun K hK => ?a4_15) AllReadyH.nil)
        case' a4_15 =>
          go_simp
          refine hK.out _ _ (hs3.out) (fun hSn => ?_)
          clear hK K hS
          have hS := hSn
          clear hSn
          try simp only [Act.put, List.setIfInBounds_toArray, List.set_cons_zero, List.set_cons_succ, List.getElem_toArray, List.getElem_cons_succ, List.getElem_cons_zero]
          refine wpAnyH_done (by kernel_rfl) ?_ _
  case' a1_11 =>
    go_simp
    refine hK.out _ _ (⟨lc1 _, hS.2.stays (bl_alloc (Below.refl _ _) _)⟩) (fun hSn => ?_)
    clear hK K hS
    have hS := hSn
    clear hSn
    try simp only [Act.put, List.setIfInBounds_toArray, List.set_cons_zero, List.set_cons_succ, List.getElem_toArray, List.getElem_cons_succ, List.getElem_cons_zero]
    refine wpAnyH_ready (rs := [4]) (by kernel_rfl) (by simp) (AllReadyH.cons rfl (fun K hK => ?a5_4) AllReadyH.nil)
    case' a5_4 =>
      go_simp
      refine hK.out _ _ (hS) (fun hSn => ?_)
      clear hK K hS
      have hS := hSn
      clear hSn
      try simp only [Act.put, List.setIfInBounds_toArray, List.set_cons_zero, List.set_cons_succ, List.getElem_toArray, List.getElem_cons_succ, List.getElem_cons_zero]
      refine wpAnyH_ready (rs := [12]) (by kernel_rfl) (by simp) (AllReadyH.cons rfl (fun K hK => ?a6_12) AllReadyH.nil)
      case' a6_12 =>
        refine step_app_eq rfl _ _ _ rfl _ _ rfl rfl _ _ hr ?_
        refine hK.out _ _ (hs2.out) (fun hSn => ?_)
        clear hK K hS
        have hS := hSn
        clear hSn
        try simp only [Act.put, List.setIfInBounds_toArray, List.set_cons_zero, List.set_cons_succ, List.getElem_toArray, List.getElem_cons_succ, List.getElem_cons_zero]
        refine wpAnyH_take (i := 13) (v := ?_) rfl (by kernel_rfl) (by kernel_rfl) (by kernel_rfl) (fun _ _ _ h => h) (Or.inl ⟨by rfl, ?_⟩) hS ?_
        rotate_left
        · intro wz hz; go_simp; try with_reducible rfl
        try simp only [Act.put, List.setIfInBounds_toArray, List.set_cons_zero, List.set_cons_succ, List.getElem_toArray, List.getElem_cons_succ, List.getElem_cons_zero]
        refine wpAnyH_take (i := 14) (v := ?_) rfl (by kernel_rfl) (by kernel_rfl) (by kernel_rfl) (fun _ _ _ h => h) (Or.inl ⟨by rfl, ?_⟩) hS ?_
        rotate_left
        · intro wz hz; go_simp; try with_reducible rfl
        try simp only [Act.put, List.setIfInBounds_toArray, List.set_cons_zero, List.set_cons_succ, List.getElem_toArray, List.getElem_cons_succ, List.getElem_cons_zero]
        refine wpAnyH_ready (rs := [15]) (by kernel_rfl) (by simp) (AllReadyH.cons rfl (fun K hK => ?a7_15) AllReadyH.nil)
        case' a7_15 =>
          go_simp
          refine hK.out _ _ (hs3.out) (fun hSn => ?_)
          clear hK K hS
          have hS := hSn
          clear hSn
          try simp only [Act.put, List.setIfInBounds_toArray, List.set_cons_zero, List.set_cons_succ, List.getElem_toArray, List.getElem_cons_succ, List.getElem_cons_zero]
          refine wpAnyH_done (by kernel_rfl) ?_ _
  all_goals (
    clear hr HD HD0 l0 lc lc1 hs0 hs2 hs3 fz sc0 HSA HEM HRA c0 HBW HRB HO hS
    generalize w'.setCell ⟨S, 0, none⟩ (.slice a' (n + 1) c') = w7 at HS3 HE3 HO7 HR7 HB7 HLE hsz7 ⊢
    have hd := del_empty HE3.out (n : Int) hR
    have s7 := HS3.out.cell
    have hme : Hid (Calls Tryz.prog 51 #[.int .i64 (n : Int)] w7 fun e w' => e = .returned (.agg #[.int .i64 7, .int .i64 (n : Int), .slice none 0 0]) ∧ Below w7.heap.size w7 w') := meta_any w7 n
    go_wp2_with (first
      | (at_builtin; refine wpList_del rfl _ _ _ _ rfl _ _ rfl rfl _ (hd _) ?_)
      | (go_at_call 51; refine hme.out.mono ?_; rintro e w8 ⟨rfl, b8⟩; have r8 := (HR7.out.stays b8).cell; have f8 := (HR7.out.stays b8).frozen; have HB8 := hid b8; clear b8))
    refine bodyPost_ret (v := .agg #[.int .i64 7, .int .i64 (n : Int), .slice none 0 0]) (by rw [results_cell1 (fn := Tryz.f45) (p := 2) (ty := 47) (by kernel_rfl)]; simp [go_sem, r8, f8]) rfl ?_
    have HZ : StoG w8 S M base (.slice a' (n + 1) c') (n + 1) := StoG.stays ⟨HS3.out, HE3.out, HO7.out, HLE.out⟩ HB8.out
    have nS : S ≠ w.heap.size := by omega
    have nM : M ≠ w.heap.size := by omega
    refine ⟨rfl, ⟨_, ((HZ.other (p := ⟨w.heap.size, 0, none⟩) nS nM HNB.out _).other (p := ⟨w.heap.size, 1, none⟩) nS nM HNB.out _).other (p := ⟨w.heap.size, 2, none⟩) nS nM HNB.out _⟩, ?_⟩
    exact (((HB7.out.trans (Xf.of_below HB8.out)).set (.inr (Nat.le_refl _)) 0 _).set (.inr (Nat.le_refl _)) 1 _).set (.inr (Nat.le_refl _)) 2 _)
end Go.Proofs.YtjodgnkhociaaaaGreat

namespace Go.Proofs.YtjodgnkhociaaaaGreat
open Go.RowKit
set_option linter.unusedVariables false
set_option linter.unusedSimpArgs false

abbrev INTT : TypeId := 3
theorem enters_c1 : Enters 27 := enters_of Tryz.func27 (by kernel_rfl) rfl
theorem enters_each : Enters 26 := enters_of Tryz.func26 (by kernel_rfl) rfl
set_option maxRecDepth 100000 in
theorem count_var (w : World) (B Mb E Z b o : Nat) (m : Int) (hB : Arr w B INTT [.int .i64 m]) (hm0 : 0 ≤ m) (hm : m ≤ 1000) (hl : Leaf5 w b o 2 bx 0) : Calls Tryz.prog 27 #[.pointer (some ⟨b, o, none⟩), .pointer (some ⟨B, 0, none⟩), .pointer (some ⟨Mb, 0, none⟩), .pointer (some ⟨E, 0, none⟩), .pointer (some ⟨Z, 0, none⟩)] w fun e w' => e = .returned (.tuple #[]) ∧ w' = w.setCell ⟨B, 0, none⟩ (.int .i64 (m + 1)) := by
  have d0 : w.cell? ⟨b, o, none⟩ = some (.int .i64 2) := hl.1 0 _ rfl
  have c0 := hB.cell
  have f0 := hB.frozen
  clear hB hl
  go_enter Tryz.func27, Tryz.ntmps27
  go_wp2
  first | go_end0 | refine bodyPost_end (results_none rfl _ _ _) rfl ?_ | refine bodyPost_ret (results_none rfl _ _ _) rfl ?_
  exact ⟨rfl, rfl⟩
set_option maxRecDepth 100000 in
theorem count_int (w : World) (B Mb E Z b o : Nat) (hl : Leaf5 w b o 3 (⟨#[]⟩ : ByteArray) 1) : Calls Tryz.prog 27 #[.pointer (some ⟨b, o, none⟩), .pointer (some ⟨B, 0, none⟩), .pointer (some ⟨Mb, 0, none⟩), .pointer (some ⟨E, 0, none⟩), .pointer (some ⟨Z, 0, none⟩)] w fun e w' => e = .returned (.tuple #[]) ∧ w' = w := by
  have d0 : w.cell? ⟨b, o, none⟩ = some (.int .i64 3) := hl.1 0 _ rfl
  clear hl
  go_enter Tryz.func27, Tryz.ntmps27
  go_wp2
  first | go_end0 | refine bodyPost_end (results_none rfl _ _ _) rfl ?_ | refine bodyPost_ret (results_none rfl _ _ _) rfl ?_
  exact ⟨rfl, rfl⟩
set_option maxRecDepth 100000 in
theorem count_pair (w : World) (B Mb E Z P : Nat) (d0 : w.cell? ⟨P, 0, none⟩ = some (.int .i64 7)) : Calls Tryz.prog 27 #[.pointer (some ⟨P, 0, none⟩), .pointer (some ⟨B, 0, none⟩), .pointer (some ⟨Mb, 0, none⟩), .pointer (some ⟨E, 0, none⟩), .pointer (some ⟨Z, 0, none⟩)] w fun e w' => e = .returned (.tuple #[]) ∧ w' = w := by
  go_enter Tryz.func27, Tryz.ntmps27
  go_wp2
  first | go_end0 | refine bodyPost_end (results_none rfl _ _ _) rfl ?_ | refine bodyPost_ret (results_none rfl _ _ _) rfl ?_
  exact ⟨rfl, rfl⟩
set_option maxRecDepth 100000 in
theorem ea_var (w : World) (B Mb E Z b o : Nat) (m : Int) (hB : Arr w B INTT [.int .i64 m]) (hm0 : 0 ≤ m) (hm : m ≤ 1000) (hl : Leaf5 w b o 2 bx 0) (hb : b ≠ B) : Calls Tryz.prog 26 #[.pointer (some ⟨b, o, none⟩), .func (.func 27) #[] #[.pointer (some ⟨B, 0, none⟩), .pointer (some ⟨Mb, 0, none⟩), .pointer (some ⟨E, 0, none⟩), .pointer (some ⟨Z, 0, none⟩)]] w fun e w' => e = .returned (.tuple #[]) ∧ Arr w' B INTT [.int .i64 (m + 1)] ∧ Xf (fun k => k = B) w w' := by
  have HC := hid (count_var w B Mb E Z b o m hB hm0 hm hl)
  have d4 : (w.setCell ⟨B, 0, none⟩ (.int .i64 (m + 1))).cell? ⟨b, o + 4, none⟩ = some (.slice none 0 0) := (World.cell?_of_block (w := w) (Below.heap_setCell _ _ _ _ hb)).trans (hl.1 4 _ rfl)
  have HA : Hid (Arr (w.setCell ⟨B, 0, none⟩ (.int .i64 (m + 1))) B INTT [.int .i64 (m + 1)]) := hB.set 0 _
  have HX : Hid (Xf (fun k => k = B) w (w.setCell ⟨B, 0, none⟩ (.int .i64 (m + 1)))) := hid (Xf.set (E := fun k => k = B) (Xf.of_below (Below.refl w.heap.size w)) (b := B) (.inl rfl) 0 _)
  have en := enters_c1
  unfold Enters at en
  clear hB hl
  go_enter Tryz.func26, Tryz.ntmps26
  go_wp2_with (refine HC.out.mono ?_; rintro e w1 ⟨rfl, hw⟩; rw [hw]; clear hw w1)
  refine wp_loop_rounds 1 ?_
  rw [rounds_succ]
  go_wp2
  first | go_end0 | refine bodyPost_end (results_none rfl _ _ _) rfl ?_ | refine bodyPost_ret (results_none rfl _ _ _) rfl ?_
  exact ⟨rfl, HA.out, HX.out⟩
set_option maxRecDepth 100000 in
theorem ea_int (w : World) (B Mb E Z b o : Nat) (hl : Leaf5 w b o 3 (⟨#[]⟩ : ByteArray) 1) : Calls Tryz.prog 26 #[.pointer (some ⟨b, o, none⟩), .func (.func 27) #[] #[.pointer (some ⟨B, 0, none⟩), .pointer (some ⟨Mb, 0, none⟩), .pointer (some ⟨E, 0, none⟩), .pointer (some ⟨Z, 0, none⟩)]] w fun e w' => e = .returned (.tuple #[]) ∧ w' = w := by
  have HC := hid (count_int w B Mb E Z b o hl)
  have d4 : w.cell? ⟨b, o + 4, none⟩ = some (.slice none 0 0) := hl.1 4 _ rfl
  have en := enters_c1
  unfold Enters at en
  clear hl
  go_enter Tryz.func26, Tryz.ntmps26
  go_wp2_with (refine HC.out.mono ?_; rintro e w1 ⟨rfl, hw⟩; rw [hw]; clear hw w1)
  refine wp_loop_rounds 1 ?_
  rw [rounds_succ]
  go_wp2
  first | go_end0 | refine bodyPost_end (results_none rfl _ _ _) rfl ?_ | refine bodyPost_ret (results_none rfl _ _ _) rfl ?_
  exact ⟨rfl, rfl⟩
set_option maxRecDepth 100000 in
theorem ea_pair (w : World) (B Mb E Z P K : Nat) (m : Int) (k : Int) (s : ByteArray) (n : Int) (hB : Arr w B INTT [.int .i64 0]) (hl : Pair5 w P K k s n) (hP : P ≠ B) (hK : K ≠ B)
    (h2 : ∀ w1, Arr w1 B INTT [.int .i64 1] → Leaf5 w1 K 5 k s n → Calls Tryz.prog 26 #[.pointer (some ⟨K, 5, none⟩), .func (.func 27) #[] #[.pointer (some ⟨B, 0, none⟩), .pointer (some ⟨Mb, 0, none⟩), .pointer (some ⟨E, 0, none⟩), .pointer (some ⟨Z, 0, none⟩)]] w1 fun e w' => e = .returned (.tuple #[]) ∧ Arr w' B INTT [.int .i64 m] ∧ Xf (fun k => k = B) w1 w') :
    Calls Tryz.prog 26 #[.pointer (some ⟨P, 0, none⟩), .func (.func 27) #[] #[.pointer (some ⟨B, 0, none⟩), .pointer (some ⟨Mb, 0, none⟩), .pointer (some ⟨E, 0, none⟩), .pointer (some ⟨Z, 0, none⟩)]] w fun e w' => e = .returned (.tuple #[]) ∧ Arr w' B INTT [.int .i64 m] ∧ Xf (fun k => k = B) w w' := by
  have HC := hid (count_pair w B Mb E Z P (hl.p 0 _ rfl))
  have d4 : w.cell? ⟨P, 4, none⟩ = some (.slice (some ⟨K, 0, none⟩) 2 2) := hl.p 4 _ rfl
  have H1 : Hid (Calls Tryz.prog 26 #[.pointer (some ⟨K, 0, none⟩), .func (.func 27) #[] #[.pointer (some ⟨B, 0, none⟩), .pointer (some ⟨Mb, 0, none⟩), .pointer (some ⟨E, 0, none⟩), .pointer (some ⟨Z, 0, none⟩)]] w fun e w' => e = .returned (.tuple #[]) ∧ Arr w' B INTT [.int .i64 1] ∧ Xf (fun k => k = B) w w') := ea_var w B Mb E Z K 0 0 hB (by decide) (by decide) hl.a hK
  have HP : Hid (∀ w1, Xf (fun k => k = B) w w1 → w1.cell? ⟨P, 4, none⟩ = some (.slice (some ⟨K, 0, none⟩) 2 2)) := hid fun w1 hx => hx.cells hl.pl hl.p hP 4 _ rfl
  have H2 : Hid (∀ w1, Xf (fun k => k = B) w w1 → Arr w1 B INTT [.int .i64 1] → Calls Tryz.prog 26 #[.pointer (some ⟨K, 5, none⟩), .func (.func 27) #[] #[.pointer (some ⟨B, 0, none⟩), .pointer (some ⟨Mb, 0, none⟩), .pointer (some ⟨E, 0, none⟩), .pointer (some ⟨Z, 0, none⟩)]] w1 fun e w' => e = .returned (.tuple #[]) ∧ Arr w' B INTT [.int .i64 m] ∧ Xf (fun k => k = B) w1 w') := hid fun w1 hx hA => h2 w1 hA ⟨hx.cells hl.b.2 hl.b.1 hK, Nat.lt_of_lt_of_le hl.b.2 hx.size⟩
  have en := enters_c1
  unfold Enters at en
  clear hB hl h2
  go_enter Tryz.func26, Tryz.ntmps26
  go_wp2_with (refine HC.out.mono ?_; rintro e w1 ⟨rfl, hw⟩; rw [hw]; clear hw w1)
  refine wp_loop_rounds 3 ?_
  rw [rounds_succ]
  go_wp2_with (go_at_call 26; refine H1.out.mono ?_; rintro e w1 ⟨rfl, a1, x1⟩; have A1 := hid a1; have X1 := hid x1; have e4 := HP.out _ x1; clear a1 x1)
  rw [rounds_succ]
  go_wp2_with (go_at_call 26; refine (H2.out _ X1.out A1.out).mono ?_; rintro e w2 ⟨rfl, a2, x2⟩; have A2 := hid a2; have X2 := hid (X1.out.trans x2); have g4 := HP.out _ (X1.out.trans x2); clear a2 x2)
  rw [rounds_succ]
  go_wp2
  first | go_end0 | refine bodyPost_end (results_none rfl _ _ _) rfl ?_ | refine bodyPost_ret (results_none rfl _ _ _) rfl ?_
  exact ⟨rfl, A2.out, X2.out⟩
end Go.Proofs.YtjodgnkhociaaaaGreat
