/- SameValue, of equal values. -/
import Derived.Test.YtjodgnkhociaaaaGreatQbc
namespace Go.Proofs.YtjodgnkhociaaaaGreat
open Go.RowKit
set_option linter.unusedVariables false
set_option linter.unusedSimpArgs false

theorem svKeep {i b o b' o' c c' xc yc : Nat} {xa ya : Option Addr} {w wa wb : World} {t x : Vl} (hb : Below wa.heap.size wa wb) (h : wa.cell? ⟨w.heap.size, 3, none⟩ = some (.slice (some ⟨b, o, none⟩) t.ks.length c) ∧ wa.cell? ⟨w.heap.size + 1, 3, none⟩ = some (.slice (some ⟨b', o', none⟩) t.ks.length c') ∧ wa.cell? ⟨b, o + i * 4, none⟩ = some (.int .i64 x.k) ∧ wa.cell? ⟨b, o + i * 4 + 1, none⟩ = some (.int .i64 x.n) ∧ wa.cell? ⟨b, o + i * 4 + 2, none⟩ = some (.string x.s) ∧ wa.cell? ⟨b, o + i * 4 + 3, none⟩ = some (.slice xa x.ks.length xc) ∧ wa.cell? ⟨b', o' + i * 4, none⟩ = some (.int .i64 x.k) ∧ wa.cell? ⟨b', o' + i * 4 + 1, none⟩ = some (.int .i64 x.n) ∧ wa.cell? ⟨b', o' + i * 4 + 2, none⟩ = some (.string x.s) ∧ wa.cell? ⟨b', o' + i * 4 + 3, none⟩ = some (.slice ya x.ks.length yc)) : wb.cell? ⟨w.heap.size, 3, none⟩ = some (.slice (some ⟨b, o, none⟩) t.ks.length c) ∧ wb.cell? ⟨w.heap.size + 1, 3, none⟩ = some (.slice (some ⟨b', o', none⟩) t.ks.length c') ∧ wb.cell? ⟨b, o + i * 4, none⟩ = some (.int .i64 x.k) ∧ wb.cell? ⟨b, o + i * 4 + 1, none⟩ = some (.int .i64 x.n) ∧ wb.cell? ⟨b, o + i * 4 + 2, none⟩ = some (.string x.s) ∧ wb.cell? ⟨b, o + i * 4 + 3, none⟩ = some (.slice xa x.ks.length xc) ∧ wb.cell? ⟨b', o' + i * 4, none⟩ = some (.int .i64 x.k) ∧ wb.cell? ⟨b', o' + i * 4 + 1, none⟩ = some (.int .i64 x.n) ∧ wb.cell? ⟨b', o' + i * 4 + 2, none⟩ = some (.string x.s) ∧ wb.cell? ⟨b', o' + i * 4 + 3, none⟩ = some (.slice ya x.ks.length yc) := by
  obtain ⟨q0, q1, q2, q3, q4, q5, q6, q7, q8, q9⟩ := h
  exact ⟨(hb.cell (World.block_lt_of_cell? _ _ q0)).trans q0, (hb.cell (World.block_lt_of_cell? _ _ q1)).trans q1, (hb.cell (World.block_lt_of_cell? _ _ q2)).trans q2, (hb.cell (World.block_lt_of_cell? _ _ q3)).trans q3, (hb.cell (World.block_lt_of_cell? _ _ q4)).trans q4, (hb.cell (World.block_lt_of_cell? _ _ q5)).trans q5, (hb.cell (World.block_lt_of_cell? _ _ q6)).trans q6, (hb.cell (World.block_lt_of_cell? _ _ q7)).trans q7, (hb.cell (World.block_lt_of_cell? _ _ q8)).trans q8, (hb.cell (World.block_lt_of_cell? _ _ q9)).trans q9⟩
def SameOf (n : Nat) : Prop := ∀ (w : World) (m : Nat) (vs ws : List Value) (t : Vl), VAt w Any n vs t → VAt w Any m ws t → Calls Tryz.prog 8 #[.agg vs.toArray, .agg ws.toArray] w fun e w' => e = .returned (.bool true) ∧ Below w.heap.size w w'
theorem VAt.kids {w : World} {K : Nat → Prop} {n : Nat} {a : Option Addr} {c : Nat} {t : Vl} (h : VAt w K n [.int .i64 t.k, .int .i64 t.n, .string t.s, .slice a t.ks.length c] t) : VAtL w K n (.slice a t.ks.length c) t.ks := by
  cases n with
  | zero => exact h.elim
  | succ n =>
    obtain ⟨v, e, h2⟩ := h
    simp only [List.cons.injEq, and_true, true_and] at e
    subst e
    exact GRow.move h2 (Keeps.refl _ _) (fun _ h => h) fun _ _ h => VAt.succ h
theorem VAt.kids1 {w : World} {K : Nat → Prop} {n : Nat} {a : Option Addr} {c : Nat} {t : Vl} (h : VAt w K (n + 1) [.int .i64 t.k, .int .i64 t.n, .string t.s, .slice a t.ks.length c] t) : VAtL w K n (.slice a t.ks.length c) t.ks := by
  obtain ⟨v, e, h2⟩ := h
  simp only [List.cons.injEq, and_true, true_and] at e
  subst e
  exact h2
set_option maxHeartbeats 4000000 in
set_option maxRecDepth 100000 in
theorem same_step (n : Nat) (ih : SameOf n) : SameOf (n + 1) := by
  intro w m vs ws t hV hU
  obtain ⟨ka, kc, rfl, hm⟩ := hV.form
  obtain ⟨la, lc, rfl, -⟩ := hU.form
  unfold maxLen at hm
  have HI : Hid (SameOf n) := ih
  have HK : Hid (VAtL w Any n (.slice ka t.ks.length kc) t.ks) := hV.kids1
  have HL : Hid (VAtL w Any m (.slice la t.ks.length lc) t.ks) := hU.kids
  have hb2 := bl_alloc (bl_alloc (Below.refl w.heap.size w) (.cells #[.int .i64 t.k, .int .i64 t.n, .string t.s, .slice ka t.ks.length kc] VT)) (.cells #[.int .i64 t.k, .int .i64 t.n, .string t.s, .slice la t.ks.length lc] VT)
  have x0 : Arr (w.alloc (.cells #[.int .i64 t.k, .int .i64 t.n, .string t.s, .slice ka t.ks.length kc] VT)) w.heap.size VT [.int .i64 t.k, .int .i64 t.n, .string t.s, .slice ka t.ks.length kc] := ⟨heap_alloc_at _ _⟩
  have x0' := x0.stays (bl_alloc (Below.refl _ _) (.cells #[.int .i64 t.k, .int .i64 t.n, .string t.s, .slice la t.ks.length lc] VT))
  have x1 : Arr ((w.alloc (.cells #[.int .i64 t.k, .int .i64 t.n, .string t.s, .slice ka t.ks.length kc] VT)).alloc (.cells #[.int .i64 t.k, .int .i64 t.n, .string t.s, .slice la t.ks.length lc] VT)) (w.heap.size + 1) VT [.int .i64 t.k, .int .i64 t.n, .string t.s, .slice la t.ks.length lc] := ⟨by have := heap_alloc_at (w.alloc (.cells #[.int .i64 t.k, .int .i64 t.n, .string t.s, .slice ka t.ks.length kc] VT)) (.cells #[.int .i64 t.k, .int .i64 t.n, .string t.s, .slice la t.ks.length lc] VT); rw [size_alloc] at this; exact this⟩
  have X0 := hid x0'
  have X1 := hid x1
  have HB := hid hb2
  clear hV hU ih hb2 x0 x0' x1
  go_enter Tryz.func8, Tryz.ntmps8
  go_wp2
  generalize ((w.alloc (.cells #[.int .i64 t.k, .int .i64 t.n, .string t.s, .slice ka t.ks.length kc] VT)).alloc (.cells #[.int .i64 t.k, .int .i64 t.n, .string t.s, .slice la t.ks.length lc] VT)) = w2 at X0 X1 HB ⊢
  have z0 := X0.out.cell
  have z1 := X1.out.cell
  go_wp2
  go_loopw [5] (fun v wr => ∃ i : Nat, v = .int .i64 i ∧ i ≤ t.ks.length ∧ Hid (Below w2.heap.size w2 wr)) (fun v _ => t.ks.length - (intOf v).toNat)
  case atStart => exact ⟨0, rfl, Nat.zero_le _, Below.refl _ _⟩
  case round =>
    obtain ⟨i, rfl, hi, hR⟩ := hrel
    have y0 := (X0.out.stays hR.out).cell
    have y1 := (X1.out.stays hR.out).cell
    by_cases hlt : i < t.ks.length
    · obtain ⟨x, hx⟩ : ∃ x, t.ks[i]? = some x := ⟨_, List.getElem?_eq_getElem hlt⟩
      obtain ⟨b, o, rfl, -, xs, g1, g2, g3⟩ := HK.out.elem hx
      obtain ⟨b', o', rfl, -, ys, g4, g5, g6⟩ := HL.out.elem hx
      obtain ⟨xa, xc, rfl, -⟩ := g3.form
      obtain ⟨ya, yc, rfl, -⟩ := g6.form
      have hbw : Below w.heap.size w wr.drew := (bl_tr HB.out hR.out).drew
      have hbr : Below w2.heap.size w2 wr.drew := hR.out.drew
      have c := kc
      have s0 : wr.drew.cell? ⟨w.heap.size, 3, none⟩ = some (.slice (some ⟨b, o, none⟩) t.ks.length kc) ∧ wr.drew.cell? ⟨w.heap.size + 1, 3, none⟩ = some (.slice (some ⟨b', o', none⟩) t.ks.length lc) ∧ wr.drew.cell? ⟨b, o + i * 4, none⟩ = some (.int .i64 x.k) ∧ wr.drew.cell? ⟨b, o + i * 4 + 1, none⟩ = some (.int .i64 x.n) ∧ wr.drew.cell? ⟨b, o + i * 4 + 2, none⟩ = some (.string x.s) ∧ wr.drew.cell? ⟨b, o + i * 4 + 3, none⟩ = some (.slice xa x.ks.length xc) ∧ wr.drew.cell? ⟨b', o' + i * 4, none⟩ = some (.int .i64 x.k) ∧ wr.drew.cell? ⟨b', o' + i * 4 + 1, none⟩ = some (.int .i64 x.n) ∧ wr.drew.cell? ⟨b', o' + i * 4 + 2, none⟩ = some (.string x.s) ∧ wr.drew.cell? ⟨b', o' + i * 4 + 3, none⟩ = some (.slice ya x.ks.length yc) := by
        refine ⟨(X0.out.stays hbr).cell 3, (X1.out.stays hbr).cell 3, ?_, ?_, ?_, ?_, ?_, ?_, ?_, ?_⟩
        · have := g2 0 _ rfl; rw [Nat.add_zero] at this; exact (hbw.cell (World.block_lt_of_cell? _ _ this)).trans this
        · have := g2 1 _ rfl; exact (hbw.cell (World.block_lt_of_cell? _ _ this)).trans this
        · have := g2 2 _ rfl; exact (hbw.cell (World.block_lt_of_cell? _ _ this)).trans this
        · have := g2 3 _ rfl; exact (hbw.cell (World.block_lt_of_cell? _ _ this)).trans this
        · have := g5 0 _ rfl; rw [Nat.add_zero] at this; exact (hbw.cell (World.block_lt_of_cell? _ _ this)).trans this
        · have := g5 1 _ rfl; exact (hbw.cell (World.block_lt_of_cell? _ _ this)).trans this
        · have := g5 2 _ rfl; exact (hbw.cell (World.block_lt_of_cell? _ _ this)).trans this
        · have := g5 3 _ rfl; exact (hbw.cell (World.block_lt_of_cell? _ _ this)).trans this
      have hk := hid (fun wz (hb : Below wr.drew.heap.size wr.drew wz) => svKeep hb s0)
      have hQ := hid (HI.out wr.drew m _ _ x (g3.below hbw) (g6.below hbw))
      clear g1 g2 g3 g4 g5 g6 hx hbw hbr
      go_wp2
      refine wp_region_held_drew (S := fun wz => wz.cell? ⟨w.heap.size, 3, none⟩ = some (.slice (some ⟨b, o, none⟩) t.ks.length kc) ∧ wz.cell? ⟨w.heap.size + 1, 3, none⟩ = some (.slice (some ⟨b', o', none⟩) t.ks.length lc) ∧ wz.cell? ⟨b, o + i * 4, none⟩ = some (.int .i64 x.k) ∧ wz.cell? ⟨b, o + i * 4 + 1, none⟩ = some (.int .i64 x.n) ∧ wz.cell? ⟨b, o + i * 4 + 2, none⟩ = some (.string x.s) ∧ wz.cell? ⟨b, o + i * 4 + 3, none⟩ = some (.slice xa x.ks.length xc) ∧ wz.cell? ⟨b', o' + i * 4, none⟩ = some (.int .i64 x.k) ∧ wz.cell? ⟨b', o' + i * 4 + 1, none⟩ = some (.int .i64 x.n) ∧ wz.cell? ⟨b', o' + i * 4 + 2, none⟩ = some (.string x.s) ∧ wz.cell? ⟨b', o' + i * 4 + 3, none⟩ = some (.slice ya x.ks.length yc)) (by kernel_rfl) (s0) (fun hS => ?_)
      refine wpAnyH_take (i := 0) (v := ?_) rfl (by kernel_rfl) (by kernel_rfl) (by kernel_rfl) (fun _ _ _ h => h) (Or.inl ⟨by rfl, ?_⟩) hS ?_
      rotate_left
      · intro wz hz; go_simp; try with_reducible rfl
      try simp only [Act.put, List.setIfInBounds_toArray, List.set_cons_zero, List.set_cons_succ, List.getElem_toArray, List.getElem_cons_succ, List.getElem_cons_zero]
      refine wpAnyH_take (i := 1) (v := ?_) rfl (by kernel_rfl) (by kernel_rfl) (by kernel_rfl) (fun _ _ _ h => h) (Or.inl ⟨by rfl, ?_⟩) hS ?_
      rotate_left
      · intro wz hz; obtain ⟨yy0, yy1, yy2, yy3, yy4, yy5, yy6, yy7, yy8, yy9⟩ := hz; go_simp; try with_reducible rfl
      try simp only [Act.put, List.setIfInBounds_toArray, List.set_cons_zero, List.set_cons_succ, List.getElem_toArray, List.getElem_cons_succ, List.getElem_cons_zero]
      refine wpAnyH_take (i := 2) (v := ?_) rfl (by kernel_rfl) (by kernel_rfl) (by kernel_rfl) (fun _ _ _ h => h) (Or.inl ⟨by rfl, ?_⟩) hS ?_
      rotate_left
      · intro wz hz; go_simp; try with_reducible rfl
      try simp only [Act.put, List.setIfInBounds_toArray, List.set_cons_zero, List.set_cons_succ, List.getElem_toArray, List.getElem_cons_succ, List.getElem_cons_zero]
      refine wpAnyH_take (i := 3) (v := ?_) rfl (by kernel_rfl) (by kernel_rfl) (by kernel_rfl) (fun _ _ _ h => h) (Or.inl ⟨by rfl, ?_⟩) hS ?_
      rotate_left
      · intro wz hz; go_simp; try with_reducible rfl
      try simp only [Act.put, List.setIfInBounds_toArray, List.set_cons_zero, List.set_cons_succ, List.getElem_toArray, List.getElem_cons_succ, List.getElem_cons_zero]
      refine wpAnyH_take (i := 4) (v := ?_) rfl (by kernel_rfl) (by kernel_rfl) (by kernel_rfl) (fun _ _ _ h => h) (Or.inl ⟨by rfl, ?_⟩) hS ?_
      rotate_left
      · intro wz hz; obtain ⟨yy0, yy1, yy2, yy3, yy4, yy5, yy6, yy7, yy8, yy9⟩ := hz; go_simp; try with_reducible rfl
      try simp only [Act.put, List.setIfInBounds_toArray, List.set_cons_zero, List.set_cons_succ, List.getElem_toArray, List.getElem_cons_succ, List.getElem_cons_zero]
      refine wpAnyH_take (i := 5) (v := ?_) rfl (by kernel_rfl) (by kernel_rfl) (by kernel_rfl) (fun _ _ _ h => h) (Or.inl ⟨by rfl, ?_⟩) hS ?_
      rotate_left
      · intro wz hz; go_simp; try with_reducible rfl
      try simp only [Act.put, List.setIfInBounds_toArray, List.set_cons_zero, List.set_cons_succ, List.getElem_toArray, List.getElem_cons_succ, List.getElem_cons_zero]
      refine wpAnyH_take (i := 6) (v := ?_) rfl (by kernel_rfl) (by kernel_rfl) (by kernel_rfl) (fun _ _ _ h => h) (Or.inl ⟨by rfl, ?_⟩) hS ?_
      rotate_left
      · intro wz hz; obtain ⟨yy0, yy1, yy2, yy3, yy4, yy5, yy6, yy7, yy8, yy9⟩ := hz; go_simp; try with_reducible rfl
      try simp only [Act.put, List.setIfInBounds_toArray, List.set_cons_zero, List.set_cons_succ, List.getElem_toArray, List.getElem_cons_succ, List.getElem_cons_zero]
      refine wpAnyH_take (i := 7) (v := ?_) rfl (by kernel_rfl) (by kernel_rfl) (by kernel_rfl) (fun _ _ _ h => h) (Or.inl ⟨by rfl, ?_⟩) hS ?_
      rotate_left
      · intro wz hz; go_simp; try with_reducible rfl
      try simp only [Act.put, List.setIfInBounds_toArray, List.set_cons_zero, List.set_cons_succ, List.getElem_toArray, List.getElem_cons_succ, List.getElem_cons_zero]
      refine wpAnyH_take (i := 8) (v := ?_) rfl (by kernel_rfl) (by kernel_rfl) (by kernel_rfl) (fun _ _ _ h => h) (Or.inl ⟨by rfl, ?_⟩) hS ?_
      rotate_left
      · intro wz hz; go_simp; try with_reducible rfl
      try simp only [Act.put, List.setIfInBounds_toArray, List.set_cons_zero, List.set_cons_succ, List.getElem_toArray, List.getElem_cons_succ, List.getElem_cons_zero]
      refine wpAnyH_take (i := 9) (v := ?_) rfl (by kernel_rfl) (by kernel_rfl) (by kernel_rfl) (fun _ _ _ h => h) (Or.inl ⟨by rfl, ?_⟩) hS ?_
      rotate_left
      · intro wz hz; obtain ⟨yy0, yy1, yy2, yy3, yy4, yy5, yy6, yy7, yy8, yy9⟩ := hz; go_simp; try with_reducible rfl
      try simp only [Act.put, List.setIfInBounds_toArray, List.set_cons_zero, List.set_cons_succ, List.getElem_toArray, List.getElem_cons_succ, List.getElem_cons_zero]
      refine wpAnyH_ready (rs := [10]) (by kernel_rfl) (by simp) (AllReadyH.cons rfl (fun K hK => ?a1_10) AllReadyH.nil)
      case' a1_10 =>
        go_simp
        refine hQ.out.mono ?_
        rintro e w9 ⟨rfl, b9⟩
        have B9 := hid b9
        clear b9
        refine hK.out _ _ ((hk.out _ B9.out)) (fun hSn => ?_)
        clear hK K hS
        have hS := hSn
        clear hSn
        try simp only [Act.put, List.setIfInBounds_toArray, List.set_cons_zero, List.set_cons_succ, List.getElem_toArray, List.getElem_cons_succ, List.getElem_cons_zero]
        refine wpAnyH_take (i := 11) (v := ?_) rfl (by kernel_rfl) (by kernel_rfl) (by kernel_rfl) (fun _ _ _ h => h) (Or.inl ⟨by rfl, ?_⟩) hS ?_
        rotate_left
        · intro wz hz; go_simp; try with_reducible rfl
        try simp only [Act.put, List.setIfInBounds_toArray, List.set_cons_zero, List.set_cons_succ, List.getElem_toArray, List.getElem_cons_succ, List.getElem_cons_zero]
        refine wpAnyH_done (by kernel_rfl) ?_ _
      go_wp2
      go_roundw
      case rel => exact ⟨i + 1, by go_num, by omega, bl_tr hR.out (bl_tr (Below.refl _ _).drew B9.out)⟩
      case measure => simp [intOf]; omega
    · obtain rfl : i = t.ks.length := by omega
      go_wp2
      go_ret
      exact ⟨rfl, bl_tr HB.out hR.out⟩
theorem same_any : ∀ n, SameOf n
  | 0 => fun w m vs ws t h => h.elim
  | n + 1 => same_step n (same_any n)
end Go.Proofs.YtjodgnkhociaaaaGreat
