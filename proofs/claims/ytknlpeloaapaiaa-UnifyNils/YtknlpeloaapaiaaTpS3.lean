/- numbers, Stamps, Metas, Gens. -/
import Derived.Test.YtknlpeloaapaiaaTpS2
namespace Go.Proofs.Ytknlpeloaapaiaa
open Go.RowKit
set_option linter.unusedVariables false
set_option linter.unusedSimpArgs false

def IGth (M C : Nat) (kind : Int) (s : List Int) (own : Nat → Prop) (w : World) : Prop := ∃ lv, Gth M C kind lv s w ∧ own = Og M C lv
theorem IGth.steady (M C : Nat) (kind : Int) : Steady (IGth M C kind) := by
  refine ⟨fun s own w w' ⟨lv, h, e⟩ hb => ⟨lv, h.stays hb, e⟩, fun s own w b ⟨lv, h, e⟩ ho => ?_⟩
  rw [e] at ho
  rcases ho with rfl | rfl | ho
  · exact h.b.lt
  · exact Nat.lt_trans h.lt h.b.lt
  · exact (h.own.lt b ho).2
theorem fTake_len (kind : Int) (s : List Int) (t : Tp) : (Tp.fTake kind s t).1.length ≤ s.length + 1 := by
  unfold Tp.fTake Tp.ins
  simp only
  split
  · split
    · omega
    · simp
  · omega
theorem take_see (M C : Nat) (kind : Int) (o0 : Nat → Prop) (w0 : World) (n : Nat) : SeeOfB List.length 1048576 69 #[.pointer (some ⟨M, 0, none⟩)] (Tp.fTake kind) (IGth M C kind) o0 w0 n := by
  intro w own s vs t hI hE hT hs
  obtain ⟨lv, hG, rfl⟩ := hI
  cases n with
  | zero => exact hT.elim
  | succ n =>
  obtain ⟨v, rfl, -, hn, -⟩ := hT.open_
  refine (take_any M C kind lv s w t.k t.n v hG hn hs).mono ?_
  rintro e w' ⟨rfl, lv', h1, h2⟩
  exact ⟨rfl, _, ⟨lv', h1, rfl⟩, h2⟩
theorem enters_take : Enters 69 := enters_of Try.func69 (by kernel_rfl) rfl
theorem gth_new (w : World) (kind : Int) (o : Obj) : Gth (w.heap.size + 1 + 1) (w.heap.size + 1) kind (.slice none 0 0) [] (((w.alloc o).alloc (.map #[] 0)).alloc (.cells #[.int .i64 kind, .slice none 0 0, .map (some (w.heap.size + 1))] 116)) := by
  refine ⟨⟨?_⟩, World.ownsRow_nil _ _ _ _, ?_, Nat.lt_succ_self _⟩
  · have := heap_alloc_at ((w.alloc o).alloc (.map #[] 0)) (.cells #[.int .i64 kind, .slice none 0 0, .map (some (w.heap.size + 1))] 116)
    rw [size_alloc, size_alloc] at this
    exact this
  · have := told_new (w.alloc o)
    rw [size_alloc] at this
    exact this.stays (bl_alloc (Below.refl _ _) _)

set_option maxHeartbeats 1000000 in
set_option maxRecDepth 100000 in
theorem numbers_any (w : World) (n : Nat) (vs : List Value) (t : Tp) (kind : Int) (hT : TAt w Any n vs t) (hc : t.cnt ≤ 1048576) : Calls Try.prog 40 #[.agg vs.toArray, .int .i64 kind] w fun e w' => ∃ v, e = .returned v ∧ Ls w' Any v (Tp.found kind t []) ∧ Below w.heap.size w w' := by
  have hq : Hid (∀ o, Calls Try.prog 38 #[.agg vs.toArray, .func (.func 69) #[.pointer (some ⟨w.heap.size + 1 + 1, 0, none⟩)] #[]] (((w.alloc o).alloc (.map #[] 0)).alloc (.cells #[.int .i64 kind, .slice none 0 0, .map (some (w.heap.size + 1))] 116)) fun e w' => e = .returned (.bool true) ∧ ∃ p c, Gth (w.heap.size + 1 + 1) (w.heap.size + 1) kind (.slice p (Tp.found kind t []).length c) (Tp.found kind t []) w' ∧ Below w.heap.size w w') := by
    intro o
    have hb : Below w.heap.size w (((w.alloc o).alloc (.map #[] 0)).alloc (.cells #[.int .i64 kind, .slice none 0 0, .map (some (w.heap.size + 1))] 116)) := bl_alloc (bl_alloc (bl_alloc (Below.refl _ _) _) _) _
    have hT1 : TAt (((w.alloc o).alloc (.map #[] 0)).alloc (.cells #[.int .i64 kind, .slice none 0 0, .map (some (w.heap.size + 1))] 116)) (fun b => ¬ Og (w.heap.size + 1 + 1) (w.heap.size + 1) (.slice none 0 0) b) n vs t := (TAt.old hT).move (Keeps.of_below hb) fun b h ho => by
      rcases ho with ho | ho | ho
      · omega
      · omega
      · cases ho
    refine (walk_anyB List.length 1048576 _ _ (Tp.fTake kind) (IGth (w.heap.size + 1 + 1) (w.heap.size + 1) kind) _ _ (fTake_len kind) (IGth.steady _ _ kind) enters_take (take_see _ _ kind _ _) n _ _ [] vs t ⟨_, gth_new w kind o, rfl⟩ (Ev.refl _ _) (TAt.oldK hT1) (by rw [List.length_nil]; omega)).mono ?_
    rintro e w' ⟨rfl, own', ⟨lv, hG, rfl⟩, hE⟩
    rw [Tp.walk_take] at hG ⊢
    obtain ⟨p, c, rfl⟩ := own_form hG.own
    refine ⟨rfl, p, c, hG, hb.trans (hE.below (by simp; omega) (fun b hb => ?_))⟩
    rcases hb with hb | hb | hb
    · omega
    · omega
    · cases hb
  obtain ⟨a, c, rfl⟩ := hT.form
  clear hT hc
  have hmm := @run_makeMap Try.prog
  go_enter Try.func40, Try.ntmps40
  go_wp2_with (go_at_call 38; refine (hq.out _).mono ?_; rintro e w2 ⟨rfl, p2, c2, hG2, hb2⟩; have HG : Hid (Gth _ _ _ _ _ w2) := hG2; have k1 := hG2.b.cell; clear hG2)
  go_ret
  exact ⟨_, rfl, Ls.of_own HG.out.own, hb2⟩

set_option maxRecDepth 100000 in
theorem Metas_any (w : World) (n : Nat) (vs : List Value) (t : Tp) (hT : TAt w Any n vs t) (hc : t.cnt ≤ 1048576) : Calls Try.prog 36 #[.agg vs.toArray] w fun e w' => ∃ v, e = .returned v ∧ Ls w' Any v (Tp.found 7 t []) ∧ Below w.heap.size w w' := by
  have hq : Hid (∀ o, Calls Try.prog 40 #[.agg vs.toArray, .int .i64 7] (w.alloc o) fun e w' => ∃ v, e = .returned v ∧ Ls w' Any v (Tp.found 7 t []) ∧ Below w.heap.size w w') := fun o => (numbers_any _ n vs t 7 (hT.below (bl_alloc (Below.refl _ _) _)) hc).mono fun e w' ⟨v, h1, h2, h3⟩ => ⟨v, h1, h2, bl_tr (bl_alloc (Below.refl _ _) _) h3⟩
  obtain ⟨a, c, rfl⟩ := hT.form
  clear hT hc
  go_enter Try.func36, Try.ntmps36
  go_wp2_with (go_at_call 40; refine (hq.out _).mono ?_; rintro e w2 ⟨v2, rfl, h2, hb2⟩; obtain ⟨p2, c2, rfl, -⟩ := h2.form; have H2 : Hid (Ls w2 Any _ _) := h2; clear h2)
  go_ret
  exact ⟨_, rfl, H2.out, hb2⟩

set_option maxRecDepth 100000 in
theorem Gens_any (w : World) (n : Nat) (vs : List Value) (t : Tp) (hT : TAt w Any n vs t) (hc : t.cnt ≤ 1048576) : Calls Try.prog 15 #[.agg vs.toArray] w fun e w' => ∃ v, e = .returned v ∧ Ls w' Any v (Tp.found 8 t []) ∧ Below w.heap.size w w' := by
  have hq : Hid (∀ o, Calls Try.prog 40 #[.agg vs.toArray, .int .i64 8] (w.alloc o) fun e w' => ∃ v, e = .returned v ∧ Ls w' Any v (Tp.found 8 t []) ∧ Below w.heap.size w w') := fun o => (numbers_any _ n vs t 8 (hT.below (bl_alloc (Below.refl _ _) _)) hc).mono fun e w' ⟨v, h1, h2, h3⟩ => ⟨v, h1, h2, bl_tr (bl_alloc (Below.refl _ _) _) h3⟩
  obtain ⟨a, c, rfl⟩ := hT.form
  clear hT hc
  go_enter Try.func15, Try.ntmps15
  go_wp2_with (go_at_call 40; refine (hq.out _).mono ?_; rintro e w2 ⟨v2, rfl, h2, hb2⟩; obtain ⟨p2, c2, rfl, -⟩ := h2.form; have H2 : Hid (Ls w2 Any _ _) := h2; clear h2)
  go_ret
  exact ⟨_, rfl, H2.out, hb2⟩

end Go.Proofs.Ytknlpeloaapaiaa
