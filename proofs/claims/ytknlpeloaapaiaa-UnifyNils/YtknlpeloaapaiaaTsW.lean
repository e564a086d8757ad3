/- without. -/
import Derived.Test.YtknlpeloaapaiaaTsD
namespace Go.Proofs.Ytknlpeloaapaiaa
open Go.RowKit
set_option linter.unusedVariables false
set_option linter.unusedSimpArgs false

theorem run_makeMap_some (n : Nat) (w : World) : (Instr.makeMap 60 (some (.int .i64 (n : Int)))).run Try.prog w = .ok (.map (some w.heap.size)) (w.alloc (.map #[] 0)) := by
  have h : ¬ ((n : Int) < 0) := by omega
  simp [Instr.makeMap, asInt, asIntOf, h, run_underlying Try.underlying60]
/-- The box with the map of what is kept. -/
def Kpt (B C n : Nat) (s : List Int) (w : World) : Prop := w.cell? ⟨B, 0, none⟩ = some (.map (some C)) ∧ Told w C n s
theorem Kpt.st (B C n : Nat) (s : List Int) : Jst (Kpt B C n s) := fun w w' h hb => ⟨(hb.cell (p := ⟨B, 0, none⟩) (World.block_lt_of_cell? _ _ h.1)).trans h.1, h.2.stays hb⟩
theorem enters_wo : Enters 67 := enters_of Try.func67 (by kernel_rfl) rfl

set_option maxRecDepth 100000 in
theorem wo_del (B C n : Nat) (s : List Int) : DelOf 67 (.pointer (some ⟨B, 0, none⟩)) (fun x => decide (x ∈ s)) (Kpt B C n s) := by
  intro wz x hJ hx
  have hlook := hJ.2.look x hx
  have hc := hJ.1
  clear hJ hx
  show Calls _ _ _ _ (fun e w' => e = .returned (.bool (decide (x ∈ s))) ∧ _)
  generalize decide (x ∈ s) = r at hlook ⊢
  go_enter Try.func67, Try.ntmps67
  go_wp2_with (at_lookup; refine wpList_look rfl _ _ _ _ rfl _ _ _ rfl rfl hlook ?_)
  go_ret
  exact ⟨rfl, bl_alloc (Below.refl _ _) _⟩

/-- numbers, with the list's own row. -/
theorem own_below {w w' : World} {base base' : Nat} {e : TypeId} {v : Value} {n : Nat} {xs : List Value} (h : w.ownsRow base e 1 v n xs) (hb : base' ≤ base) : w.ownsRow base' e 1 v n xs := by
  refine ⟨h.1, ?_⟩
  rcases h.2 with h2 | ⟨g, cap, cur, h3, h4, h5⟩
  · exact .inl h2
  · exact .inr ⟨g, cap, cur, h3, Nat.le_trans hb h4, h5⟩
set_option maxHeartbeats 1000000 in
set_option maxRecDepth 100000 in
theorem numbers_own (w : World) (n : Nat) (vs : List Value) (t : Tp) (kind : Int) (hT : TAt w Any n vs t) (hc : t.cnt ≤ 1048576) : Calls Try.prog 40 #[.agg vs.toArray, .int .i64 kind] w fun e w' => ∃ p c, e = .returned (.slice p (Tp.found kind t []).length c) ∧ w'.ownsRow w.heap.size 3 1 (.slice p (Tp.found kind t []).length c) (Tp.found kind t []).length ((Tp.found kind t []).map (.int .i64)) ∧ Below w.heap.size w w' := by
  have hq : Hid (∀ o, Calls Try.prog 38 #[.agg vs.toArray, .func (.func 69) #[.pointer (some ⟨w.heap.size + 1 + 1, 0, none⟩)] #[]] (((w.alloc o).alloc (.map #[] 0)).alloc (.cells #[.int .i64 kind, .slice none 0 0, .map (some (w.heap.size + 1))] 116)) fun e w' => e = .returned (.bool true) ∧ ∃ p c, Gth (w.heap.size + 1 + 1) (w.heap.size + 1) kind (.slice p (Tp.found kind t []).length c) (Tp.found kind t []) w' ∧ Below w.heap.size w w') := by
    intro o
    have hb : Below w.heap.size w (((w.alloc o).alloc (.map #[] 0)).alloc (.cells #[.int .i64 kind, .slice none 0 0, .map (some (w.heap.size + 1))] 116)) := bl_alloc (bl_alloc (bl_alloc (Below.refl _ _) _) _) _
    have hT1 : TAt (((w.alloc o).alloc (.map #[] 0)).alloc (.cells #[.int .i64 kind, .slice none 0 0, .map (some (w.heap.size + 1))] 116)) (fun b => ¬ Og (w.heap.size + 1 + 1) (w.heap.size + 1) (.slice none 0 0) b) n vs t := (TAt.old hT).move (Keeps.of_below hb) fun b h ho => by
      rcases ho with ho | ho | ho
      · omega
      · omega
      · cases ho
    refine (walk_anyB List.length 1048576 _ _ (Tp.fTake kind) (IGth (w.heap.size + 1 + 1) (w.heap.size + 1) kind) _ _ (fTake_len kind) (IGth.steady _ _ kind) enters_take (take_see _ _ kind _ _) n _ _ [] vs t ⟨_, gth_new w kind o, rfl⟩ (Ev.refl _ _) (TAt.oldK hT1) (by rw [List.length_nil]; omega)).mono ?_
    rintro e w' ⟨rfl, own', ⟨lv, hG, rfl⟩, hE⟩
    rw [Tp.walk_take] at hG ⊢
    obtain ⟨p, c, rfl⟩ := own_form hG.own
    refine ⟨rfl, p, c, hG, hb.trans (hE.below (by simp; omega) (fun b hb => ?_))⟩
    rcases hb with hb | hb | hb
    · omega
    · omega
    · cases hb
  obtain ⟨a, c, rfl⟩ := hT.form
  clear hT hc
  have hmm := @run_makeMap Try.prog
  go_enter Try.func40, Try.ntmps40
  go_wp2_with (go_at_call 38; refine (hq.out _).mono ?_; rintro e w2 ⟨rfl, p2, c2, hG2, hb2⟩; have HG : Hid (Gth _ _ _ _ _ w2) := hG2; have k1 := hG2.b.cell; clear hG2)
  go_ret
  exact ⟨_, _, rfl, own_below (w' := w2) HG.out.own (by omega), hb2⟩

set_option maxRecDepth 100000 in
theorem Metas_own (w : World) (n : Nat) (vs : List Value) (t : Tp) (hT : TAt w Any n vs t) (hc : t.cnt ≤ 1048576) : Calls Try.prog 36 #[.agg vs.toArray] w fun e w' => ∃ p c, e = .returned (.slice p (Tp.found 7 t []).length c) ∧ w'.ownsRow w.heap.size 3 1 (.slice p (Tp.found 7 t []).length c) (Tp.found 7 t []).length ((Tp.found 7 t []).map (.int .i64)) ∧ Below w.heap.size w w' := by
  have hq : Hid (∀ o, Calls Try.prog 40 #[.agg vs.toArray, .int .i64 7] (w.alloc o) fun e w' => ∃ p c, e = .returned (.slice p (Tp.found 7 t []).length c) ∧ w'.ownsRow w.heap.size 3 1 (.slice p (Tp.found 7 t []).length c) (Tp.found 7 t []).length ((Tp.found 7 t []).map (.int .i64)) ∧ Below w.heap.size w w') := fun o => (numbers_own _ n vs t 7 (hT.below (bl_alloc (Below.refl _ _) _)) hc).mono fun e w' ⟨p, c, h1, h2, h3⟩ => ⟨p, c, h1, own_below (w' := w') h2 (by simp), bl_tr (bl_alloc (Below.refl _ _) _) h3⟩
  obtain ⟨a, c, rfl⟩ := hT.form
  clear hT hc
  go_enter Try.func36, Try.ntmps36
  go_wp2_with (go_at_call 40; refine (hq.out _).mono ?_; rintro e w2 ⟨p2, c2, rfl, h2, hb2⟩; have H2 := hid h2; clear h2)
  go_ret
  exact ⟨_, _, rfl, H2.out, hb2⟩

set_option maxHeartbeats 2000000 in
set_option maxRecDepth 100000 in
theorem without_any (w : World) (base : Nat) (v kv : Value) (l keep : List Int) (h : w.ownsRow base 3 1 v l.length (l.map (.int .i64))) (hk : Ls w Any kv keep) (hbw : base ≤ w.heap.size) (h64 : ∀ x ∈ l, R64 x) (hk64 : ∀ x ∈ keep, R64 x) (hlen : l.length ≤ 1048576) (hkl : keep.length ≤ 1048576) : Calls Try.prog 35 #[v, kv] w fun e w' => ∃ v', e = .returned v' ∧ Ls w' Any v' (l.filter fun x => !decide (x ∈ keep)) ∧ Below base w w' := by
  have HD : Hid (∀ wz n, Below w.heap.size w wz → w.heap.size + 2 ≤ wz.heap.size → Kpt (w.heap.size + 1) w.heap.size n keep wz → Calls Try.prog 66 #[v, .func (.func 67) #[] #[.pointer (some ⟨w.heap.size + 1, 0, none⟩)]] wz fun e w' => ∃ v', e = .returned v' ∧ Ls w' Any v' (l.filter fun x => !decide (x ∈ keep)) ∧ Below base wz w') := by
    intro wz n hz hs hK
    refine delF_any _ _ _ _ enters_wo (Kpt.st _ _ n keep) (wo_del _ _ n keep) wz base v l hK (own_stays h hz) (Nat.le_trans hbw hz.size) h64 (fun w' b o u hb hJ => ?_) hlen
    have hlt := (h.lt b hb).2
    refine ⟨?_, hJ.2.set (by show w.heap.size ≠ b; omega) u⟩
    have := hJ.1
    rw [← this]
    exact World.cell?_of_block (w := w') (Below.heap_setCell _ _ _ _ (by show w.heap.size + 1 ≠ b; omega))
  obtain ⟨a, c, rfl⟩ := own_form h
  obtain ⟨ak, ck, rfl, hm⟩ := hk.form
  unfold maxLen at hm
  have HK := hid hk
  have H64 := hid hk64
  have hmm := run_makeMap_some keep.length
  have HT0 : Hid (∀ o, Told ((w.alloc (.map #[] 0)).alloc o) w.heap.size 0 []) := fun o => (told_new w).stays (bl_alloc (Below.refl _ _) o)
  have HB0 : Hid (∀ o, Below w.heap.size w ((w.alloc (.map #[] 0)).alloc o)) := fun o => bl_alloc (bl_alloc (Below.refl _ _) _) _
  have HBW := hid hbw
  clear h hk h64 hk64 hbw
  go_enter Try.func35, Try.ntmps35
  go_wp2
  go_loopw [13] (fun v wr => ∃ k : Nat, v = .int .i64 k ∧ k ≤ keep.length ∧ Hid (Kpt (w.heap.size + 1) w.heap.size k (keep.take k) wr) ∧ Hid (Below w.heap.size w wr) ∧ Hid (w.heap.size + 2 ≤ wr.heap.size)) (fun v _ => keep.length - (intOf v).toNat)
  case atStart => exact ⟨0, rfl, Nat.zero_le _, ⟨by simp [go_sem], HT0.out _⟩, HB0.out _, by show _ ≤ _; simp⟩
  case round =>
    obtain ⟨k, rfl, hk, hK, hB, hS⟩ := hrel
    have hc0 := hK.out.1
    by_cases hlt : k < keep.length
    · obtain ⟨b, o, c', hv, -, -, -, hl⟩ := HK.out.resolve_right (fun h => by rw [h.1] at hlt; exact absurd hlt (Nat.not_lt_zero _))
      injection hv with e1 e2 e3
      subst e1
      obtain ⟨x, hx⟩ : ∃ x, keep[k]? = some x := ⟨_, List.getElem?_eq_getElem hlt⟩
      have hc := (hB.out.cell (p := ⟨b, o + k, none⟩) (World.block_lt_of_cell? _ _ (hl k x hx))).trans (hl k x hx)
      obtain ⟨w2, hr2, hT2, hG2⟩ := hK.out.2.put x (H64.out x (List.mem_of_getElem? hx)) (by unfold maxLen; omega)
      have hK2 : Kpt (w.heap.size + 1) w.heap.size (k + 1) (keep.take (k + 1)) w2 := by
        refine ⟨?_, by rw [take_next hx]; exact hT2⟩
        rw [← hc0]
        obtain ⟨g1, g2, g3, g4, g5⟩ := hG2
        exact World.cell?_of_block (w := wr) (g5 _ (by have := hS.out; show w.heap.size + 1 < _; omega) (fun e => by injection e with e; have e : w.heap.size + 1 = w.heap.size := e; omega))
      have hB2 : Below w.heap.size w w2 := by
        obtain ⟨g1, g2, g3, g4, g5⟩ := hG2
        exact hB.out.trans ⟨g1, g2, g3, g4, fun j hj => g5 j (by have := hS.out; omega) (fun e => by injection e with e; omega)⟩
      have hS2 : w.heap.size + 2 ≤ w2.heap.size := by obtain ⟨g1, g2, g3, g4, g5⟩ := hG2; exact Nat.le_trans hS.out g4
      have HK2 := hid hK2
      have HB2 := hid hB2
      have HS2 := hid hS2
      clear hl hx e2 e3 hT2 hG2 hK2 hB2 hS2 hK hB hS
      go_wp2_with (at_mapUpdate; refine wpList_mapUp rfl _ _ _ _ rfl _ _ _ rfl rfl rfl _ hr2 ?_)
      go_roundw
      case rel => exact ⟨k + 1, by go_num, by omega, HK2, HB2, HS2⟩
      case measure => simp [intOf]; omega
    · have hk2 : k = keep.length := by omega
      subst hk2
      have hK3 := hK.out
      rw [List.take_length] at hK3
      have HQ := hid (HD.out wr _ hB.out hS.out hK3)
      clear hK hK3 HD
      go_wp2_with (go_at_call 66; refine HQ.out.mono ?_; rintro e w3 ⟨v3, rfl, hL3, hb3⟩; obtain ⟨p3, c3, rfl, -⟩ := hL3.form; have H3 := hid hL3; clear hL3)
      go_ret
      exact ⟨_, rfl, H3.out, (hB.out.mono HBW.out).trans hb3⟩
end Go.Proofs.Ytknlpeloaapaiaa
