/- withKids: the pairs that wait. -/
import Derived.Deep.RegionHeld
import Derived.Test.YtknlpeloaapaiaaTsQ
import Derived.Test.YtknlpeloaapaiaaTpF
import Derived.Test.YtknlpeloaapaiaaTpCp
import Derived.Test.YtknlpeloaapaiaaTsG
namespace Go.Proofs.Ytknlpeloaapaiaa
open Go.RowKit
set_option linter.unusedVariables false
set_option linter.unusedSimpArgs false

/-- A pointer to a type. -/
def PAt (w : World) (p : Value) (t : Tp) : Prop := ∃ b o n v, p = .pointer (some ⟨b, o, none⟩) ∧ w.cell? ⟨b, o, none⟩ = some (.int .i64 t.k) ∧ w.cell? ⟨b, o + 1, none⟩ = some (.int .i64 t.n) ∧ w.cell? ⟨b, o + 2, none⟩ = some v ∧ TAt w Any n [.int .i64 t.k, .int .i64 t.n, v] t
/-- Where the i-th part of what p points at lies. -/
def kidAt (w : World) (p : Value) (i : Nat) : Value :=
  match p with
  | .pointer (some a) => match w.cell? ⟨a.block, a.off + 2, none⟩ with
    | some (.slice (some c) _ _) => .pointer (some ⟨c.block, c.off + i * 3, none⟩)
    | _ => .pointer none
  | _ => .pointer none
theorem PAt.kid {w : World} {p : Value} {t x : Tp} {i : Nat} (h : PAt w p t) (hx : t.ks[i]? = some x) : PAt w (kidAt w p i) x := by
  obtain ⟨b, o, n, v, rfl, h1, h2, h3, h4⟩ := h
  cases n with
  | zero => exact h4.elim
  | succ n =>
    obtain ⟨v', e, -, -, hL⟩ := h4.open_
    simp only [List.cons.injEq, and_true, true_and] at e
    subst e
    obtain ⟨b', o', c', hv, -⟩ := hL.resolve_right (fun h => by rw [h.1] at hx; simp at hx)
    subst hv
    obtain ⟨vx, tx, x0, x1, x2, -, -⟩ := hL.elem hx
    refine ⟨b', o' + i * 3, n, vx, ?_, x0, x1, x2, tx⟩
    simp [kidAt, h3]
theorem PAt.slice {w : World} {b o : Nat} {t : Tp} (h : PAt w (.pointer (some ⟨b, o, none⟩)) t) : ∃ a c, w.cell? ⟨b, o + 2, none⟩ = some (.slice a t.ks.length c) ∧ t.ks.length ≤ maxLen ∧ ∀ i : Nat, i < t.ks.length → ∃ b' o', a = some ⟨b', o', none⟩ ∧ kidAt w (.pointer (some ⟨b, o, none⟩)) i = .pointer (some ⟨b', o' + i * 3, none⟩) := by
  obtain ⟨b0, o0, n, v, e, h1, h2, h3, h4⟩ := h
  injection e with e
  injection e with e
  injection e with e1 e2
  subst e1
  subst e2
  cases n with
  | zero => exact h4.elim
  | succ n =>
    obtain ⟨v', e, -, -, hL⟩ := h4.open_
    simp only [List.cons.injEq, and_true, true_and] at e
    subst e
    obtain ⟨a, c, rfl, hm⟩ := hL.form
    refine ⟨a, c, h3, hm, fun i hi => ?_⟩
    obtain ⟨b', o', c', hv, -⟩ := hL.resolve_right (fun h => by rw [h.1] at hi; simp at hi)
    injection hv with e1 e2 e3
    exact ⟨b', o', e1, by simp [kidAt, h3, e1]⟩
def prCells (ps : List Pr) : List Value := ps.flatMap fun r => [r.p, r.q]
theorem prCells_len (ps : List Pr) : (prCells ps).length = ps.length * 2 := by
  unfold prCells
  induction ps with
  | nil => rfl
  | cons r l ih => rw [List.flatMap_cons, List.length_append, ih]; simp; omega
theorem step_app_eq {P : Program} {ops : Array Oper} {o : Oper} {a : Act} {w : World} {K : Act → World → Prop} {Q : Exit → Act → World → Prop} {E : Prop} (hgd : o.guard = none) (s x : Operand) (t : TypeId) (hop : o.op = .call { callee := .builtin .append, args := #[s, x], argTypes := #[t, t] })
    (v vx : Value) (hs : a.eval s = v) (hx : a.eval x = vx) (v' : Value) (w' : World) (hr : (Builtin.append_ #[t, t] o.type #[v, vx]).run P w = .ok v' w') (hK : K (a.put o.dst v') w') : if Region.wanted o (yielded ops a.tmps) = true then Oper.wp P o a w K Q else E := by
  have hw : Region.wanted o (yielded ops a.tmps) = true := by simp [Region.wanted, hgd]
  rw [if_pos hw]
  unfold Oper.wp execOp
  simp only [hop, resolve, invoke, builtin, Sem.run_bind, Sem.run_pure, Result.andThen_ok, List.map_toArray, List.map_cons, List.map_nil, hs, hx, hr]
  exact hK
theorem info_pair : (Try.prog.info? 122).map (fun i => (i.zero, i.size, i.bytes)) = some (some (.agg #[.pointer none, .pointer none]), 2, 16) := by kernel_rfl

set_option maxHeartbeats 4000000 in
set_option maxRecDepth 100000 in
theorem withKids_any (W0 w : World) (wv p q : Value) (s t : Tp) (ps : List Pr) (hW : Below W0.heap.size W0 w) (hp : PAt W0 p s) (hq : PAt W0 q t) (hl : s.ks.length = t.ks.length) (hown : w.ownsRow (W0.heap.size + 1) 122 2 wv ps.length (prCells ps)) (hF : W0.heap.size + 1 ≤ w.heap.size) (hlen : ps.length + s.ks.length ≤ 2097152) :
    Calls Try.prog 72 #[wv, p, q] w fun e w' => ∃ wv', e = .returned wv' ∧ w'.ownsRow (W0.heap.size + 1) 122 2 wv' (ps ++ kidsOf (kidAt W0 p) (kidAt W0 q) s.ks t.ks s.ks.length).length (prCells (ps ++ kidsOf (kidAt W0 p) (kidAt W0 q) s.ks t.ks s.ks.length)) ∧ Ev (fun b => wv.ownBlock = some b) w (fun b => wv'.ownBlock = some b) w' := by
  obtain ⟨b, o, n, v, rfl, h1, h2, h3, h4⟩ := id hp
  obtain ⟨b', o', n', v', rfl, g1, g2, g3, g4⟩ := id hq
  obtain ⟨a, c, hs, hm, hk⟩ := hp.slice
  obtain ⟨a', c', hs', hm', hk'⟩ := hq.slice
  unfold maxLen at hm
  have hc0 : ∀ wz, Below W0.heap.size W0 wz → wz.cell? ⟨b, o + 2, none⟩ = some (.slice a s.ks.length c) := fun wz hz => (hz.cell (p := ⟨b, o + 2, none⟩) (World.block_lt_of_cell? _ _ hs)).trans hs
  have hc1 : ∀ wz, Below W0.heap.size W0 wz → wz.cell? ⟨b', o' + 2, none⟩ = some (.slice a' t.ks.length c') := fun wz hz => (hz.cell (p := ⟨b', o' + 2, none⟩) (World.block_lt_of_cell? _ _ hs')).trans hs'
  have HC0 := hid hc0
  have HC1 := hid hc1
  have HK := hid hk
  have HK' := hid hk'
  have HO := hid hown
  have HW := hid hW
  have HF := hid hF
  have HLEN := hid hlen
  have hl2 : t.ks.length = s.ks.length := hl.symm
  rw [hl2] at HC1 HK'
  obtain ⟨i0, hi0, hz0, hz1, hz2⟩ := info_parts0 info_pair
  have HI := hid (And.intro hi0 (And.intro hz0 (And.intro hz1 hz2)))
  have q0 := hc0 w hW
  clear hc0 hc1 hk hk' hown hW hF hlen hp hq h1 h2 h3 h4 g1 g2 g3 g4 hs hs' hm' hl hl2 hi0 hz0 hz1 hz2
  generalize hKP : kidAt W0 (.pointer (some ⟨b, o, none⟩)) = kp at HK ⊢
  generalize hKQ : kidAt W0 (.pointer (some ⟨b', o', none⟩)) = kq at HK' ⊢
  clear hKP hKQ
  obtain ⟨ap, cp, rfl⟩ : ∃ ap cp, wv = .slice ap ps.length cp := own_form HO.out
  go_enter Try.func72, Try.ntmps72
  go_wp2
  go_loopw [0, 13] (fun wv1 v wr => ∃ (k : Nat) (a1 : Option Addr) (c1 : Nat), v = .int .i64 k ∧ k ≤ s.ks.length ∧ wv1 = .slice a1 (ps ++ kidsOf kp kq s.ks t.ks k).length c1 ∧ Hid (wr.ownsRow (W0.heap.size + 1) 122 2 (.slice a1 (ps ++ kidsOf kp kq s.ks t.ks k).length c1) (ps ++ kidsOf kp kq s.ks t.ks k).length (prCells (ps ++ kidsOf kp kq s.ks t.ks k))) ∧ Hid (Below W0.heap.size W0 wr) ∧ Hid (Ev (fun b => (Value.slice ap ps.length cp).ownBlock = some b) w (fun b => (Value.slice a1 (ps ++ kidsOf kp kq s.ks t.ks k).length c1).ownBlock = some b) wr)) (fun _ v _ => s.ks.length - (intOf v).toNat)
  case atStart => exact ⟨0, ap, cp, rfl, Nat.zero_le _, by simp [kidsOf], by show World.ownsRow _ _ _ _ _ _ _; simpa [kidsOf] using HO.out, HW, by show Ev _ _ _ _; simpa [kidsOf] using Ev.refl _ _⟩
  case round =>
    obtain ⟨k, a1, c1, rfl, hkl, rfl, hO1, hW1, hE1⟩ := hrel
    by_cases hlt : k < s.ks.length
    · obtain ⟨bk, ok, rfl, ek⟩ := HK.out k hlt
      obtain ⟨bk', ok', rfl, ek'⟩ := HK'.out k hlt
      have x0 := HC0.out wr hW1.out
      have x1 := HC1.out wr hW1.out
      have hlen1 : (ps ++ kidsOf kp kq s.ks t.ks k).length + 1 ≤ 2097152 := by have := HLEN.out; simp [kidsOf]; omega
      have hnx : kidsOf kp kq s.ks t.ks (k + 1) = kidsOf kp kq s.ks t.ks k ++ [⟨kp k, kq k, s.ks.getD k (.mk 0 0 []), t.ks.getD k (.mk 0 0 [])⟩] := by unfold kidsOf; rw [List.range_succ, List.map_append]; rfl
      have hpc : prCells (ps ++ kidsOf kp kq s.ks t.ks (k + 1)) = prCells (ps ++ kidsOf kp kq s.ks t.ks k) ++ [kp k, kq k] := by rw [hnx, ← List.append_assoc]; unfold prCells; rw [List.flatMap_append]; rfl
      have hpl : (ps ++ kidsOf kp kq s.ks t.ks (k + 1)).length = (ps ++ kidsOf kp kq s.ks t.ks k).length + 1 := by rw [hnx, ← List.append_assoc, List.length_append]; rfl
      obtain ⟨A1, A2, A3, A4⟩ := HI.out
      have hbd : Below wr.heap.size wr (wr.drew.alloc (.cells #[kp k, kq k] 122)) := bl_alloc (Below.refl _ _).drew _
      obtain ⟨v2, w2, hr, h2, h3, h5⟩ := append_own2 (P := Try.prog) (wr.drew.alloc (.cells #[kp k, kq k] 122)) (W0.heap.size + 1) 123 123 122 i0 _ 2 16 Try.underlying123 A1 A2 A3 A4 rfl (by decide) _ _ _ (own_stays hO1.out hbd) ⟨wr.heap.size, 0, none⟩ 1 1 [kp k, kq k] rfl
        (fun j u hj => by
          have hh := heap_alloc_at wr.drew (.cells #[kp k, kq k] 122)
          have hcc := cell_at hh j
          match j, hj with
          | 0, hj => simp at hj; subst hj; exact hcc
          | 1, hj => simp at hj; subst hj; exact hcc
          | j + 2, hj => simp at hj)
        (fun u hu => by rw [ek, ek'] at hu; simp at hu; rcases hu with rfl | rfl <;> rfl) (by unfold maxLen; omega) (by omega) (by have := HF.out; have := hE1.out.size; rw [size_alloc]; show _ ≤ wr.heap.size + 1; omega)
      obtain ⟨a2, c2, rfl⟩ := own_form h2
      rw [ek, ek'] at hr
      have hE2 : Ev (fun b => (Value.slice a1 (ps ++ kidsOf kp kq s.ks t.ks k).length c1).ownBlock = some b) wr (fun b => (Value.slice a2 ((ps ++ kidsOf kp kq s.ks t.ks k).length + 1) c2).ownBlock = some b) w2 := by
        have e1 := Ev.of_below (own := fun b => (Value.slice a1 (ps ++ kidsOf kp kq s.ks t.ks k).length c1).ownBlock = some b) hbd
        refine e1.trans ⟨h3.os, h3.tape, h3.output, h3.size, fun b hb => ?_, fun b hb hn => h3.block b hb (fun e => hn e.symm)⟩
        rcases h5 with h5 | h5
        · exact .inl (by show _ = some b; rw [← h5]; exact hb)
        · exact .inr (h5 b hb)
      have hW2 : Below W0.heap.size W0 w2 := by
        refine hW1.out.trans (hE2.below hW1.out.size (fun b hb => ?_))
        have := (hO1.out.lt b hb).1
        omega
      have y0 := HC0.out w2 hW2
      have y1 := HC1.out w2 hW2
      have H2 := hid h2
      have HE2 := hid (hE1.out.trans hE2)
      have HW2 := hid hW2
      have HPC := hid hpc
      have HPL := hid hpl
      have hs0 : Hid (wr.drew.cell? ⟨b, o + 2, none⟩ = some (.slice (some ⟨bk, ok, none⟩) s.ks.length c) ∧ wr.drew.cell? ⟨b', o' + 2, none⟩ = some (.slice (some ⟨bk', ok', none⟩) s.ks.length c')) := ⟨x0, x1⟩
      have hs1 : Hid (∀ oo, (wr.drew.alloc oo).cell? ⟨b, o + 2, none⟩ = some (.slice (some ⟨bk, ok, none⟩) s.ks.length c) ∧ (wr.drew.alloc oo).cell? ⟨b', o' + 2, none⟩ = some (.slice (some ⟨bk', ok', none⟩) s.ks.length c')) := fun oo => ⟨HC0.out _ (hW1.out.trans ((bl_alloc (Below.refl _ _).drew oo : Below wr.heap.size wr (wr.drew.alloc oo)).mono hW1.out.size)), HC1.out _ (hW1.out.trans ((bl_alloc (Below.refl _ _).drew oo : Below wr.heap.size wr (wr.drew.alloc oo)).mono hW1.out.size))⟩
      have hs2 : Hid (w2.cell? ⟨b, o + 2, none⟩ = some (.slice (some ⟨bk, ok, none⟩) s.ks.length c) ∧ w2.cell? ⟨b', o' + 2, none⟩ = some (.slice (some ⟨bk', ok', none⟩) s.ks.length c')) := ⟨y0, y1⟩
      generalize (ps ++ kidsOf kp kq s.ks t.ks k).length = m at *
      clear h2 h3 h5 hE2 hW2 hbd hnx hpc hpl A1 A2 A3 A4 HI HO HW HF HLEN HC0 HC1 HK HK' hO1 hE1 hW1 q0
      go_wp2
      --REGION
      refine wp_region_held_drew (S := fun wz => wz.cell? ⟨b, o + 2, none⟩ = some (.slice (some ⟨bk, ok, none⟩) s.ks.length c) ∧ wz.cell? ⟨b', o' + 2, none⟩ = some (.slice (some ⟨bk', ok', none⟩) s.ks.length c')) (by kernel_rfl) hs0.out (fun hS => ?_)
      refine wpAnyH_take (i := 0) (v := ?_) rfl (by kernel_rfl) (by kernel_rfl) (by kernel_rfl) (fun _ _ _ h => h) (Or.inl ⟨by rfl, ?_⟩) hS ?_
      rotate_left
      · intro wz hz; go_simp; try with_reducible rfl
      try simp only [Act.put, List.setIfInBounds_toArray, List.set_cons_zero, List.set_cons_succ, List.getElem_toArray, List.getElem_cons_succ, List.getElem_cons_zero]
      refine wpAnyH_take (i := 1) (v := ?_) rfl (by kernel_rfl) (by kernel_rfl) (by kernel_rfl) (fun _ _ _ h => h) (Or.inl ⟨by rfl, ?_⟩) hS ?_
      rotate_left
      · intro wz hz; go_simp; try with_reducible rfl
      try simp only [Act.put, List.setIfInBounds_toArray, List.set_cons_zero, List.set_cons_succ, List.getElem_toArray, List.getElem_cons_succ, List.getElem_cons_zero]
      refine wpAnyH_take (i := 2) (v := ?_) rfl (by kernel_rfl) (by kernel_rfl) (by kernel_rfl) (fun _ _ _ h => h) (Or.inl ⟨by rfl, ?_⟩) hS ?_
      rotate_left
      · intro wz hz; go_simp; try with_reducible rfl
      try simp only [Act.put, List.setIfInBounds_toArray, List.set_cons_zero, List.set_cons_succ, List.getElem_toArray, List.getElem_cons_succ, List.getElem_cons_zero]
      refine wpAnyH_take (i := 3) (v := ?_) rfl (by kernel_rfl) (by kernel_rfl) (by kernel_rfl) (fun _ _ _ h => h) (Or.inl ⟨by rfl, ?_⟩) hS ?_
      rotate_left
      · intro wz hz; go_simp; try with_reducible rfl
      try simp only [Act.put, List.setIfInBounds_toArray, List.set_cons_zero, List.set_cons_succ, List.getElem_toArray, List.getElem_cons_succ, List.getElem_cons_zero]
      refine wpAnyH_take (i := 4) (v := ?_) rfl (by kernel_rfl) (by kernel_rfl) (by kernel_rfl) (fun _ _ _ h => h) (Or.inl ⟨by rfl, ?_⟩) hS ?_
      rotate_left
      · intro wz hz; obtain ⟨yy0, yy1⟩ := hz; go_simp; try with_reducible rfl
      try simp only [Act.put, List.setIfInBounds_toArray, List.set_cons_zero, List.set_cons_succ, List.getElem_toArray, List.getElem_cons_succ, List.getElem_cons_zero]
      refine wpAnyH_take (i := 5) (v := ?_) rfl (by kernel_rfl) (by kernel_rfl) (by kernel_rfl) (fun _ _ _ h => h) (Or.inl ⟨by rfl, ?_⟩) hS ?_
      rotate_left
      · intro wz hz; go_simp; try with_reducible rfl
      try simp only [Act.put, List.setIfInBounds_toArray, List.set_cons_zero, List.set_cons_succ, List.getElem_toArray, List.getElem_cons_succ, List.getElem_cons_zero]
      refine wpAnyH_take (i := 6) (v := ?_) rfl (by kernel_rfl) (by kernel_rfl) (by kernel_rfl) (fun _ _ _ h => h) (Or.inl ⟨by rfl, ?_⟩) hS ?_
      rotate_left
      · intro wz hz; go_simp; try with_reducible rfl
      try simp only [Act.put, List.setIfInBounds_toArray, List.set_cons_zero, List.set_cons_succ, List.getElem_toArray, List.getElem_cons_succ, List.getElem_cons_zero]
      refine wpAnyH_take (i := 7) (v := ?_) rfl (by kernel_rfl) (by kernel_rfl) (by kernel_rfl) (fun _ _ _ h => h) (Or.inl ⟨by rfl, ?_⟩) hS ?_
      rotate_left
      · intro wz hz; go_simp; try with_reducible rfl
      try simp only [Act.put, List.setIfInBounds_toArray, List.set_cons_zero, List.set_cons_succ, List.getElem_toArray, List.getElem_cons_succ, List.getElem_cons_zero]
      refine wpAnyH_take (i := 8) (v := ?_) rfl (by kernel_rfl) (by kernel_rfl) (by kernel_rfl) (fun _ _ _ h => h) (Or.inl ⟨by rfl, ?_⟩) hS ?_
      rotate_left
      · intro wz hz; go_simp; try with_reducible rfl
      try simp only [Act.put, List.setIfInBounds_toArray, List.set_cons_zero, List.set_cons_succ, List.getElem_toArray, List.getElem_cons_succ, List.getElem_cons_zero]
      refine wpAnyH_take (i := 9) (v := ?_) rfl (by kernel_rfl) (by kernel_rfl) (by kernel_rfl) (fun _ _ _ h => h) (Or.inl ⟨by rfl, ?_⟩) hS ?_
      rotate_left
      · intro wz hz; go_simp; try with_reducible rfl
      try simp only [Act.put, List.setIfInBounds_toArray, List.set_cons_zero, List.set_cons_succ, List.getElem_toArray, List.getElem_cons_succ, List.getElem_cons_zero]
      refine wpAnyH_take (i := 10) (v := ?_) rfl (by kernel_rfl) (by kernel_rfl) (by kernel_rfl) (fun _ _ _ h => h) (Or.inl ⟨by rfl, ?_⟩) hS ?_
      rotate_left
      · intro wz hz; obtain ⟨yy0, yy1⟩ := hz; go_simp; try with_reducible rfl
      try simp only [Act.put, List.setIfInBounds_toArray, List.set_cons_zero, List.set_cons_succ, List.getElem_toArray, List.getElem_cons_succ, List.getElem_cons_zero]
      refine wpAnyH_take (i := 11) (v := ?_) rfl (by kernel_rfl) (by kernel_rfl) (by kernel_rfl) (fun _ _ _ h => h) (Or.inl ⟨by rfl, ?_⟩) hS ?_
      rotate_left
      · intro wz hz; go_simp; try with_reducible rfl
      try simp only [Act.put, List.setIfInBounds_toArray, List.set_cons_zero, List.set_cons_succ, List.getElem_toArray, List.getElem_cons_succ, List.getElem_cons_zero]
      refine wpAnyH_take (i := 12) (v := ?_) rfl (by kernel_rfl) (by kernel_rfl) (by kernel_rfl) (fun _ _ _ h => h) (Or.inl ⟨by rfl, ?_⟩) hS ?_
      rotate_left
      · intro wz hz; go_simp; try with_reducible rfl
      try simp only [Act.put, List.setIfInBounds_toArray, List.set_cons_zero, List.set_cons_succ, List.getElem_toArray, List.getElem_cons_succ, List.getElem_cons_zero]
      refine wpAnyH_take (i := 13) (v := ?_) rfl (by kernel_rfl) (by kernel_rfl) (by kernel_rfl) (fun _ _ _ h => h) (Or.inl ⟨by rfl, ?_⟩) hS ?_
      rotate_left
      · intro wz hz; go_simp; try with_reducible rfl
      try simp only [Act.put, List.setIfInBounds_toArray, List.set_cons_zero, List.set_cons_succ, List.getElem_toArray, List.getElem_cons_succ, List.getElem_cons_zero]
      refine wpAnyH_ready (rs := [14]) (by kernel_rfl) (by simp) (AllReadyH.cons rfl (fun K hK => ?_) AllReadyH.nil)
      go_simp
      refine hK.out _ _ (hs1.out _) (fun hSn => ?_)
      clear hK K hS
      have hS := hSn
      clear hSn
      try simp only [Act.put, List.setIfInBounds_toArray, List.set_cons_zero, List.set_cons_succ, List.getElem_toArray, List.getElem_cons_succ, List.getElem_cons_zero]
      refine wpAnyH_ready (rs := [15]) (by kernel_rfl) (by simp) (AllReadyH.cons rfl (fun K hK => ?_) AllReadyH.nil)
      refine step_app_eq rfl _ _ _ rfl _ _ rfl rfl _ _ hr ?_
      refine hK.out _ _ hs2.out (fun hSn => ?_)
      clear hK K hS
      have hS := hSn
      clear hSn
      try simp only [Act.put, List.setIfInBounds_toArray, List.set_cons_zero, List.set_cons_succ, List.getElem_toArray, List.getElem_cons_succ, List.getElem_cons_zero]
      refine wpAnyH_take (i := 16) (v := ?_) rfl (by kernel_rfl) (by kernel_rfl) (by kernel_rfl) (fun _ _ _ h => h) (Or.inl ⟨by rfl, ?_⟩) hS ?_
      rotate_left
      · intro wz hz; go_simp; try with_reducible rfl
      try simp only [Act.put, List.setIfInBounds_toArray, List.set_cons_zero, List.set_cons_succ, List.getElem_toArray, List.getElem_cons_succ, List.getElem_cons_zero]
      refine wpAnyH_done (by kernel_rfl) ?_ _
      --END
      go_wp2
      go_roundw
      case rel => exact ⟨k + 1, a2, c2, by go_num, by omega, by rw [HPL.out], by show World.ownsRow _ _ _ _ _ _ _; rw [HPL.out, HPC.out]; exact H2.out, HW2, by show Ev _ _ _ _; rw [HPL.out]; exact HE2.out⟩
      case measure => simp [intOf]; omega
    · obtain rfl : k = s.ks.length := by omega
      go_wp2
      go_ret
      exact ⟨_, rfl, hO1.out, hE1.out⟩
end Go.Proofs.Ytknlpeloaapaiaa
