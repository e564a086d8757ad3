/- A scope's back. -/
import Derived.Test.YtigliglmejkakaaGreatRar
namespace Go.Proofs.YtigliglmejkakaaGreat.Tgt
open Go.RowKit
set_option linter.unusedVariables false
set_option linter.unusedSimpArgs false

/-- The list of what was hidden, of a scope that has bound something. -/
theorem Scp.top {w : World} {B : Nat} {mv lv : Value} {p : Int × Int} {r : List (Int × Int)} {n : Nat} (h : Scp w B mv lv (p :: r) n) : ∃ C g cap, mv = .map (some C) ∧ lv = .slice (some ⟨g, 0, none⟩) (r.length + 1) cap ∧ B ≤ C ∧ MapIs w C n (p :: r) ∧ B ≤ g ∧ g < w.heap.size ∧ g ≠ C ∧ r.length + 1 ≤ cap ∧ cap ≤ maxLen
    ∧ w.cell? ⟨g, r.length * 3, none⟩ = some (.int .i64 p.1) ∧ w.cell? ⟨g, r.length * 3 + 1, none⟩ = some (.int .i64 ((lk r p.1).getD 0)) ∧ w.cell? ⟨g, r.length * 3 + 2, none⟩ = some (.bool (lk r p.1).isSome)
    ∧ ∀ w' : World, w'.heap[g]? = w.heap[g]? → w'.ownsRow B HT 3 (.slice (some ⟨g, 0, none⟩) r.length cap) r.length (hidc r) := by
  rcases h.map with ⟨-, h1⟩ | ⟨C, rfl, hB, hm⟩
  · cases h1
  · rcases h.row.2 with ⟨-, h1⟩ | ⟨g, cap, cur, rfl, hg, hb, hc, hcm, hcs, ht⟩
    · simp at h1
    · have hgl : g < w.heap.size := by
        rcases Nat.lt_or_ge g w.heap.size with h' | h'
        · exact h'
        · simp [Array.getElem?_eq_none h'] at hb
      have hne : g ≠ C := fun e => by
        subst e
        obtain ⟨D, ⟨es, cl, h7, -⟩, -⟩ := hm
        rw [h7] at hb
        cases hb
      have hcell : ∀ (j : Nat) u, (hidc (p :: r))[j]? = some u → w.cell? ⟨g, j, none⟩ = some u := by
        intro j u hj
        rw [cell_at hb]
        rw [← ht, List.getElem?_take] at hj
        split at hj
        · simpa using hj
        · cases hj
      have hl : (hidc r).length = r.length * 3 := hidc_len r
      refine ⟨C, g, cap, rfl, rfl, hB, hm, hg, hgl, hne, hc, hcm, hcell _ _ ?_, hcell _ _ ?_, hcell _ _ ?_, fun w' hw => ⟨hidc_len r, .inr ⟨g, cap, cur, rfl, hg, hw.trans hb, by simp at hc; omega, hcm, hcs, ?_⟩⟩⟩
      · rw [hidc, List.getElem?_append_right (by omega), hl]; simp
      · rw [hidc, List.getElem?_append_right (by omega), hl]; simp
      · rw [hidc, List.getElem?_append_right (by omega), hl]; simp
      · have h2 : (hidc (p :: r)).take (r.length * 3) = hidc r := by
          rw [hidc, ← hl, List.take_left]
        rw [← h2, ← ht, List.take_take]
        congr 1
        simp
/-- What a round of back comes to. -/
theorem Scp.undone {w w1 : World} {M o B : Nat} {T : TypeId} {vs : List Value} {C g cap : Nat} {p : Int × Int} {r : List (Int × Int)} {n : Nat} (hA : Arr w M T vs) (hM : M < B) (hS : Scp w B (.map (some C)) (.slice (some ⟨g, 0, none⟩) (r.length + 1) cap) (p :: r) n) (hb : Below w.heap.size w w1) :
    ∀ w4 n', MapIs w4 C n' r → (w1.setCell ⟨M, o + 1, none⟩ (.slice (some ⟨g, 0, none⟩) r.length cap)).grownBy w4 (some C) →
      Arr w4 M T (vs.set (o + 1) (.slice (some ⟨g, 0, none⟩) r.length cap)) ∧ Scp w4 B (.map (some C)) (.slice (some ⟨g, 0, none⟩) r.length cap) r n' ∧ Ev (Om M (.map (some C)) (.slice (some ⟨g, 0, none⟩) (r.length + 1) cap)) w (Om M (.map (some C)) (.slice (some ⟨g, 0, none⟩) r.length cap)) w4 := by
  intro w4 n' hm4 hg4
  obtain ⟨C', g', cap', e1, e2, hB, hm, hg, hgl, hne, hc, hcm, -, -, -, hrow⟩ := hS.top
  injection e1 with e1; injection e1 with e1; subst e1
  injection e2 with e2 e3 e4; injection e2 with e2; injection e2 with e2 _ _; subst e2 e4
  have hCM : C ≠ M := by omega
  have hgM : g ≠ M := by omega
  obtain ⟨k1, k2, k3, k4, k5⟩ := hg4
  simp only [World.setCell, Array.size_modify] at k4
  have hs := hb.size
  have bl : ∀ b, b < w.heap.size → b ≠ M → b ≠ C → w4.heap[b]? = w.heap[b]? := fun b h1 h2 h3 => by
    rw [k5 b (by simp only [World.setCell, Array.size_modify]; omega) (fun e => h3 (Option.some.inj e)), Below.heap_setCell _ _ _ _ h2, hb.block b h1]
  refine ⟨⟨?_⟩, ⟨hrow w4 (bl g hgl hgM hne), .inr ⟨C, rfl, hB, hm4⟩, fun q hq => hS.good q (List.mem_cons_of_mem _ hq)⟩, ⟨k1.trans hb.os, k2.trans hb.tape, k3.trans hb.output, by omega, fun b h => ?_, fun b h1 h2 => ?_⟩⟩
  · rw [k5 M (by simp only [World.setCell, Array.size_modify]; have := hA.lt; omega) (fun e => hCM (Option.some.inj e).symm)]
    exact ((hA.stays hb).set (o + 1) _).b
  · rcases h with h | h | h
    · exact .inl (.inl h)
    · exact .inl (.inr (.inl h))
    · exact .inl (.inr (.inr h))
  · exact bl b h1 (fun e => h2 (.inl e)) (fun e => h2 (.inr (.inl (by rw [e]; rfl))))
theorem step_delete {P : Program} {ops : Array Oper} {o : Oper} {a : Act} {w w' : World} {K : Act → World → Prop} {Q : Exit → Act → World → Prop} {E : Prop} (hgd : o.guard = none) (m x : Operand) (t k : TypeId) (hop : o.op = Op.call { callee := Callee.builtin Builtin.delete, args := #[m, x], argTypes := #[t, k] }) (vm vx : Value) (hm : a.eval m = vm) (hx : a.eval x = vx)
    (hr : (Builtin.delete_ #[t, k] o.type #[vm, vx]).run P w = .ok (.tuple #[]) w') (hK : K (a.put o.dst (.tuple #[])) w') : if Region.wanted o (yielded ops a.tmps) = true then Oper.wp P o a w K Q else E := by
  have hw : Region.wanted o (yielded ops a.tmps) = true := by simp [Region.wanted, hgd]
  rw [if_pos hw]
  unfold Oper.wp
  simp [execOp, hop, resolve, invoke, builtin, hm, hx, hr, Result.andThen]
  exact hK
theorem grown_ne {w w' : World} {C b : Nat} (h : w.grownBy w' (some C)) (hb : b < w.heap.size) (hne : b ≠ C) : w'.heap[b]? = w.heap[b]? := h.block b hb (fun e => hne (Option.some.inj e))
/-- How long the list of what was hidden is. -/
def lenAt (M o : Nat) (w : World) : Nat := match w.cell? ⟨M, o, none⟩ with
  | some (.slice _ k _) => k
  | _ => 0

set_option maxHeartbeats 2000000 in
set_option maxRecDepth 100000 in
theorem back_any (w : World) (M o B : Nat) (T : TypeId) (vs : List Value) (mv lv : Value) (e : List (Int × Int)) (n d : Nat) (hA : Arr w M T vs) (h0 : vs[o]? = some mv) (h1 : vs[o + 1]? = some lv) (hS : Scp w B mv lv e n) (hM : M < B) (hn : n + e.length < 4611686018427387904) (hd : d ≤ e.length) :
    Calls Tryz.prog 74 #[.pointer (some ⟨M, o, none⟩), .int .i64 d] w fun x w' => x = .returned (.tuple #[]) ∧ ∃ lv', Arr w' M T (vs.set (o + 1) lv') ∧ Scp w' B mv lv' (e.drop (e.length - d)) (n + e.length) ∧ Ev (Om M mv lv) w (Om M mv lv') w' := by
  have hlen : o + 1 < vs.length := (List.getElem?_eq_some_iff.1 h1).1
  have hlm := hS.len
  unfold maxLen at hlm
  have HS := hid hS
  have HA := hid hA
  have HD : Hid (d ≤ e.length) := hd
  have HN := hid hn
  have hvs : vs.set (o + 1) lv = vs := by
    apply List.ext_getElem?
    intro j
    rw [List.getElem?_set]
    split
    · rename_i h; subst h; rw [h1]
    · rfl
  have HVS := hid hvs
  clear hS hA hn hd hvs
  go_enter Tryz.func74, Tryz.ntmps74
  go_wp2_with fail
  go_loopw [4] (fun _ wr => ∃ (k : Nat) (lv' : Value), Hid (k + d ≤ e.length) ∧ Hid (Arr wr M T (vs.set (o + 1) lv')) ∧ Hid (Scp wr B mv lv' (e.drop k) (n + k)) ∧ Hid (Ev (Om M mv lv) w (Om M mv lv') wr)) (fun _ wr => lenAt M (o + 1) wr)
  case atStart => exact ⟨0, lv, by have := HD.out; show _ ≤ _; omega, by rw [HVS.out]; exact HA, HS, Ev.refl _ _⟩
  case round =>
    obtain ⟨k, lv', hkd, hAr, hSr, hEr⟩ := hrel
    generalize hE : e.drop k = e' at hSr
    have HE := hid hE
    clear hE
    obtain ⟨la, lc, rfl⟩ := hSr.out.form
    have c1 : wr.cell? ⟨M, o + 1, none⟩ = some (.slice la e'.length lc) := (hAr.out.cell (o + 1)).trans (by rw [List.getElem?_set_self hlen])
    by_cases hlt : d < e'.length
    · cases e' with
      | nil => exact absurd hlt (Nat.not_lt_zero _)
      | cons p r =>
        have hl2 : (d : Int) < (r.length : Int) + 1 := by simp at hlt; omega
        obtain ⟨C, g, cap, hmv, hlv, hBC, hm, hBg, hgl, hgC, hcap, hcm, x0, x1, x2, hrow⟩ := hSr.out.top
        injection hlv with e1 e2 e3
        subst e1 e3
        have hMl := hAr.out.lt
        have c0 : wr.cell? ⟨M, o, none⟩ = some (.map (some C)) := (hAr.out.cell o).trans (by rw [List.getElem?_set_ne (by omega), h0, hmv])
        have c1' : ∀ ob, (wr.alloc ob).cell? ⟨M, o + 1, none⟩ = some (.slice (some ⟨g, 0, none⟩) (r.length + 1) lc) := fun ob => ((bl_alloc (Below.refl _ _) ob).cell hMl).trans c1
        have y0 : ∀ ob, (wr.alloc ob).cell? ⟨g, r.length * 3, none⟩ = some (.int .i64 p.1) := fun ob => ((bl_alloc (Below.refl _ _) ob).cell hgl).trans x0
        have y1 : ∀ ob, (wr.alloc ob).cell? ⟨g, r.length * 3 + 1, none⟩ = some (.int .i64 ((lk r p.1).getD 0)) := fun ob => ((bl_alloc (Below.refl _ _) ob).cell hgl).trans x1
        have y2 : ∀ ob, (wr.alloc ob).cell? ⟨g, r.length * 3 + 2, none⟩ = some (.bool (lk r p.1).isSome) := fun ob => ((bl_alloc (Below.refl _ _) ob).cell hgl).trans x2
        have hrl : (r.length : Int) + 1 ≤ 9223372036854775807 := by unfold maxLen at hcm; omega
        have hw1 : IntKind.i64.wrap ((r.length : Int) + 1 - 1) = r.length := by rw [IntKind.wrap_i64]; omega
        clear hlt hrow e2
        have HM := hid hm
        have HMV := hid hmv
        have HCAP := hid hcap
        clear hm hmv hcap hcm
        go_wp2_with fail
        go_region
        have B1 : Hid (Below wr.heap.size wr ((wr.alloc (.cells #[.int .i64 p.1, .int .i64 ((lk r p.1).getD 0), .bool (lk r p.1).isSome] HT)).drew)) := (bl_alloc (Below.refl _ _) _).drew
        have X1 : Hid (Arr ((wr.alloc (.cells #[.int .i64 p.1, .int .i64 ((lk r p.1).getD 0), .bool (lk r p.1).isSome] HT)).drew) wr.heap.size HT [.int .i64 p.1, .int .i64 ((lk r p.1).getD 0), .bool (lk r p.1).isSome]) := Arr.stays ⟨heap_alloc_at _ _⟩ (Below.refl _ _).drew
        generalize ((wr.alloc (.cells #[.int .i64 p.1, .int .i64 ((lk r p.1).getD 0), .bool (lk r p.1).isSome] HT)).drew) = W1 at B1 X1 ⊢
        have A1 := hid (hAr.out.stays B1.out)
        have d1 : W1.cell? ⟨M, o + 1, none⟩ = some (.slice (some ⟨g, 0, none⟩) (r.length + 1) lc) := (B1.out.cell hMl).trans c1
        have d2 := A1.out.frozen
        have hcl : r.length ≤ lc := by have := HCAP.out; omega
        have hcl2 : (r.length : Int) ≤ lc := by omega
        clear c1 c1' x0 x1 x2 y0 y1 y2 c0
        go_wp2_with fail
        go_region
        have Y1 : Hid (Arr ((W1.setCell ⟨M, o + 1, none⟩ (.slice (some ⟨g, 0, none⟩) r.length lc)).drew) wr.heap.size HT [.int .i64 p.1, .int .i64 ((lk r p.1).getD 0), .bool (lk r p.1).isSome]) := (X1.out.other (by show wr.heap.size ≠ M; omega) _).stays (Below.refl _ _).drew
        have Y2 : Hid (Arr ((W1.setCell ⟨M, o + 1, none⟩ (.slice (some ⟨g, 0, none⟩) r.length lc)).drew) M T (vs.set (o + 1) (.slice (some ⟨g, 0, none⟩) r.length lc))) := by
          have := (A1.out.set (o + 1) (.slice (some ⟨g, 0, none⟩) r.length lc)).stays (Below.refl _ _).drew
          rw [List.set_set] at this
          exact this
        have Y3 : Hid (MapIs ((W1.setCell ⟨M, o + 1, none⟩ (.slice (some ⟨g, 0, none⟩) r.length lc)).drew) C (n + k) (p :: r)) := ((HM.out.stays B1.out).block (Below.heap_setCell _ _ _ _ (by show C ≠ M; omega))).stays (Below.refl _ _).drew
        have Y4 : Hid (∀ w4 n', MapIs w4 C n' r → ((W1.setCell ⟨M, o + 1, none⟩ (.slice (some ⟨g, 0, none⟩) r.length lc)).drew).grownBy w4 (some C) → Arr w4 M T (vs.set (o + 1) (.slice (some ⟨g, 0, none⟩) r.length lc)) ∧ Scp w4 B (.map (some C)) (.slice (some ⟨g, 0, none⟩) r.length lc) r n' ∧ Ev (Om M (.map (some C)) (.slice (some ⟨g, 0, none⟩) (r.length + 1) lc)) wr (Om M (.map (some C)) (.slice (some ⟨g, 0, none⟩) r.length lc)) w4) := fun w4 n' hm h => by
          have := Scp.undone (o := o) (w1 := W1) hAr.out hM (by rw [HMV.out] at hSr; exact hSr.out) B1.out w4 n' hm ⟨h.1, h.2, h.3, h.4, h.5⟩
          rw [List.set_set] at this
          exact this
        generalize hW2 : (W1.setCell ⟨M, o + 1, none⟩ (.slice (some ⟨g, 0, none⟩) r.length lc)).drew = W2 at Y1 Y2 Y3 Y4 ⊢
        clear hW2 B1 X1 A1 d1 d2
        have z1 := Y1.out.cell
        have hg1 := hid (hSr.out.good p (by simp))
        have HL2 := hid hl2
        clear hrl hw1 hcl hcl2 hl2 hlm
        have DONE : Hid (∀ w4 n', n' ≤ n + (k + 1) → MapIs w4 C n' r → W2.grownBy w4 (some C) → ((∃ (k : Nat) (lv' : Value), Hid (k + d ≤ e.length) ∧ Hid (Arr w4 M T (vs.set (o + 1) lv')) ∧ Hid (Scp w4 B mv lv' (e.drop k) (n + k)) ∧ Hid (Ev (Om M mv lv) w (Om M mv lv') w4)) ∧ lenAt M (o + 1) w4 < lenAt M (o + 1) wr)) := by
          intro w4 n' hn' hm4 hg4
          obtain ⟨q1, q2, q3⟩ := Y4.out w4 n' hm4 hg4
          have hd : e.drop (k + 1) = r := by rw [← List.tail_drop, HE.out, List.tail_cons]
          have hlr : r.length + (k + 1) = e.length := by have := congrArg List.length HE.out; rw [List.length_drop] at this; simp at this; omega
          refine ⟨⟨k + 1, _, by have := HL2.out; show _ ≤ _; omega, hid q1, by rw [hd, HMV.out]; exact hid (q2.le hn'), by rw [HMV.out]; exact hid (Ev.trans (by have := hEr.out; rw [HMV.out] at this; exact this) q3)⟩, ?_⟩
          have r1 : w4.cell? ⟨M, o + 1, none⟩ = some (.slice (some ⟨g, 0, none⟩) r.length lc) := (q1.cell (o + 1)).trans (by rw [List.getElem?_set_self hlen])
          have r2 : wr.cell? ⟨M, o + 1, none⟩ = some (.slice (some ⟨g, 0, none⟩) (r.length + 1) lc) := (hAr.out.cell (o + 1)).trans (by rw [List.getElem?_set_self hlen]; rfl)
          unfold lenAt
          rw [r1, r2]
          exact Nat.lt_succ_self _
        have HN2 : Hid (n + k < maxLen) := by have := HN.out; have := hkd.out; unfold maxLen; show _ < _; omega
        have G1 : Hid (∀ wz, Below W2.heap.size W2 wz → ∀ j, wz.cell? ⟨wr.heap.size, j, none⟩ = _) := fun wz hz => (Y1.out.stays hz).cell
        have G2 : Hid (∀ wz, Below W2.heap.size W2 wz → wz.cell? ⟨M, o, none⟩ = some (.map (some C))) := fun wz hz => ((Y2.out.stays hz).cell o).trans (by rw [List.getElem?_set_ne (by omega), h0, HMV.out])
        have hC2 := Y3.out.lt
        have hM1 := Y1.out.lt
        have hM2 := Y2.out.lt
        have HGD : Hid (∀ q ∈ r, R64 q.1 ∧ R64 q.2) := fun q hq => hSr.out.good q (List.mem_cons_of_mem _ hq)
        have hCw : C < wr.heap.size := HM.out.lt
        clear Y2 Y4 hSr hAr hEr HM
        cases hlk : lk r p.1 with
        | none =>
          rw [hlk] at z1 G1
          have HLK := hid hlk
          clear hlk
          go_wp2_with fail
          clear z1
          have Y5 := hid (Y3.out.stays (Below.refl _ _).drew)
          have Y7 : Hid (∀ w4, W2.drew.grownBy w4 (some C) → W2.grownBy w4 (some C)) := fun w4 h => ⟨h.1, h.2, h.3, h.4, h.5⟩
          have Y6 : Hid (∀ w4, W2.drew.grownBy w4 (some C) → (∀ j, w4.cell? ⟨wr.heap.size, j, none⟩ = [.int .i64 p.1, .int .i64 ((none : Option Int).getD 0), .bool (none : Option Int).isSome][j]?) ∧ w4.cell? ⟨M, o, none⟩ = some (.map (some C))) := fun w4 h => ⟨fun j => (World.cell?_of_block (w := W2) (a := ⟨wr.heap.size, j, none⟩) (grown_ne (Y7.out w4 h) hM1 (by show wr.heap.size ≠ C; omega))).trans (G1.out W2 (Below.refl _ _) j), (World.cell?_of_block (w := W2) (a := ⟨M, o, none⟩) (grown_ne (Y7.out w4 h) hM2 (by show M ≠ C; omega))).trans (G2.out W2 (Below.refl _ _))⟩
          refine wp_region_held_drew (S := fun wz => (∀ j, wz.cell? ⟨wr.heap.size, j, none⟩ = [.int .i64 p.1, .int .i64 ((none : Option Int).getD 0), .bool (none : Option Int).isSome][j]?) ∧ wz.cell? ⟨M, o, none⟩ = some (.map (some C))) (by kernel_rfl) (⟨G1.out W2.drew (Below.refl _ _).drew, G2.out W2.drew (Below.refl _ _).drew⟩) (fun hS => ?_)
          generalize W2.drew = wc0 at hS Y5 Y6 Y7 ⊢
          refine wpAnyH_take (i := 0) (v := ?_) rfl (by kernel_rfl) (by kernel_rfl) (by kernel_rfl) (fun _ _ _ h => h) (Or.inl ⟨by rfl, ?_⟩) hS ?_
          rotate_left
          · intro wz hz; go_simp; try with_reducible rfl
          try simp only [Act.put, List.setIfInBounds_toArray, List.set_cons_zero, List.set_cons_succ, List.getElem_toArray, List.getElem_cons_succ, List.getElem_cons_zero]
          refine wpAnyH_take (i := 1) (v := ?_) rfl (by kernel_rfl) (by kernel_rfl) (by kernel_rfl) (fun _ _ _ h => h) (Or.inl ⟨by rfl, ?_⟩) hS ?_
          rotate_left
          · intro wz hz; go_simp; try with_reducible rfl
          try simp only [Act.put, List.setIfInBounds_toArray, List.set_cons_zero, List.set_cons_succ, List.getElem_toArray, List.getElem_cons_succ, List.getElem_cons_zero]
          refine wpAnyH_take (i := 2) (v := ?_) rfl (by kernel_rfl) (by kernel_rfl) (by kernel_rfl) (fun _ _ _ h => h) (Or.inl ⟨by rfl, ?_⟩) hS ?_
          rotate_left
          · intro wz hz; go_simp; try with_reducible rfl
          try simp only [Act.put, List.setIfInBounds_toArray, List.set_cons_zero, List.set_cons_succ, List.getElem_toArray, List.getElem_cons_succ, List.getElem_cons_zero]
          refine wpAnyH_take (i := 3) (v := ?_) rfl (by kernel_rfl) (by kernel_rfl) (by kernel_rfl) (fun _ _ _ h => h) (Or.inl ⟨by rfl, ?_⟩) hS ?_
          rotate_left
          · intro wz hz; obtain ⟨yy0, yy1⟩ := hz; go_simp; try with_reducible rfl
          try simp only [Act.put, List.setIfInBounds_toArray, List.set_cons_zero, List.set_cons_succ, List.getElem_toArray, List.getElem_cons_succ, List.getElem_cons_zero]
          refine wpAnyH_take (i := 4) (v := ?_) rfl (by kernel_rfl) (by kernel_rfl) (by kernel_rfl) (fun _ _ _ h => h) (Or.inl ⟨by rfl, ?_⟩) hS ?_
          rotate_left
          · intro wz hz; go_simp; try with_reducible rfl
          try simp only [Act.put, List.setIfInBounds_toArray, List.set_cons_zero, List.set_cons_succ, List.getElem_toArray, List.getElem_cons_succ, List.getElem_cons_zero]
          refine wpAnyH_take (i := 5) (v := ?_) rfl (by kernel_rfl) (by kernel_rfl) (by kernel_rfl) (fun _ _ _ h => h) (Or.inl ⟨by rfl, ?_⟩) hS ?_
          rotate_left
          · intro wz hz; obtain ⟨yy0, yy1⟩ := hz; go_simp; try with_reducible rfl
          try simp only [Act.put, List.setIfInBounds_toArray, List.set_cons_zero, List.set_cons_succ, List.getElem_toArray, List.getElem_cons_succ, List.getElem_cons_zero]
          refine wpAnyH_ready (rs := [6]) (by kernel_rfl) (by simp) (AllReadyH.cons rfl (fun K hK => ?a1_6) AllReadyH.nil)
          case' a1_6 =>
            obtain ⟨w4, r4, m4, g4⟩ := Y5.out.back2 hg1.out.1 HLK.out 0
            refine step_delete rfl _ _ IM 3 rfl _ _ rfl rfl r4 ?_
            refine hK.out _ _ (Y6.out w4 g4) (fun hSn => ?_)
            clear hK K hS
            have hS := hSn
            clear hSn
            try simp only [Act.put, List.setIfInBounds_toArray, List.set_cons_zero, List.set_cons_succ, List.getElem_toArray, List.getElem_cons_succ, List.getElem_cons_zero]
            refine wpAnyH_done (by kernel_rfl) ?_ _
          go_wp2_with fail
          go_roundw
          case rel => exact (DONE.out w4 _ (by omega) m4 (Y7.out w4 g4)).1
          case measure => exact (DONE.out w4 _ (by omega) m4 (Y7.out w4 g4)).2
        | some a =>
          rw [hlk] at z1 G1
          have HLK := hid hlk
          have HGA : Hid (R64 a) := (HGD.out _ (lk_mem hlk)).2
          clear hlk
          go_wp2_with fail
          clear z1
          have Y5 := hid (Y3.out.stays (Below.refl _ _).drew)
          have Y7 : Hid (∀ w4, W2.drew.grownBy w4 (some C) → W2.grownBy w4 (some C)) := fun w4 h => ⟨h.1, h.2, h.3, h.4, h.5⟩
          have Y6 : Hid (∀ w4, W2.drew.grownBy w4 (some C) → (∀ j, w4.cell? ⟨wr.heap.size, j, none⟩ = [.int .i64 p.1, .int .i64 ((some a).getD 0), .bool (some a).isSome][j]?) ∧ w4.cell? ⟨M, o, none⟩ = some (.map (some C))) := fun w4 h => ⟨fun j => (World.cell?_of_block (w := W2) (a := ⟨wr.heap.size, j, none⟩) (grown_ne (Y7.out w4 h) hM1 (by show wr.heap.size ≠ C; omega))).trans (G1.out W2 (Below.refl _ _) j), (World.cell?_of_block (w := W2) (a := ⟨M, o, none⟩) (grown_ne (Y7.out w4 h) hM2 (by show M ≠ C; omega))).trans (G2.out W2 (Below.refl _ _))⟩
          refine wp_region_held_drew (S := fun wz => (∀ j, wz.cell? ⟨wr.heap.size, j, none⟩ = [.int .i64 p.1, .int .i64 ((some a).getD 0), .bool (some a).isSome][j]?) ∧ wz.cell? ⟨M, o, none⟩ = some (.map (some C))) (by kernel_rfl) (⟨G1.out W2.drew (Below.refl _ _).drew, G2.out W2.drew (Below.refl _ _).drew⟩) (fun hS => ?_)
          generalize W2.drew = wc0 at hS Y5 Y6 Y7 ⊢
          refine wpAnyH_take (i := 0) (v := ?_) rfl (by kernel_rfl) (by kernel_rfl) (by kernel_rfl) (fun _ _ _ h => h) (Or.inl ⟨by rfl, ?_⟩) hS ?_
          rotate_left
          · intro wz hz; go_simp; try with_reducible rfl
          try simp only [Act.put, List.setIfInBounds_toArray, List.set_cons_zero, List.set_cons_succ, List.getElem_toArray, List.getElem_cons_succ, List.getElem_cons_zero]
          refine wpAnyH_take (i := 1) (v := ?_) rfl (by kernel_rfl) (by kernel_rfl) (by kernel_rfl) (fun _ _ _ h => h) (Or.inl ⟨by rfl, ?_⟩) hS ?_
          rotate_left
          · intro wz hz; go_simp; try with_reducible rfl
          try simp only [Act.put, List.setIfInBounds_toArray, List.set_cons_zero, List.set_cons_succ, List.getElem_toArray, List.getElem_cons_succ, List.getElem_cons_zero]
          refine wpAnyH_take (i := 2) (v := ?_) rfl (by kernel_rfl) (by kernel_rfl) (by kernel_rfl) (fun _ _ _ h => h) (Or.inl ⟨by rfl, ?_⟩) hS ?_
          rotate_left
          · intro wz hz; go_simp; try with_reducible rfl
          try simp only [Act.put, List.setIfInBounds_toArray, List.set_cons_zero, List.set_cons_succ, List.getElem_toArray, List.getElem_cons_succ, List.getElem_cons_zero]
          refine wpAnyH_take (i := 3) (v := ?_) rfl (by kernel_rfl) (by kernel_rfl) (by kernel_rfl) (fun _ _ _ h => h) (Or.inl ⟨by rfl, ?_⟩) hS ?_
          rotate_left
          · intro wz hz; obtain ⟨yy0, yy1⟩ := hz; go_simp; try with_reducible rfl
          try simp only [Act.put, List.setIfInBounds_toArray, List.set_cons_zero, List.set_cons_succ, List.getElem_toArray, List.getElem_cons_succ, List.getElem_cons_zero]
          refine wpAnyH_take (i := 4) (v := ?_) rfl (by kernel_rfl) (by kernel_rfl) (by kernel_rfl) (fun _ _ _ h => h) (Or.inl ⟨by rfl, ?_⟩) hS ?_
          rotate_left
          · intro wz hz; go_simp; try with_reducible rfl
          try simp only [Act.put, List.setIfInBounds_toArray, List.set_cons_zero, List.set_cons_succ, List.getElem_toArray, List.getElem_cons_succ, List.getElem_cons_zero]
          refine wpAnyH_take (i := 5) (v := ?_) rfl (by kernel_rfl) (by kernel_rfl) (by kernel_rfl) (fun _ _ _ h => h) (Or.inl ⟨by rfl, ?_⟩) hS ?_
          rotate_left
          · intro wz hz; obtain ⟨yy0, yy1⟩ := hz; go_simp; try with_reducible rfl
          try simp only [Act.put, List.setIfInBounds_toArray, List.set_cons_zero, List.set_cons_succ, List.getElem_toArray, List.getElem_cons_succ, List.getElem_cons_zero]
          refine wpAnyH_take (i := 6) (v := ?_) rfl (by kernel_rfl) (by kernel_rfl) (by kernel_rfl) (fun _ _ _ h => h) (Or.inl ⟨by rfl, ?_⟩) hS ?_
          rotate_left
          · intro wz hz; go_simp; try with_reducible rfl
          try simp only [Act.put, List.setIfInBounds_toArray, List.set_cons_zero, List.set_cons_succ, List.getElem_toArray, List.getElem_cons_succ, List.getElem_cons_zero]
          refine wpAnyH_take (i := 7) (v := ?_) rfl (by kernel_rfl) (by kernel_rfl) (by kernel_rfl) (fun _ _ _ h => h) (Or.inl ⟨by rfl, ?_⟩) hS ?_
          rotate_left
          · intro wz hz; obtain ⟨yy0, yy1⟩ := hz; go_simp; try with_reducible rfl
          try simp only [Act.put, List.setIfInBounds_toArray, List.set_cons_zero, List.set_cons_succ, List.getElem_toArray, List.getElem_cons_succ, List.getElem_cons_zero]
          refine wpAnyH_ready (rs := [8]) (by kernel_rfl) (by simp) (AllReadyH.cons rfl (fun K hK => ?a1_8) AllReadyH.nil)
          case' a1_8 =>
            obtain ⟨w4, r4, m4, g4⟩ := Y5.out.back1 hg1.out.1 HLK.out HGA.out HN2.out
            refine step_mapUpdate rfl _ _ _ IM rfl _ _ _ rfl rfl rfl r4 ?_
            refine hK.out _ _ (Y6.out w4 g4) (fun hSn => ?_)
            clear hK K hS
            have hS := hSn
            clear hSn
            try simp only [Act.put, List.setIfInBounds_toArray, List.set_cons_zero, List.set_cons_succ, List.getElem_toArray, List.getElem_cons_succ, List.getElem_cons_zero]
            refine wpAnyH_done (by kernel_rfl) ?_ _
          go_wp2_with fail
          go_roundw
          case rel => exact (DONE.out w4 _ (by omega) m4 (Y7.out w4 g4)).1
          case measure => exact (DONE.out w4 _ (by omega) m4 (Y7.out w4 g4)).2
    · have hl2 : ¬ (d : Int) < e'.length := by omega
      have hk2 : Hid (k = e.length - d) := by have := hkd.out; rw [← HE.out, List.length_drop] at hlt; show _ = _; omega
      clear hlt
      go_wp2
      go_end0
      exact ⟨rfl, _, hAr.out, by rw [← hk2.out, HE.out]; exact hSr.out.le (by have := hkd.out; omega), hEr.out⟩
end Go.Proofs.YtigliglmejkakaaGreat.Tgt
