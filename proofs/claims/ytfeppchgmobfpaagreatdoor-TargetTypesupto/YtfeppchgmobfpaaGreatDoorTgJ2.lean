/- The number that a binder is given. -/
import Derived.Test.YtfeppchgmobfpaaGreatDoorTgJ
namespace Go.Proofs.YtfeppchgmobfpaaGreatDoor
open Go.RowKit
set_option linter.unusedVariables false
set_option linter.unusedSimpArgs false

def nxAt (M : Nat) (w : World) : Int := match w.cell? ⟨M, 13, none⟩ with
  | some (.int _ x) => x
  | _ => 0
theorem Pt.cells {N M : Nat} {num : Int} {u : Tt} {C : Int → Bool} {l : List Int} {w : World} {own : Nat → Prop} {e : List (Int × Int)} {nx : Int} {n : Nat} (h : Pt N M num u C l w own e nx n) : ∃ Cc Ct, w.cell? ⟨M, 6, none⟩ = some (.int .i64 num) ∧ w.cell? ⟨M, 11, none⟩ = some (.map (some Cc)) ∧ w.cell? ⟨M, 12, none⟩ = some (.map (some Ct)) ∧ w.cell? ⟨M, 13, none⟩ = some (.int .i64 nx) ∧ w.frozen? ⟨M, 13, none⟩ = false ∧ (∀ x, R64 x → (Instr.lookup SM (.map (some Cc)) (.int .i64 x) true).run Tryz.prog w = .ok (.tuple #[.agg #[], .bool (C x)]) w) ∧ (∀ x, R64 x → (Instr.lookup SM (.map (some Ct)) (.int .i64 x) true).run Tryz.prog w = .ok (.tuple #[.agg #[], .bool (decide (x ∈ l))]) w) ∧ M < w.heap.size ∧ own M := by
  obtain ⟨⟨vs, mv, lv, Cc, Ct, ub, kb, h1, h2, h3, h4, h5, h6, h7, ⟨m8, h8⟩, ⟨m9, T, h9, h9'⟩, h10, rfl⟩, lo⟩ := h
  exact ⟨Cc, Ct, (h1.arr.cell 6).trans h2, (h1.arr.cell 11).trans h5, (h1.arr.cell 12).trans h6, (h1.arr.cell 13).trans h7, h1.arr.frozen 13, fun x hx => h8.look x hx, fun x hx => by rw [h9.look x hx, h9'], h1.arr.lt, .inl rfl⟩
theorem Pt.next {N M : Nat} {num : Int} {u : Tt} {C : Int → Bool} {l : List Int} {w : World} {own : Nat → Prop} {e : List (Int × Int)} {nx : Int} {n : Nat} (h : Pt N M num u C l w own e nx n) (nx' : Int) (h' : 0 ≤ nx') : Pt N M num u C l (w.setCell ⟨M, 13, none⟩ (.int .i64 nx')) own e nx' n ∧ Ev own w own (w.setCell ⟨M, 13, none⟩ (.int .i64 nx')) := by
  obtain ⟨⟨vs, mv, lv, Cc, Ct, ub, kb, h1, h2, h3, h4, h5, h6, h7, ⟨m8, h8⟩, ⟨m9, T, h9, h9'⟩, h10, rfl⟩, lo⟩ := h
  have nb : ∀ b, b ≠ M → (w.setCell ⟨M, 13, none⟩ (.int .i64 nx')).heap[b]? = w.heap[b]? := fun b hb => Below.heap_setCell _ _ _ _ hb
  have hl : 13 < vs.length := (List.getElem?_eq_some_iff.1 h7).1
  have hv : ∀ j, j ≠ 13 → (vs.set 13 (.int .i64 nx'))[j]? = vs[j]? := fun j hj => List.getElem?_set_ne (by omega)
  have hub : ub.length = 4 := by obtain ⟨a', c', a, c, rfl⟩ := h4.form; rfl
  refine ⟨⟨⟨vs.set 13 (.int .i64 nx'), mv, lv, Cc, Ct, ub, kb, ⟨h1.arr.set 13 _, (hv _ (by omega)).trans h1.m, (hv _ (by omega)).trans h1.l, (hv _ (by omega)).trans h1.nm, (hv _ (by omega)).trans h1.nl, h1.scp.blocks (fun b q => nb b (by have := (h1.scp.ge q).1; omega)), h1.lt, by simp only [World.setCell, Array.size_modify]; exact h1.le⟩, (hv _ (by omega)).trans h2, fun j v q => (hv _ (by have := (List.getElem?_eq_some_iff.1 q).1; omega)).trans (h3 j v q), h4.move (Keeps.set (by show ¬ M < N; have := h10.2.2; omega) _) (fun _ h => h), (hv _ (by omega)).trans h5, (hv _ (by omega)).trans h6, List.getElem?_set_self hl, ⟨m8, h8.block (nb _ (by omega))⟩, ⟨m9, T, h9.block (nb _ (by omega)), h9'⟩, h10, rfl⟩, h'⟩, ?_⟩
  exact Ev.set (o1 := fun b => b = M ∨ Os mv lv b) (Ev.refl _ _) (p := ⟨M, 13, none⟩) (.inl rfl) _

theorem nxAt_of {N M : Nat} {num : Int} {u : Tt} {C : Int → Bool} {l : List Int} {w : World} {own : Nat → Prop} {e : List (Int × Int)} {nx : Int} {n : Nat} (h : Pt N M num u C l w own e nx n) : nxAt M w = nx := by
  obtain ⟨Cc, Ct, -, -, -, d2, -⟩ := h.cells
  unfold nxAt
  rw [d2]

set_option maxHeartbeats 2000000 in
set_option maxRecDepth 100000 in
theorem given_any (N M : Nat) (num : Int) (u : Tt) (C : Int → Bool) (l : List Int) (w : World) (own : Nat → Prop) (e : List (Int × Int)) (nx : Int) (n : Nat) (x : Int) (hx : R64 x) (h : Pt N M num u C l w own e nx n) (hb : nx + from_ l nx ≤ 4611686018427387904) :
    Calls Tryz.prog 128 #[.pointer (some ⟨M, 0, none⟩), .int .i64 x] w fun r w' => r = .returned (.int .i64 (give C l nx x).1) ∧ Pt N M num u C l w' own e (give C l nx x).2 n ∧ Ev own w own w' ∧ (give C l nx x).2 + from_ l (give C l nx x).2 ≤ nx + from_ l nx + 1 := by
  obtain ⟨Cc, Ct, -, c1, -, -, -, q1, -, hM, hoM⟩ := h.cells
  have q1x := q1 x hx
  have H0 := hid h
  cases hC : C x with
  | false =>
    have HG : Hid (give C l nx x = (x, nx)) := by show _ = _; unfold give; rw [hC]; rfl
    rw [hC] at q1x
    clear h q1 hx hC hb
    generalize give C l nx x = g at HG ⊢
    obtain rfl := HG.out
    go_enter Tryz.func128, Tryz.ntmps128
    go_wp2
    go_ret
    exact ⟨rfl, H0.out.stays (bl_alloc (Below.refl _ _) _), (Ev.refl _ _).alloc _, by show nx + _ ≤ _; omega⟩
  | true =>
    have hres : give C l nx x = (fresh l l.length nx, fresh l l.length nx + 1) := by unfold give; rw [hC]; rfl
    rw [hC] at q1x
    have HF : Hid (∀ f, from_ l nx ≤ f → fresh l f nx = fresh l l.length nx) := fun f hf => fresh_more l _ _ _ hf (from_le l nx)
    rw [hres]
    generalize fresh l l.length nx = res at HF
    have HBd := hid hb
    clear h q1 hx hC hb hres
    go_enter Tryz.func128, Tryz.ntmps128
    go_wp2
    go_loopw [1] (fun _ wr => ∃ nx', Hid (∀ f, from_ l nx' ≤ f → fresh l f nx' = res) ∧ Hid (nx' + from_ l nx' ≤ nx + from_ l nx) ∧ Hid (Pt N M num u C l wr own e nx' n) ∧ Hid (Ev own w own wr)) (fun _ wr => from_ l (nxAt M wr))
    case atStart => exact ⟨nx, HF, hid (Int.le_refl _), hid (H0.out.stays (bl_alloc (Below.refl _ _) _)), hid ((Ev.refl _ _).alloc _)⟩
    case round =>
      obtain ⟨nx', hFr, hBr, hPr, hEr⟩ := hrel
      obtain ⟨Cc', Ct', -, -, d1, d2, d3, -, q2, hM', -⟩ := hPr.out.cells
      have lo := hPr.out.lo
      have hnb : nx' ≤ 4611686018427387904 := by have := HBd.out; have := hBr.out; omega
      have hw : IntKind.i64.wrap (nx' + 1) = nx' + 1 := by rw [IntKind.wrap_i64]; omega
      obtain ⟨p2, e2⟩ := hPr.out.next (nx' + 1) (by omega)
      obtain ⟨Cc2, Ct2, -, -, k1, k2, -, -, q3, -, -⟩ := p2.cells
      have q3x := q3 nx' ⟨by omega, by omega⟩
      have HP2 := hid p2
      have HE2 := hid (hEr.out.trans e2)
      have hnx : Hid (nxAt M wr = nx') := by show _ = _; unfold nxAt; rw [d2]
      have d1k : Ct2 = Ct' := by
        have : wr.cell? ⟨M, 12, none⟩ = (wr.setCell ⟨M, 13, none⟩ (.int .i64 (nx' + 1))).cell? ⟨M, 12, none⟩ := by simp [go_sem]
        rw [d1, k1] at this
        injection this with this
        injection this with this
        injection this with this
        exact this.symm
      subst d1k
      have fz : ∀ ob, (wr.alloc ob).frozen? ⟨M, 13, none⟩ = false := fun ob => by simp [go_sem, hM', d3]
      clear q1x c1 q2 q3 p2 e2 k2
      by_cases hin : nx' ∈ l
      · have hd : decide (nx' ∈ l) = true := decide_eq_true hin
        rw [hd] at q3x
        have hst := from_step hin
        have HF2 : Hid (∀ f, from_ l (nx' + 1) ≤ f → fresh l f (nx' + 1) = res) := fun f hf => by
          rw [fresh_more l f (from_ l nx' + f) (nx' + 1) hf (by have := from_mono l nx'; omega), ← hFr.out (from_ l nx' + f + 1) (by omega), fresh, if_pos hin]
        have HMS : Hid (from_ l (nx' + 1) < from_ l nx') := by show _ < _; omega
        clear hd lo hnb
        go_wp2
        go_roundw
        case rel => exact ⟨nx' + 1, HF2, hid (by have := hBr.out; omega), hid (HP2.out.stays (bl_alloc (Below.refl _ _) _)), hid (HE2.out.alloc _)⟩
        case measure => rw [hnx.out, nxAt_of (HP2.out.stays (bl_alloc (Below.refl _ _) _))]; exact HMS.out
      · have hd : decide (nx' ∈ l) = false := decide_eq_false hin
        rw [hd] at q3x
        have HR : Hid (nx' = res) := by
          show _ = _
          rw [← hFr.out (from_ l nx' + 1) (by omega), fresh, if_neg hin]
        clear hd hin lo hnb
        go_wp2
        go_ret
        exact ⟨ret_int HR.out, by rw [← HR.out]; exact HP2.out.stays (bl_alloc (Below.refl _ _) _), HE2.out.alloc _, by rw [← HR.out]; have := hBr.out; have := from_mono l nx'; show nx' + 1 + _ ≤ _; omega⟩
end Go.Proofs.YtfeppchgmobfpaaGreatDoor
