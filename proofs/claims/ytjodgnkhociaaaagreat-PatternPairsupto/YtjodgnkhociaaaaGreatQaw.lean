/- typed, of (x, 1), in a store that knows nothing. -/
import Derived.OrdersHeld
import Derived.Test.YtjodgnkhociaaaaGreatQav
import Derived.Test.YtjodgnkhociaaaaGreatQal
import Derived.Test.YtjodgnkhociaaaaGreatQam
namespace Go.Proofs.YtjodgnkhociaaaaGreat
open Go.RowKit
set_option linter.unusedVariables false
set_option linter.unusedSimpArgs false

abbrev TYP : TypeId := 132
abbrev BND : TypeId := 72
abbrev TY : TypeId := 47
theorem info_bnd : (Tryz.prog.info? BND).map (fun i => (i.zero, i.size, i.bytes)) = some (some (.agg #[.string { data := #[] }, .int .i64 0, .int .i64 0, .slice none 0 0]), 4, 56) := by kernel_rfl
set_option maxHeartbeats 2000000 in
set_option maxRecDepth 100000 in
theorem typeOf_int (w : World) (T b o : Nat) (hl : Leaf5 w b o 3 (⟨#[]⟩ : ByteArray) 1) : Calls Tryz.prog 31 #[.pointer (some ⟨T, 0, none⟩), .pointer (some ⟨b, o, none⟩)] w fun e w' => e = .returned (.agg #[.int .i64 1, .int .i64 0, .slice none 0 0]) ∧ Below w.heap.size w w' := by
  have d0 : w.cell? ⟨b, o, none⟩ = some (.int .i64 3) := hl.1 0 _ rfl
  have dn : ∀ ob, (w.alloc ob).cell? ⟨b, o, none⟩ = some (.int .i64 3) := fun ob => (hl.stays (bl_alloc (Below.refl _ _) ob)).1 0 _ rfl
  clear hl
  go_enter Tryz.func31, Tryz.ntmps31
  go_wp2
  refine bodyPost_ret (v := .agg #[.int .i64 1, .int .i64 0, .slice none 0 0]) (by rw [results_cell1 (fn := Tryz.f31) (p := 4) (ty := TY) (by kernel_rfl)]; simp [go_sem]) rfl ?_
  exact ⟨rfl, bl_alloc (Below.refl _ _) _⟩
/-- A typer at T whose binds are not there yet. -/
def Ty0 (w : World) (T S : Nat) (cm : Value) : Prop := Arr w T TYP [cm, .pointer (some ⟨S, 0, none⟩), .slice none 0 0, .bool false]
/-- One name bound: x, of the meta 0. -/
structure Ty1 (w : World) (T S gb : Nat) (cm : Value) (cb : Nat) : Prop where
  t : Arr w T TYP [cm, .pointer (some ⟨S, 0, none⟩), .slice (some ⟨gb, 0, none⟩) 1 cb, .bool false]
  b : Cells w gb 0 [.string bx, .int .i64 7, .int .i64 0, .slice none 0 0]
  bw : ∀ j, w.frozen? ⟨gb, j, none⟩ = false
  ne : gb ≠ T
  le : 1 ≤ cb
  ar : ∃ cur, Arr w gb BND cur
theorem StoG.not {W : World} {S M base n : Nat} {v : Value} (h : StoG W S M base v n) {b : Nat} {T : TypeId} {cur : List Value} (hA : Arr W b T cur) (h1 : T ≠ ST) (h2 : T ≠ PT) : S ≠ b ∧ M ≠ b ∧ v.ownBlock ≠ some b := by
  refine ⟨?_, ?_, fun e => ?_⟩
  · rintro rfl
    have q1 := h.st.b
    have q2 := hA.b
    rw [q1] at q2
    simp at q2
    exact h1 q2.2.symm
  · rintro rfl
    have q1 := h.em
    have q2 := hA.b
    unfold Em at q1
    rw [q1] at q2
    simp at q2
  · rcases h.own.2 with ⟨rfl, h0⟩ | ⟨g, cap, cur', rfl, -, hg, -⟩
    · simp [Value.ownBlock] at e
    · simp only [Value.ownBlock, Option.some.injEq] at e
      subst e
      have q2 := hA.b
      rw [hg] at q2
      simp at q2
      exact h2 q2.2.symm
theorem frozen_of_block {w w' : World} {b j : Nat} (h : w'.heap[b]? = w.heap[b]?) : w'.frozen? ⟨b, j, none⟩ = w.frozen? ⟨b, j, none⟩ := by
  unfold World.frozen?
  simp only [h]
theorem Ty1.stays {w w' : World} {T S g c : Nat} {cm : Value} (h : Ty1 w T S g cm c) (hb : Below w.heap.size w w') : Ty1 w' T S g cm c := by
  have hg : g < w.heap.size := World.block_lt_of_cell? _ _ (h.b 0 _ rfl)
  exact ⟨h.t.stays hb, fun j u hu => (hb.cell hg).trans (h.b j u hu), fun j => (frozen_of_block (hb.block g hg)).trans (h.bw j), h.ne, h.le, h.ar.imp fun _ h => h.stays hb⟩
theorem Ty1.set {w : World} {T S g c : Nat} {cm : Value} (h : Ty1 w T S g cm c) {b : Nat} (hT : T ≠ b) (hg : g ≠ b) {j : Nat} {u : Value} : Ty1 (w.setCell ⟨b, j, none⟩ u) T S g cm c :=
  ⟨h.t.off hT _ _, fun i v hv => (World.cell?_of_block (w := w) (Below.heap_setCell _ _ _ _ hg)).trans (h.b i v hv), fun i => (frozen_of_block (w := w) (Below.heap_setCell _ _ _ _ hg)).trans (h.bw i), h.ne, h.le, h.ar.imp fun _ h => h.off hg _ _⟩

set_option maxHeartbeats 4000000 in
set_option maxRecDepth 100000 in
theorem typeOf_var (w : World) (T S M base : Nat) (sv cm : Value) (b o : Nat) (hS : StoG w S M base sv 0) (hT : Ty0 w T S cm) (hl : Leaf5 w b o 2 bx 0) (nT : ¬ Es S sv T) (nb : ¬ Es S sv b) (bT : b ≠ T) : Calls Tryz.prog 31 #[.pointer (some ⟨T, 0, none⟩), .pointer (some ⟨b, o, none⟩)] w fun e w' => e = .returned (.agg #[.int .i64 7, .int .i64 0, .slice none 0 0]) ∧ ∃ v' g c, StoG w' S M base v' 1 ∧ Ty1 w' T S g cm c ∧ w.heap.size ≤ g ∧ Xf (fun k => Es S sv k ∨ k = T) w w' := by
  have hTl := Arr.lt hT
  have hbl := hl.2
  have d0 : w.cell? ⟨b, o, none⟩ = some (.int .i64 2) := hl.1 0 _ rfl
  have dn : ∀ ob, (w.alloc ob).cell? ⟨b, o, none⟩ = some (.int .i64 2) := fun ob => (hl.stays (bl_alloc (Below.refl _ _) ob)).1 0 _ rfl
  have t1 : ∀ ob, (w.alloc ob).cell? ⟨T, 1, none⟩ = some (.pointer (some ⟨S, 0, none⟩)) := fun ob => (Arr.stays hT (bl_alloc (Below.refl _ _) ob)).cell 1
  have HM : Hid (∀ ob, Calls Tryz.prog 45 #[.pointer (some ⟨S, 0, none⟩)] (w.alloc ob) fun e w' => e = .returned (.agg #[.int .i64 7, .int .i64 0, .slice none 0 0]) ∧ (∃ v', StoG w' S M base v' 1) ∧ Xf (Es S sv) (w.alloc ob) w') := fun ob => Meta_G _ S M base sv 0 (hS.stays (bl_alloc (Below.refl _ _) ob)) (by decide)
  have HT : Hid (Ty0 w T S cm) := hT
  have HL : Hid (Leaf5 w b o 2 bx 0) := hl
  have HSV : Hid (∀ k, sv.ownBlock = some k → k < w.heap.size) := fun k e => (hS.own.lt k e).2
  have hSl := hS.st.lt
  clear hl hT hS
  go_enter Tryz.func31, Tryz.ntmps31
  go_wp2_with (go_at_call 45; refine (HM.out _).mono ?_; rintro e w1 ⟨rfl, ⟨v1, hS1⟩, hx⟩)
  clear HM t1 dn d0
  have n4 : ¬ Es S sv w.heap.size := fun e => e.elim (fun e => by omega) (fun e => by have := HSV.out _ e; omega)
  have hA4 : Arr (w.alloc (.cells #[.int .i64 0, .int .i64 0, .slice none 0 0] TY)) w.heap.size TY [.int .i64 0, .int .i64 0, .slice none 0 0] := ⟨heap_alloc_at _ _⟩
  have hB0 : Below w.heap.size w (w.alloc (.cells #[.int .i64 0, .int .i64 0, .slice none 0 0] TY)) := bl_alloc (Below.refl _ _) _
  have A4 : Arr w1 w.heap.size TY [.int .i64 0, .int .i64 0, .slice none 0 0] := hx.arr hA4 n4
  have hT1 : Ty0 w1 T S cm := hx.arr (Arr.stays HT.out hB0) nT
  have hL1 : Cells w1 b o [.int .i64 2, .string bx, .slice none 0 0, .int .i64 0, .slice none 0 0] := hx.cells (Nat.lt_of_lt_of_le hbl hB0.size) (HL.out.stays hB0).1 nb
  have X1 : Xf (Es S sv) w w1 := (Xf.of_below hB0).trans hx
  have hs1 : w.heap.size < w1.heap.size := A4.lt
  have hbw : b < w1.heap.size := by omega
  -- behind the draw
  have B2 : Below w1.heap.size w1 (w1.alloc (.cells #[.int .i64 7, .int .i64 0, .slice none 0 0] TY)).drew := (bl_alloc (Below.refl _ _) _).drew
  have A5 : Arr (w1.alloc (.cells #[.int .i64 7, .int .i64 0, .slice none 0 0] TY)).drew w1.heap.size TY [.int .i64 7, .int .i64 0, .slice none 0 0] := Arr.stays (w := (w1.alloc (.cells #[.int .i64 7, .int .i64 0, .slice none 0 0] TY))) ⟨heap_alloc_at _ _⟩ (Below.refl _ _).drew
  have T2 : Ty0 (w1.alloc (.cells #[.int .i64 7, .int .i64 0, .slice none 0 0] TY)).drew T S cm := Arr.stays hT1 B2
  have L2 : Cells (w1.alloc (.cells #[.int .i64 7, .int .i64 0, .slice none 0 0] TY)).drew b o [.int .i64 2, .string bx, .slice none 0 0, .int .i64 0, .slice none 0 0] := fun j u hu => (B2.cell hbw).trans (hL1 j u hu)
  have A42 : Arr (w1.alloc (.cells #[.int .i64 7, .int .i64 0, .slice none 0 0] TY)).drew w.heap.size TY [.int .i64 0, .int .i64 0, .slice none 0 0] := A4.stays B2
  have S2 := hS1.stays B2
  have hs2 : w1.heap.size < (w1.alloc (.cells #[.int .i64 7, .int .i64 0, .slice none 0 0] TY)).drew.heap.size := A5.lt
  obtain ⟨i0, hi, hz0, hz1, hz2⟩ := info_parts0 info_bnd
  obtain ⟨a', c', w', hr, h2, h3, h4⟩ := app_one (P := Tryz.prog) (w := (w1.alloc (.cells #[.int .i64 7, .int .i64 0, .slice none 0 0] TY)).drew) (base := (w1.alloc (.cells #[.int .i64 7, .int .i64 0, .slice none 0 0] TY)).drew.heap.size) 48 BND i0 _ 4 56 Tryz.underlying48 hi hz0 hz1 hz2 rfl (by decide) (.slice none 0 0) 0 [] [.string bx, .int .i64 7, .int .i64 0, .slice none 0 0] ⟨rfl, .inl ⟨rfl, rfl⟩⟩ rfl (by simp [Value.oneCell']) (by decide) (by decide) (Nat.le_refl _)
  obtain ⟨g, hg⟩ : ∃ g, a' = some ⟨g, 0, none⟩ := by
    rcases h2.2 with ⟨hv, h0⟩ | ⟨g, cap, cur, hv, -⟩
    · omega
    · injection hv with e1; exact ⟨g, e1⟩
  subst hg
  have hcap : 1 ≤ c' := by
    rcases h2.2 with ⟨hv, h0⟩ | ⟨g', cap, cur, hv, -, -, hnc, -⟩
    · omega
    · injection hv with e1 e2 e3; omega
  have hgb := (h2.lt g rfl).1
  have hgc : ∀ j, j < 4 → w'.cell? ⟨g, j, none⟩ = [Value.string bx, .int .i64 7, .int .i64 0, .slice none 0 0][j]? := fun j hj => by have := h2.cellAt j (by omega); simpa using this
  have hgf : ∀ j, w'.frozen? ⟨g, j, none⟩ = false := fun j => h2.frozenAt j
  have hga : ∃ cur, Arr w' g BND cur := by
    rcases h2.2 with ⟨hv, h0⟩ | ⟨g', cap, cur, hv, -, hh, -⟩
    · omega
    · injection hv with e1
      injection e1 with e1
      injection e1 with e1
      subst e1
      exact ⟨cur.toList, ⟨by simpa using hh⟩⟩
  have hb : ∀ b, b < (w1.alloc (.cells #[.int .i64 7, .int .i64 0, .slice none 0 0] TY)).drew.heap.size → w'.heap[b]? = (w1.alloc (.cells #[.int .i64 7, .int .i64 0, .slice none 0 0] TY)).drew.heap[b]? := fun b hb => (h3.block b (by rw [size_alloc]; omega) (by simp [Value.ownBlock])).trans (Below.heap_alloc _ _ b (by omega))
  have hsz : (w1.alloc (.cells #[.int .i64 7, .int .i64 0, .slice none 0 0] TY)).drew.heap.size ≤ w'.heap.size := by have := h3.size; rw [size_alloc] at this; omega
  have B3 : Below (w1.alloc (.cells #[.int .i64 7, .int .i64 0, .slice none 0 0] TY)).drew.heap.size (w1.alloc (.cells #[.int .i64 7, .int .i64 0, .slice none 0 0] TY)).drew w' := ⟨h3.os, h3.tape, h3.output, hsz, hb⟩
  have T3 : Ty0 w' T S cm := Arr.stays T2 B3
  have A53 := A5.stays B3
  have A43 := A42.stays B3
  have S3 := S2.stays B3
  have no := S3.not T3 (by decide) (by decide)
  have no4 := S3.not A43 (by decide) (by decide)
  have s4 : (w1.alloc (.cells #[.int .i64 7, .int .i64 0, .slice none 0 0] TY)).drew.cell? ⟨b, o + 1, none⟩ = some (.string bx) ∧ (w1.alloc (.cells #[.int .i64 7, .int .i64 0, .slice none 0 0] TY)).drew.cell? ⟨w1.heap.size, 0, none⟩ = some (.int .i64 7) ∧ (w1.alloc (.cells #[.int .i64 7, .int .i64 0, .slice none 0 0] TY)).drew.cell? ⟨w1.heap.size, 1, none⟩ = some (.int .i64 0) ∧ (w1.alloc (.cells #[.int .i64 7, .int .i64 0, .slice none 0 0] TY)).drew.cell? ⟨w1.heap.size, 2, none⟩ = some (.slice none 0 0) := ⟨L2 1 _ rfl, A5.cell 0, A5.cell 1, A5.cell 2⟩
  have s4a : ∀ ob, ((w1.alloc (.cells #[.int .i64 7, .int .i64 0, .slice none 0 0] TY)).drew.alloc ob).cell? ⟨b, o + 1, none⟩ = some (.string bx) ∧ ((w1.alloc (.cells #[.int .i64 7, .int .i64 0, .slice none 0 0] TY)).drew.alloc ob).cell? ⟨w1.heap.size, 0, none⟩ = some (.int .i64 7) ∧ ((w1.alloc (.cells #[.int .i64 7, .int .i64 0, .slice none 0 0] TY)).drew.alloc ob).cell? ⟨w1.heap.size, 1, none⟩ = some (.int .i64 0) ∧ ((w1.alloc (.cells #[.int .i64 7, .int .i64 0, .slice none 0 0] TY)).drew.alloc ob).cell? ⟨w1.heap.size, 2, none⟩ = some (.slice none 0 0) := fun ob => by
    have hB := bl_alloc (Below.refl (w1.alloc (.cells #[.int .i64 7, .int .i64 0, .slice none 0 0] TY)).drew.heap.size (w1.alloc (.cells #[.int .i64 7, .int .i64 0, .slice none 0 0] TY)).drew) ob
    exact ⟨(hB.cell (by show b < _; omega)).trans s4.1, (A5.stays hB).cell 0, (A5.stays hB).cell 1, (A5.stays hB).cell 2⟩
  have s4b : w'.cell? ⟨b, o + 1, none⟩ = some (.string bx) ∧ w'.cell? ⟨w1.heap.size, 0, none⟩ = some (.int .i64 7) ∧ w'.cell? ⟨w1.heap.size, 1, none⟩ = some (.int .i64 0) ∧ w'.cell? ⟨w1.heap.size, 2, none⟩ = some (.slice none 0 0) := ⟨(B3.cell (by show b < _; omega)).trans s4.1, A53.cell 0, A53.cell 1, A53.cell 2⟩
  have k5 : w1.heap.size ≠ T := by omega
  have A54 : Arr (w'.setCell ⟨T, 2, none⟩ (.slice (some ⟨g, 0, none⟩) 1 c')) w1.heap.size TY [.int .i64 7, .int .i64 0, .slice none 0 0] := A53.off k5 _ _
  have k4 : w.heap.size ≠ T := by omega
  have A44 : Arr (w'.setCell ⟨T, 2, none⟩ (.slice (some ⟨g, 0, none⟩) 1 c')) w.heap.size TY [.int .i64 0, .int .i64 0, .slice none 0 0] := A43.off k4 _ _
  have s4c : (w'.setCell ⟨T, 2, none⟩ (.slice (some ⟨g, 0, none⟩) 1 c')).cell? ⟨b, o + 1, none⟩ = some (.string bx) ∧ (w'.setCell ⟨T, 2, none⟩ (.slice (some ⟨g, 0, none⟩) 1 c')).cell? ⟨w1.heap.size, 0, none⟩ = some (.int .i64 7) ∧ (w'.setCell ⟨T, 2, none⟩ (.slice (some ⟨g, 0, none⟩) 1 c')).cell? ⟨w1.heap.size, 1, none⟩ = some (.int .i64 0) ∧ (w'.setCell ⟨T, 2, none⟩ (.slice (some ⟨g, 0, none⟩) 1 c')).cell? ⟨w1.heap.size, 2, none⟩ = some (.slice none 0 0) := ⟨(World.cell?_of_block (w := w') (Below.heap_setCell _ _ _ _ (by show b ≠ T; exact bT))).trans s4b.1, A54.cell 0, A54.cell 1, A54.cell 2⟩
  have t2 : (w1.alloc (.cells #[.int .i64 7, .int .i64 0, .slice none 0 0] TY)).drew.cell? ⟨T, 2, none⟩ = some (.slice none 0 0) := Arr.cell T2 2
  have t2a : ∀ ob, ((w1.alloc (.cells #[.int .i64 7, .int .i64 0, .slice none 0 0] TY)).drew.alloc ob).cell? ⟨T, 2, none⟩ = some (.slice none 0 0) := fun ob => Arr.cell (Arr.stays T2 (bl_alloc (Below.refl _ _) ob)) 2
  have fz := Arr.frozen T3
  have sc := Arr.cell T3
  have e5 := A54.cell
  have f4 := A44.frozen
  have e4 := A44.cell
  have X3 : Xf (Es S sv) w w' := X1.trans ((Xf.of_below B2).trans (Xf.of_below B3))
  have HFIN : Hid (∀ w9, w9 = (((w'.setCell ⟨T, 2, none⟩ (.slice (some ⟨g, 0, none⟩) 1 c')).setCell ⟨w.heap.size, 0, none⟩ (.int .i64 7)).setCell ⟨w.heap.size, 1, none⟩ (.int .i64 0)).setCell ⟨w.heap.size, 2, none⟩ (.slice none 0 0) → ∃ v' g c, StoG w9 S M base v' 1 ∧ Ty1 w9 T S g cm c ∧ w.heap.size ≤ g ∧ Xf (fun k => Es S sv k ∨ k = T) w w9) := by
    rintro w9 rfl
    have kg : g ≠ T := by omega
    have kg4 : g ≠ w.heap.size := by omega
    have kT4 : T ≠ w.heap.size := by omega
    refine ⟨v1, g, c', ((((S3.other no.1 no.2.1 no.2.2 _).other no4.1 no4.2.1 no4.2.2 _).other no4.1 no4.2.1 no4.2.2 _).other no4.1 no4.2.1 no4.2.2 _), ⟨((((Arr.set T3 2 _).off kT4 _ _).off kT4 _ _).off kT4 _ _), fun j u hu => ?_, fun j => ?_, kg, hcap, hga.imp fun _ h => (((h.off kg _ _).off kg4 _ _).off kg4 _ _).off kg4 _ _⟩, by omega, ?_⟩
    · have hj : j < 4 := (List.getElem?_eq_some_iff.1 hu).1
      rw [Nat.zero_add, World.cell?_of_block (w := w') (((Below.heap_setCell _ _ _ _ kg4).trans (Below.heap_setCell _ _ _ _ kg4)).trans ((Below.heap_setCell _ _ _ _ kg4).trans (Below.heap_setCell _ _ _ _ kg)))]
      exact (hgc j hj).trans hu
    · rw [frozen_of_block (w := w') (((Below.heap_setCell _ _ _ _ kg4).trans (Below.heap_setCell _ _ _ _ kg4)).trans ((Below.heap_setCell _ _ _ _ kg4).trans (Below.heap_setCell _ _ _ _ kg)))]
      exact hgf j
    · exact ((((X3.mono (fun _ _ h => .inl h)).set (.inl (.inr rfl)) 2 _).set (.inr (Nat.le_refl _)) 0 _).set (.inr (Nat.le_refl _)) 1 _).set (.inr (Nat.le_refl _)) 2 _
  have HW : Hid (Ending.returned (.agg #[.int .i64 7, .int .i64 0, .slice none 0 0]) = Ending.returned (.agg #[.int .i64 7, .int .i64 0, .slice none 0 0])) := rfl
  have HD := HW
  clear hga hA4 hB0 A4 hT1 hL1 X1 B2 A5 T2 L2 A42 S2 h2 h3 h4 hgc hgf hb B3 T3 A53 A43 S3 no no4 A54 A44 X3 hx hS1 hi hz0 hz1 hz2 HT HL HSV
  refine wp_region_held_drew (S := fun wz => wz.cell? ⟨b, o + 1, none⟩ = some (.string bx) ∧ wz.cell? ⟨w1.heap.size, 0, none⟩ = some (.int .i64 7) ∧ wz.cell? ⟨w1.heap.size, 1, none⟩ = some (.int .i64 0) ∧ wz.cell? ⟨w1.heap.size, 2, none⟩ = some (.slice none 0 0)) (by kernel_rfl) (s4) (fun hS => ?_)
  generalize (w1.alloc (.cells #[.int .i64 7, .int .i64 0, .slice none 0 0] TY)).drew = wd at hS HD hr s4 s4a s4b s4c t2 t2a fz sc HW k5 ⊢
  refine wpAnyH_take (i := 0) (v := ?_) rfl (by kernel_rfl) (by kernel_rfl) (by kernel_rfl) (fun _ _ _ h => h) (Or.inl ⟨by rfl, ?_⟩) hS ?_
  rotate_left
  · intro wz hz; go_simp; try with_reducible rfl
  try simp only [Act.put, List.setIfInBounds_toArray, List.set_cons_zero, List.set_cons_succ, List.getElem_toArray, List.getElem_cons_succ, List.getElem_cons_zero]
  refine wpAnyH_take (i := 1) (v := ?_) rfl (by kernel_rfl) (by kernel_rfl) (by kernel_rfl) (fun _ _ _ h => h) (Or.inl ⟨by rfl, ?_⟩) hS ?_
  rotate_left
  · intro wz hz; go_simp; try with_reducible rfl
  try simp only [Act.put, List.setIfInBounds_toArray, List.set_cons_zero, List.set_cons_succ, List.getElem_toArray, List.getElem_cons_succ, List.getElem_cons_zero]
  refine wpAnyH_take (i := 2) (v := ?_) rfl (by kernel_rfl) (by kernel_rfl) (by kernel_rfl) (fun _ _ _ h => h) (Or.inl ⟨by rfl, ?_⟩) hS ?_
  rotate_left
  · intro wz hz; go_simp; try with_reducible rfl
  try simp only [Act.put, List.setIfInBounds_toArray, List.set_cons_zero, List.set_cons_succ, List.getElem_toArray, List.getElem_cons_succ, List.getElem_cons_zero]
  refine wpAnyH_take (i := 3) (v := ?_) rfl (by kernel_rfl) (by kernel_rfl) (by kernel_rfl) (fun _ _ _ h => h) (Or.inl ⟨by rfl, ?_⟩) hS ?_
  rotate_left
  · intro wz hz; go_simp; try with_reducible rfl
  try simp only [Act.put, List.setIfInBounds_toArray, List.set_cons_zero, List.set_cons_succ, List.getElem_toArray, List.getElem_cons_succ, List.getElem_cons_zero]
  refine wpAnyH_take (i := 5) (v := ?_) rfl (by kernel_rfl) (by kernel_rfl) (by kernel_rfl) (fun _ _ _ h => h) (Or.inl ⟨by rfl, ?_⟩) hS ?_
  rotate_left
  · intro wz hz; go_simp; try with_reducible rfl
  try simp only [Act.put, List.setIfInBounds_toArray, List.set_cons_zero, List.set_cons_succ, List.getElem_toArray, List.getElem_cons_succ, List.getElem_cons_zero]
  refine wpAnyH_take (i := 6) (v := ?_) rfl (by kernel_rfl) (by kernel_rfl) (by kernel_rfl) (fun _ _ _ h => h) (Or.inl ⟨by rfl, ?_⟩) hS ?_
  rotate_left
  · intro wz hz; go_simp; try with_reducible rfl
  try simp only [Act.put, List.setIfInBounds_toArray, List.set_cons_zero, List.set_cons_succ, List.getElem_toArray, List.getElem_cons_succ, List.getElem_cons_zero]
  refine wpAnyH_take (i := 7) (v := ?_) rfl (by kernel_rfl) (by kernel_rfl) (by kernel_rfl) (fun _ _ _ h => h) (Or.inl ⟨by rfl, ?_⟩) hS ?_
  rotate_left
  · intro wz hz; go_simp; try with_reducible rfl
  try simp only [Act.put, List.setIfInBounds_toArray, List.set_cons_zero, List.set_cons_succ, List.getElem_toArray, List.getElem_cons_succ, List.getElem_cons_zero]
  refine wpAnyH_take (i := 8) (v := ?_) rfl (by kernel_rfl) (by kernel_rfl) (by kernel_rfl) (fun _ _ _ h => h) (Or.inl ⟨by rfl, ?_⟩) hS ?_
  rotate_left
  · intro wz hz; obtain ⟨yy0, yy1, yy2, yy3⟩ := hz; go_simp; try with_reducible rfl
  try simp only [Act.put, List.setIfInBounds_toArray, List.set_cons_zero, List.set_cons_succ, List.getElem_toArray, List.getElem_cons_succ, List.getElem_cons_zero]
  refine wpAnyH_take (i := 9) (v := ?_) rfl (by kernel_rfl) (by kernel_rfl) (by kernel_rfl) (fun _ _ _ h => h) (Or.inl ⟨by rfl, ?_⟩) hS ?_
  rotate_left
  · intro wz hz; obtain ⟨yy0, yy1, yy2, yy3⟩ := hz; go_simp; try with_reducible rfl
  try simp only [Act.put, List.setIfInBounds_toArray, List.set_cons_zero, List.set_cons_succ, List.getElem_toArray, List.getElem_cons_succ, List.getElem_cons_zero]
  refine wpAnyH_take (i := 10) (v := ?_) rfl (by kernel_rfl) (by kernel_rfl) (by kernel_rfl) (fun _ _ _ h => h) (Or.inl ⟨by rfl, ?_⟩) hS ?_
  rotate_left
  · intro wz hz; go_simp; try with_reducible rfl
  try simp only [Act.put, List.setIfInBounds_toArray, List.set_cons_zero, List.set_cons_succ, List.getElem_toArray, List.getElem_cons_succ, List.getElem_cons_zero]
  refine wpAnyH_ready (rs := [4, 11]) (by kernel_rfl) (by simp) (AllReadyH.cons rfl (fun K hK => ?a1_4) (AllReadyH.cons rfl (fun K hK => ?a1_11) AllReadyH.nil))
  case' a1_4 =>
    go_simp
    refine hK.out _ _ (hS) (fun hSn => ?_)
    clear hK K hS
    have hS := hSn
    clear hSn
    try simp only [Act.put, List.setIfInBounds_toArray, List.set_cons_zero, List.set_cons_succ, List.getElem_toArray, List.getElem_cons_succ, List.getElem_cons_zero]
    refine wpAnyH_ready (rs := [11]) (by kernel_rfl) (by simp) (AllReadyH.cons rfl (fun K hK => ?a2_11) AllReadyH.nil)
    case' a2_11 =>
      go_simp
      refine hK.out _ _ (s4a _) (fun hSn => ?_)
      clear hK K hS
      have hS := hSn
      clear hSn
      try simp only [Act.put, List.setIfInBounds_toArray, List.set_cons_zero, List.set_cons_succ, List.getElem_toArray, List.getElem_cons_succ, List.getElem_cons_zero]
      refine wpAnyH_ready (rs := [12]) (by kernel_rfl) (by simp) (AllReadyH.cons rfl (fun K hK => ?a3_12) AllReadyH.nil)
      case' a3_12 =>
        refine step_app_eq rfl _ _ _ rfl _ _ rfl rfl _ _ hr ?_
        refine hK.out _ _ (s4b) (fun hSn => ?_)
        clear hK K hS
        have hS := hSn
        clear hSn
        try simp only [Act.put, List.setIfInBounds_toArray, List.set_cons_zero, List.set_cons_succ, List.getElem_toArray, List.getElem_cons_succ, List.getElem_cons_zero]
        refine wpAnyH_take (i := 13) (v := ?_) rfl (by kernel_rfl) (by kernel_rfl) (by kernel_rfl) (fun _ _ _ h => h) (Or.inl ⟨by rfl, ?_⟩) hS ?_
        rotate_left
        · intro wz hz; go_simp; try with_reducible rfl
        try simp only [Act.put, List.setIfInBounds_toArray, List.set_cons_zero, List.set_cons_succ, List.getElem_toArray, List.getElem_cons_succ, List.getElem_cons_zero]
        refine wpAnyH_take (i := 14) (v := ?_) rfl (by kernel_rfl) (by kernel_rfl) (by kernel_rfl) (fun _ _ _ h => h) (Or.inl ⟨by rfl, ?_⟩) hS ?_
        rotate_left
        · intro wz hz; go_simp; try with_reducible rfl
        try simp only [Act.put, List.setIfInBounds_toArray, List.set_cons_zero, List.set_cons_succ, List.getElem_toArray, List.getElem_cons_succ, List.getElem_cons_zero]
        refine wpAnyH_ready (rs := [15]) (by kernel_rfl) (by simp) (AllReadyH.cons rfl (fun K hK => ?a4_15) AllReadyH.nil)
        case' a4_15 =>
          go_simp
          refine hK.out _ _ (s4c) (fun hSn => ?_)
          clear hK K hS
          have hS := hSn
          clear hSn
          try simp only [Act.put, List.setIfInBounds_toArray, List.set_cons_zero, List.set_cons_succ, List.getElem_toArray, List.getElem_cons_succ, List.getElem_cons_zero]
          refine wpAnyH_done (by kernel_rfl) ?_ _
  case' a1_11 =>
    go_simp
    refine hK.out _ _ (s4a _) (fun hSn => ?_)
    clear hK K hS
    have hS := hSn
    clear hSn
    try simp only [Act.put, List.setIfInBounds_toArray, List.set_cons_zero, List.set_cons_succ, List.getElem_toArray, List.getElem_cons_succ, List.getElem_cons_zero]
    refine wpAnyH_ready (rs := [4]) (by kernel_rfl) (by simp) (AllReadyH.cons rfl (fun K hK => ?a5_4) AllReadyH.nil)
    case' a5_4 =>
      go_simp
      refine hK.out _ _ (hS) (fun hSn => ?_)
      clear hK K hS
      have hS := hSn
      clear hSn
      try simp only [Act.put, List.setIfInBounds_toArray, List.set_cons_zero, List.set_cons_succ, List.getElem_toArray, List.getElem_cons_succ, List.getElem_cons_zero]
      refine wpAnyH_ready (rs := [12]) (by kernel_rfl) (by simp) (AllReadyH.cons rfl (fun K hK => ?a6_12) AllReadyH.nil)
      case' a6_12 =>
        refine step_app_eq rfl _ _ _ rfl _ _ rfl rfl _ _ hr ?_
        refine hK.out _ _ (s4b) (fun hSn => ?_)
        clear hK K hS
        have hS := hSn
        clear hSn
        try simp only [Act.put, List.setIfInBounds_toArray, List.set_cons_zero, List.set_cons_succ, List.getElem_toArray, List.getElem_cons_succ, List.getElem_cons_zero]
        refine wpAnyH_take (i := 13) (v := ?_) rfl (by kernel_rfl) (by kernel_rfl) (by kernel_rfl) (fun _ _ _ h => h) (Or.inl ⟨by rfl, ?_⟩) hS ?_
        rotate_left
        · intro wz hz; go_simp; try with_reducible rfl
        try simp only [Act.put, List.setIfInBounds_toArray, List.set_cons_zero, List.set_cons_succ, List.getElem_toArray, List.getElem_cons_succ, List.getElem_cons_zero]
        refine wpAnyH_take (i := 14) (v := ?_) rfl (by kernel_rfl) (by kernel_rfl) (by kernel_rfl) (fun _ _ _ h => h) (Or.inl ⟨by rfl, ?_⟩) hS ?_
        rotate_left
        · intro wz hz; go_simp; try with_reducible rfl
        try simp only [Act.put, List.setIfInBounds_toArray, List.set_cons_zero, List.set_cons_succ, List.getElem_toArray, List.getElem_cons_succ, List.getElem_cons_zero]
        refine wpAnyH_ready (rs := [15]) (by kernel_rfl) (by simp) (AllReadyH.cons rfl (fun K hK => ?a7_15) AllReadyH.nil)
        case' a7_15 =>
          go_simp
          refine hK.out _ _ (s4c) (fun hSn => ?_)
          clear hK K hS
          have hS := hSn
          clear hSn
          try simp only [Act.put, List.setIfInBounds_toArray, List.set_cons_zero, List.set_cons_succ, List.getElem_toArray, List.getElem_cons_succ, List.getElem_cons_zero]
          refine wpAnyH_done (by kernel_rfl) ?_ _
  all_goals (
    go_wp2
    refine bodyPost_ret (v := .agg #[.int .i64 7, .int .i64 0, .slice none 0 0]) (by rw [results_cell1 (fn := Tryz.f31) (p := 4) (ty := TY) (by kernel_rfl)]; simp [go_sem, e4, f4]) rfl ?_
    obtain ⟨v', g', c3, q1, q2, q3, q4⟩ := HFIN.out _ rfl
    exact ⟨rfl, ⟨v', q1⟩, g', ⟨c3, q2⟩, q3, q4⟩)

theorem typeOf_intB (w : World) (T b o : Nat) (hl : Leaf5 w b o 3 (⟨#[]⟩ : ByteArray) 1) : Hid (∀ wz, Below w.heap.size w wz → Calls Tryz.prog 31 #[.pointer (some ⟨T, 0, none⟩), .pointer (some ⟨b, o, none⟩)] wz fun e w' => e = .returned (.agg #[.int .i64 1, .int .i64 0, .slice none 0 0]) ∧ Below wz.heap.size wz w') := fun wz hz => typeOf_int wz T b o (hl.stays hz)
set_option maxHeartbeats 4000000 in
set_option maxRecDepth 100000 in
theorem typeOf_pair (w : World) (T S M base : Nat) (sv cm : Value) (P K : Nat) (hS : StoG w S M base sv 0) (hT : Ty0 w T S cm) (hl : Pair5 w P K 3 (⟨#[]⟩ : ByteArray) 1) (nT : ¬ Es S sv T) (nP : ¬ Es S sv P) (nK : ¬ Es S sv K) (PnT : P ≠ T) (KT : K ≠ T) : Calls Tryz.prog 31 #[.pointer (some ⟨T, 0, none⟩), .pointer (some ⟨P, 0, none⟩)] w fun e w' => ∃ R, e = .returned (.agg #[.int .i64 5, .int .i64 0, .slice (some ⟨R, 0, none⟩) 2 2]) ∧ Cells w' R 0 [.int .i64 7, .int .i64 0, .slice none 0 0, .int .i64 1, .int .i64 0, .slice none 0 0] ∧ w.heap.size ≤ R ∧ ∃ v' g c, StoG w' S M base v' 1 ∧ Ty1 w' T S g cm c ∧ w.heap.size ≤ g ∧ Xf (fun k => Es S sv k ∨ k = T) w w' := by
  have hTl := Arr.lt hT
  have hPl := hl.pl
  have hKl := hl.a.2
  have d0 : w.cell? ⟨P, 0, none⟩ = some (.int .i64 7) := hl.p 0 _ rfl
  have dn : ∀ ob, (w.alloc ob).cell? ⟨P, 0, none⟩ = some (.int .i64 7) := fun ob => (hl.stays (bl_alloc (Below.refl _ _) ob)).p 0 _ rfl
  have d4 : ∀ ob, (w.alloc ob).cell? ⟨P, 4, none⟩ = some (.slice (some ⟨K, 0, none⟩) 2 2) := fun ob => (hl.stays (bl_alloc (Below.refl _ _) ob)).p 4 _ rfl
  have HQ : Hid (∀ ob, Calls Tryz.prog 31 #[.pointer (some ⟨T, 0, none⟩), .pointer (some ⟨K, 0, none⟩)] (w.alloc ob) fun e w' => e = .returned (.agg #[.int .i64 7, .int .i64 0, .slice none 0 0]) ∧ ∃ v' g c, StoG w' S M base v' 1 ∧ Ty1 w' T S g cm c ∧ (w.alloc ob).heap.size ≤ g ∧ Xf (fun k => Es S sv k ∨ k = T) (w.alloc ob) w') := fun ob => typeOf_var _ T S M base sv cm K 0 (hS.stays (bl_alloc (Below.refl _ _) ob)) (Arr.stays hT (bl_alloc (Below.refl _ _) ob)) (hl.a.stays (bl_alloc (Below.refl _ _) ob)) nT nK KT
  have HL : Hid (Pair5 w P K 3 (⟨#[]⟩ : ByteArray) 1) := hl
  have HSV : Hid (∀ k, sv.ownBlock = some k → k < w.heap.size) := fun k e => (hS.own.lt k e).2
  have hSl := hS.st.lt
  clear hl hT hS
  go_enter Tryz.func31, Tryz.ntmps31
  go_wp2_with (go_at_call 31; refine (HQ.out _).mono ?_; rintro e w1 ⟨rfl, v1, g, c, hS1, hT1, hg, hx⟩)
  clear HQ dn d0 d4
  have n4 : ¬ (Es S sv w.heap.size ∨ w.heap.size = T) := fun e => e.elim (fun e => e.elim (fun e => by omega) (fun e => by have := HSV.out _ e; omega)) (fun e => by omega)
  have nP' : ¬ (Es S sv P ∨ P = T) := fun e => e.elim nP PnT
  have nK' : ¬ (Es S sv K ∨ K = T) := fun e => e.elim nK KT
  have hA4 : Arr (w.alloc (.cells #[.int .i64 0, .int .i64 0, .slice none 0 0] TY)) w.heap.size TY [.int .i64 0, .int .i64 0, .slice none 0 0] := ⟨heap_alloc_at _ _⟩
  have hB0 : Below w.heap.size w (w.alloc (.cells #[.int .i64 0, .int .i64 0, .slice none 0 0] TY)) := bl_alloc (Below.refl _ _) _
  have hs0 : w.heap.size < (w.alloc (.cells #[.int .i64 0, .int .i64 0, .slice none 0 0] TY)).heap.size := hA4.lt
  have A4 : Arr w1 w.heap.size TY [.int .i64 0, .int .i64 0, .slice none 0 0] := hx.arr hA4 n4
  have hP1 : w1.cell? ⟨P, 4, none⟩ = some (.slice (some ⟨K, 0, none⟩) 2 2) := hx.cells (Nat.lt_of_lt_of_le hPl hB0.size) (fun j u hu => (hB0.cell hPl).trans (HL.out.p j u hu)) nP' 4 _ rfl
  have hK1 : Leaf5 w1 K 5 3 (⟨#[]⟩ : ByteArray) 1 := ⟨hx.cells (Nat.lt_of_lt_of_le hKl hB0.size) (HL.out.stays hB0).b.1 nK', Nat.lt_of_lt_of_le (Nat.lt_of_lt_of_le hKl hB0.size) hx.size⟩
  have X1 : Xf (fun k => Es S sv k ∨ k = T) w w1 := (Xf.of_below hB0).trans hx
  have hs1 : w.heap.size < w1.heap.size := A4.lt
  have B2 : Below w1.heap.size w1 (w1.alloc (.cells #[.int .i64 7, .int .i64 0, .slice none 0 0] TY)).drew := (bl_alloc (Below.refl _ _) _).drew
  have A5 : Arr (w1.alloc (.cells #[.int .i64 7, .int .i64 0, .slice none 0 0] TY)).drew w1.heap.size TY [.int .i64 7, .int .i64 0, .slice none 0 0] := Arr.stays (w := (w1.alloc (.cells #[.int .i64 7, .int .i64 0, .slice none 0 0] TY))) ⟨heap_alloc_at _ _⟩ (Below.refl _ _).drew
  have hs2 : w1.heap.size < (w1.alloc (.cells #[.int .i64 7, .int .i64 0, .slice none 0 0] TY)).drew.heap.size := A5.lt
  have A42 := A4.stays B2
  have HK2 := typeOf_intB (w1.alloc (.cells #[.int .i64 7, .int .i64 0, .slice none 0 0] TY)).drew T K 5 (hK1.stays B2)
  have hP2 : (w1.alloc (.cells #[.int .i64 7, .int .i64 0, .slice none 0 0] TY)).drew.cell? ⟨P, 4, none⟩ = some (.slice (some ⟨K, 0, none⟩) 2 2) := (B2.cell (World.block_lt_of_cell? _ _ hP1)).trans hP1
  have hk : Hid (∀ wz : World, (∀ k, k ≠ w.heap.size → k < (w1.alloc (.cells #[.int .i64 7, .int .i64 0, .slice none 0 0] TY)).drew.heap.size → wz.heap[k]? = (w1.alloc (.cells #[.int .i64 7, .int .i64 0, .slice none 0 0] TY)).drew.heap[k]?) → (wz.cell? ⟨P, 4, none⟩ = some (.slice (some ⟨K, 0, none⟩) 2 2) ∧ wz.cell? ⟨w1.heap.size, 0, none⟩ = some (.int .i64 7) ∧ wz.cell? ⟨w1.heap.size, 1, none⟩ = some (.int .i64 0) ∧ wz.cell? ⟨w1.heap.size, 2, none⟩ = some (.slice none 0 0))) := hid fun wz hz => by
    have e5 := hz w1.heap.size (by omega) hs2
    exact ⟨(World.cell?_of_block (w := (w1.alloc (.cells #[.int .i64 7, .int .i64 0, .slice none 0 0] TY)).drew) (hz P (by omega) (by omega))).trans hP2, (World.cell?_of_block (w := (w1.alloc (.cells #[.int .i64 7, .int .i64 0, .slice none 0 0] TY)).drew) e5).trans (A5.cell 0), (World.cell?_of_block (w := (w1.alloc (.cells #[.int .i64 7, .int .i64 0, .slice none 0 0] TY)).drew) e5).trans (A5.cell 1), (World.cell?_of_block (w := (w1.alloc (.cells #[.int .i64 7, .int .i64 0, .slice none 0 0] TY)).drew) e5).trans (A5.cell 2)⟩
  have s0 : (w1.alloc (.cells #[.int .i64 7, .int .i64 0, .slice none 0 0] TY)).drew.cell? ⟨P, 4, none⟩ = some (.slice (some ⟨K, 0, none⟩) 2 2) ∧ (w1.alloc (.cells #[.int .i64 7, .int .i64 0, .slice none 0 0] TY)).drew.cell? ⟨w1.heap.size, 0, none⟩ = some (.int .i64 7) ∧ (w1.alloc (.cells #[.int .i64 7, .int .i64 0, .slice none 0 0] TY)).drew.cell? ⟨w1.heap.size, 1, none⟩ = some (.int .i64 0) ∧ (w1.alloc (.cells #[.int .i64 7, .int .i64 0, .slice none 0 0] TY)).drew.cell? ⟨w1.heap.size, 2, none⟩ = some (.slice none 0 0) := hk.out _ (fun _ _ _ => rfl)
  have H1 := hid hS1
  have H2 : Hid (Ty1 w1 T S g cm c) := hT1
  have HX := hid X1
  have HA42 := hid A42
  have HB2 := hid B2
  have HG : Hid (w.heap.size < g) := Nat.lt_of_lt_of_le hs0 hg
  clear hA4 hB0 hs0 A4 hP1 hK1 A5 A42 hP2 hS1 hT1 hx HL HSV hg
  have HFIN : Hid (∀ w9, Below (w1.alloc (.cells #[.int .i64 7, .int .i64 0, .slice none 0 0] TY)).drew.heap.size (w1.alloc (.cells #[.int .i64 7, .int .i64 0, .slice none 0 0] TY)).drew w9 → ∀ w3, w3 = ((((w9.alloc (.cells #[.int .i64 7, .int .i64 0, .slice none 0 0, .int .i64 1, .int .i64 0, .slice none 0 0] TY)).setCell ⟨w.heap.size, 0, none⟩ (.int .i64 5)).setCell ⟨w.heap.size, 1, none⟩ (.int .i64 0)).setCell ⟨w.heap.size, 2, none⟩ (.slice (some ⟨w9.heap.size, 0, none⟩) 2 2)) → Cells w3 w9.heap.size 0 [.int .i64 7, .int .i64 0, .slice none 0 0, .int .i64 1, .int .i64 0, .slice none 0 0] ∧ w.heap.size ≤ w9.heap.size ∧ ∃ v' g c, StoG w3 S M base v' 1 ∧ Ty1 w3 T S g cm c ∧ w.heap.size ≤ g ∧ Xf (fun k => Es S sv k ∨ k = T) w w3) := hid fun w9 h9 w3 e3 => by
    subst e3
    have h9s := h9.size
    have hb2 := HB2.out.trans (Below.mono h9 (by omega))
    have hba := bl_alloc h9 (.cells #[.int .i64 7, .int .i64 0, .slice none 0 0, .int .i64 1, .int .i64 0, .slice none 0 0] TY)
    have hbw := HB2.out.trans (Below.mono hba (by omega))
    have T9 : Ty1 (w9.alloc (.cells #[.int .i64 7, .int .i64 0, .slice none 0 0, .int .i64 1, .int .i64 0, .slice none 0 0] TY)) T S g cm c := H2.out.stays hbw
    have S9 := H1.out.stays hbw
    have A9 := HA42.out.stays hba
    have no4 := S9.not A9 (by decide) (by decide)
    have kT : T ≠ w.heap.size := by omega
    have kg : g ≠ w.heap.size := by have := HG.out; omega
    have kR : w9.heap.size ≠ w.heap.size := by omega
    refine ⟨fun j u hu => ?_, by omega, v1, g, c, ((S9.other no4.1 no4.2.1 no4.2.2 _).other no4.1 no4.2.1 no4.2.2 _).other no4.1 no4.2.1 no4.2.2 _, ((T9.set kT kg).set kT kg).set kT kg, Nat.le_of_lt HG.out, ?_⟩
    · rw [World.cell?_of_block (w := w9.alloc (.cells #[.int .i64 7, .int .i64 0, .slice none 0 0, .int .i64 1, .int .i64 0, .slice none 0 0] TY)) ((Below.heap_setCell _ _ _ _ kR).trans ((Below.heap_setCell _ _ _ _ kR).trans (Below.heap_setCell _ _ _ _ kR)))]
      rw [Nat.zero_add, cell_at (heap_alloc_at _ _)]
      simpa using hu
    · exact ((((HX.out.trans (Xf.of_below hbw)).set (.inr (Nat.le_refl _)) 0 _).set (.inr (Nat.le_refl _)) 1 _).set (.inr (Nat.le_refl _)) 2 _)
  have HD := HFIN
  refine wp_region_held_drew (S := fun wz => wz.cell? ⟨P, 4, none⟩ = some (.slice (some ⟨K, 0, none⟩) 2 2) ∧ wz.cell? ⟨w1.heap.size, 0, none⟩ = some (.int .i64 7) ∧ wz.cell? ⟨w1.heap.size, 1, none⟩ = some (.int .i64 0) ∧ wz.cell? ⟨w1.heap.size, 2, none⟩ = some (.slice none 0 0)) (by kernel_rfl) (s0) (fun hS => ?_)
  generalize (w1.alloc (.cells #[.int .i64 7, .int .i64 0, .slice none 0 0] TY)).drew = wd at hS HD HK2 hk s0 HA42 HB2 HFIN hs2 ⊢
  refine wpAnyH_take (i := 0) (v := ?_) rfl (by kernel_rfl) (by kernel_rfl) (by kernel_rfl) (fun _ _ _ h => h) (Or.inl ⟨by rfl, ?_⟩) hS ?_
  rotate_left
  · intro wz hz; obtain ⟨yy0, yy1, yy2, yy3⟩ := hz; go_simp; try with_reducible rfl
  try simp only [Act.put, List.setIfInBounds_toArray, List.set_cons_zero, List.set_cons_succ, List.getElem_toArray, List.getElem_cons_succ, List.getElem_cons_zero]
  refine wpAnyH_take (i := 1) (v := ?_) rfl (by kernel_rfl) (by kernel_rfl) (by kernel_rfl) (fun _ _ _ h => h) (Or.inl ⟨by rfl, ?_⟩) hS ?_
  rotate_left
  · intro wz hz; go_simp; try with_reducible rfl
  try simp only [Act.put, List.setIfInBounds_toArray, List.set_cons_zero, List.set_cons_succ, List.getElem_toArray, List.getElem_cons_succ, List.getElem_cons_zero]
  refine wpAnyH_take (i := 2) (v := ?_) rfl (by kernel_rfl) (by kernel_rfl) (by kernel_rfl) (fun _ _ _ h => h) (Or.inl ⟨by rfl, ?_⟩) hS ?_
  rotate_left
  · intro wz hz; go_simp; try with_reducible rfl
  try simp only [Act.put, List.setIfInBounds_toArray, List.set_cons_zero, List.set_cons_succ, List.getElem_toArray, List.getElem_cons_succ, List.getElem_cons_zero]
  refine wpAnyH_take (i := 3) (v := ?_) rfl (by kernel_rfl) (by kernel_rfl) (by kernel_rfl) (fun _ _ _ h => h) (Or.inl ⟨by rfl, ?_⟩) hS ?_
  rotate_left
  · intro wz hz; go_simp; try with_reducible rfl
  try simp only [Act.put, List.setIfInBounds_toArray, List.set_cons_zero, List.set_cons_succ, List.getElem_toArray, List.getElem_cons_succ, List.getElem_cons_zero]
  refine wpAnyH_take (i := 4) (v := ?_) rfl (by kernel_rfl) (by kernel_rfl) (by kernel_rfl) (fun _ _ _ h => h) (Or.inl ⟨by rfl, ?_⟩) hS ?_
  rotate_left
  · intro wz hz; go_simp; try with_reducible rfl
  try simp only [Act.put, List.setIfInBounds_toArray, List.set_cons_zero, List.set_cons_succ, List.getElem_toArray, List.getElem_cons_succ, List.getElem_cons_zero]
  refine wpAnyH_take (i := 5) (v := ?_) rfl (by kernel_rfl) (by kernel_rfl) (by kernel_rfl) (fun _ _ _ h => h) (Or.inl ⟨by rfl, ?_⟩) hS ?_
  rotate_left
  · intro wz hz; obtain ⟨yy0, yy1, yy2, yy3⟩ := hz; go_simp; try with_reducible rfl
  try simp only [Act.put, List.setIfInBounds_toArray, List.set_cons_zero, List.set_cons_succ, List.getElem_toArray, List.getElem_cons_succ, List.getElem_cons_zero]
  refine wpAnyH_take (i := 6) (v := ?_) rfl (by kernel_rfl) (by kernel_rfl) (by kernel_rfl) (fun _ _ _ h => h) (Or.inl ⟨by rfl, ?_⟩) hS ?_
  rotate_left
  · intro wz hz; go_simp; try with_reducible rfl
  try simp only [Act.put, List.setIfInBounds_toArray, List.set_cons_zero, List.set_cons_succ, List.getElem_toArray, List.getElem_cons_succ, List.getElem_cons_zero]
  refine wpAnyH_ready (rs := [7]) (by kernel_rfl) (by simp) (AllReadyH.cons rfl (fun K hK => ?a8_7) AllReadyH.nil)
  case' a8_7 =>
    go_simp
    refine (HK2.out _ (Below.refl _ _)).mono ?_
    rintro e w9 ⟨rfl, b9⟩
    have B9 := hid b9
    clear b9
    refine hK.out _ _ ((hk.out _ (fun k _ hl => B9.out.block k hl))) (fun hSn => ?_)
    clear hK K hS
    have hS := hSn
    clear hSn
    try simp only [Act.put, List.setIfInBounds_toArray, List.set_cons_zero, List.set_cons_succ, List.getElem_toArray, List.getElem_cons_succ, List.getElem_cons_zero]
    refine wpAnyH_ready (rs := [8]) (by kernel_rfl) (by simp) (AllReadyH.cons rfl (fun K hK => ?a9_8) AllReadyH.nil)
    case' a9_8 =>
      go_simp
      refine hK.out _ _ ((hk.out _ (fun k _ hl => (bl_alloc B9.out _).block k hl))) (fun hSn => ?_)
      clear hK K hS
      have hS := hSn
      clear hSn
      try simp only [Act.put, List.setIfInBounds_toArray, List.set_cons_zero, List.set_cons_succ, List.getElem_toArray, List.getElem_cons_succ, List.getElem_cons_zero]
      refine wpAnyH_take (i := 9) (v := ?_) rfl (by kernel_rfl) (by kernel_rfl) (by kernel_rfl) (fun _ _ _ h => h) (Or.inl ⟨by rfl, ?_⟩) hS ?_
      rotate_left
      · intro wz hz; go_simp; try with_reducible rfl
      try simp only [Act.put, List.setIfInBounds_toArray, List.set_cons_zero, List.set_cons_succ, List.getElem_toArray, List.getElem_cons_succ, List.getElem_cons_zero]
      refine wpAnyH_ready (rs := [10]) (by kernel_rfl) (by simp) (AllReadyH.cons rfl (fun K hK => ?a10_10) AllReadyH.nil)
      case' a10_10 =>
        have a4 := (HA42.out.stays (bl_alloc B9.out (.cells #[.int .i64 7, .int .i64 0, .slice none 0 0, .int .i64 1, .int .i64 0, .slice none 0 0] TY))).frozen
        have b4 := (HA42.out.stays (bl_alloc B9.out (.cells #[.int .i64 7, .int .i64 0, .slice none 0 0, .int .i64 1, .int .i64 0, .slice none 0 0] TY))).cell
        go_simp
        refine hK.out _ _ ((hk.out _ (fun k h4 hl => ((Below.heap_setCell _ ⟨w.heap.size, 2, none⟩ _ _ h4).trans ((Below.heap_setCell _ ⟨w.heap.size, 1, none⟩ _ _ h4).trans (Below.heap_setCell _ ⟨w.heap.size, 0, none⟩ _ _ h4))).trans ((bl_alloc B9.out _).block k hl)))) (fun hSn => ?_)
        clear hK K hS
        have hS := hSn
        clear hSn
        try simp only [Act.put, List.setIfInBounds_toArray, List.set_cons_zero, List.set_cons_succ, List.getElem_toArray, List.getElem_cons_succ, List.getElem_cons_zero]
        refine wpAnyH_done (by kernel_rfl) ?_ _
  all_goals (
    have a4 := (HA42.out.stays (bl_alloc B9.out (.cells #[.int .i64 7, .int .i64 0, .slice none 0 0, .int .i64 1, .int .i64 0, .slice none 0 0] TY))).frozen
    have b4 := (HA42.out.stays (bl_alloc B9.out (.cells #[.int .i64 7, .int .i64 0, .slice none 0 0, .int .i64 1, .int .i64 0, .slice none 0 0] TY))).cell
    go_wp2
    refine bodyPost_ret (v := .agg #[.int .i64 5, .int .i64 0, .slice (some ⟨w9.heap.size, 0, none⟩) 2 2]) (by rw [results_cell1 (fn := Tryz.f31) (p := 4) (ty := TY) (by kernel_rfl)]; simp [go_sem, a4, b4]) rfl ?_
    obtain ⟨q0, q1, v', g', c3, q2, q3, q4, q5⟩ := HFIN.out _ B9.out _ rfl
    exact ⟨_, rfl, q0, q1, v', g', c3, q2, q3, q4, q5⟩)
end Go.Proofs.YtjodgnkhociaaaaGreat
