/- The gatherer's take. -/
import Derived.Test.YtjodgnkhociaaaaGreatQae
namespace Go.Proofs.YtjodgnkhociaaaaGreat
open Go.RowKit
set_option linter.unusedVariables false
set_option linter.unusedSimpArgs false

/-- What the gatherer may write. -/
def Og (M C : Nat) (lv : Value) : Nat → Prop := fun b => b = M ∨ b = C ∨ lv.ownBlock = some b
theorem Told.kept {w w' : World} {C n : Nat} {s : List Int} {row : Option Nat} (h : Told w C n s) (hg : w.grownBy w' row) (hne : some C ≠ row) : Told w' C n s := by
  obtain ⟨D, h1, h2, h3⟩ := h
  exact ⟨D, h1.kept hg hne, h2, h3⟩
theorem Told.set {w : World} {C n : Nat} {s : List Int} (h : Told w C n s) {p : Addr} (hp : C ≠ p.block) (v : Value) : Told (w.setCell p v) C n s := by
  obtain ⟨D, h1, h2, h3⟩ := h
  exact ⟨D, h1.setCell hp v, h2, h3⟩
theorem Gth.row {M C : Nat} {kind : Int} {lv : Value} {s : List Int} {w : World} (h : Gth M C kind lv s w) : ∀ b, lv.ownBlock = some b → M + 1 ≤ b := fun b hb => (h.own.lt b hb).1
theorem Ev.grown {own : Nat → Prop} {w w' : World} {row : Option Nat} (hg : w.grownBy w' row) (ho : ∀ b, row = some b → own b) : Ev own w own w' := by
  obtain ⟨h1, h2, h3, h4, h5⟩ := hg
  exact ⟨h1, h2, h3, h4, fun _ h => .inl h, fun b hb hn => h5 b hb (fun e => hn (ho b e.symm))⟩
/-- The map knows the new number; the list not yet. -/
structure Mid (M C : Nat) (kind : Int) (lv : Value) (s : List Int) (x : Int) (w : World) : Prop where
  b : Arr w M 334 [.int .i64 kind, lv, .map (some C)]
  own : w.ownsRow (M + 1) 3 1 lv s.length (s.map (.int .i64))
  told : Told w C (s.length + 1) (s ++ [x])
  lt : C < M
theorem Gth.mid {M C : Nat} {kind : Int} {lv : Value} {s : List Int} {x : Int} {w w' : World} (h : Gth M C kind lv s w) (ht : Told w' C (s.length + 1) (s ++ [x])) (hg : w.grownBy w' (some C)) : Mid M C kind lv s x w' :=
  ⟨h.b.grown hg (fun e => by have := h.lt; injection e with e; omega), h.own.kept hg (Or.inr (fun e => by have := h.row C e; have := h.lt; omega)), ht, h.lt⟩
theorem Mid.stays {M C : Nat} {kind : Int} {lv : Value} {s : List Int} {x : Int} {w w' : World} (h : Mid M C kind lv s x w) (hb : Below w.heap.size w w') : Mid M C kind lv s x w' := ⟨h.b.stays hb, own_stays h.own hb, h.told.stays hb, h.lt⟩
theorem Mid.app {M C : Nat} {kind : Int} {lv v' : Value} {s : List Int} {x : Int} {w1 w2 : World} (h : Mid M C kind lv s x w1) (hown : w2.ownsRow (M + 1) 3 1 v' (s.length + 1) (s.map (.int .i64) ++ [.int .i64 x])) (hg : w1.grownBy w2 lv.ownBlock) (hf : Fresh w1 lv v') :
    (Arr w2 M 334 [.int .i64 kind, lv, .map (some C)] ∧ Gth M C kind v' (s ++ [x]) (w2.setCell ⟨M, 1, none⟩ v')) ∧ Ev (Og M C lv) w1 (Og M C v') (w2.setCell ⟨M, 1, none⟩ v') := by
  have hrow : ∀ b, lv.ownBlock = some b → M + 1 ≤ b := fun b hb => (h.own.lt b hb).1
  have hrow' : ∀ b, v'.ownBlock = some b → M + 1 ≤ b := fun b hb => (hown.lt b hb).1
  have hb : Arr w2 M 334 [.int .i64 kind, lv, .map (some C)] := h.b.grown hg (fun e => by have := hrow M e.symm; omega)
  refine ⟨⟨hb, hb.set 1 v', ?_, ?_, h.lt⟩, ?_⟩
  · rw [List.length_append, List.map_append]
    exact hown.kept (row := some M) ⟨rfl, rfl, rfl, by simp [World.setCell], fun b _ hb => Below.heap_setCell _ _ _ _ (fun e => hb (by simp [e]))⟩ (Or.inr (fun e => by have := hrow' _ e; omega))
  · rw [List.length_append]
    exact (h.told.kept hg (fun e => by have := hrow C e.symm; have := h.lt; omega)).set (by show C ≠ M; have := h.lt; omega) v'
  · obtain ⟨g1, g2, g3, g4, g5⟩ := hg
    refine ⟨g1, g2, g3, by simp only [World.setCell, Array.size_modify]; exact g4, fun b hb => ?_, fun b hb hn => ?_⟩
    · rcases hb with hb | hb | hb
      · exact .inl (.inl hb)
      · exact .inl (.inr (.inl hb))
      · rcases hf with hf | hf
        · exact .inl (.inr (.inr (by rw [← hf]; exact hb)))
        · exact .inr (hf b hb)
    · rw [Below.heap_setCell _ _ _ _ (by show b ≠ M; exact fun e => hn (.inl e))]
      exact g5 b hb (fun e => hn (.inr (.inr e.symm)))
theorem step_mapUpdate {P : Program} {ops : Array Oper} {o : Oper} {a : Act} {w w' : World} {K : Act → World → Prop} {Q : Exit → Act → World → Prop} {E : Prop} (hgd : o.guard = none) (m x v : Operand) (t : TypeId) (hop : o.op = .mapUpdate t m x v) (vm vx vv : Value) (hm : a.eval m = vm) (hx : a.eval x = vx) (hv : a.eval v = vv)
    (hr : (Instr.mapUpdate t vm vx vv).run P w = .ok () w') (hK : K (a.put o.dst undef) w') : if Region.wanted o (yielded ops a.tmps) = true then Oper.wp P o a w K Q else E := by
  have hw : Region.wanted o (yielded ops a.tmps) = true := by simp [Region.wanted, hgd]
  rw [if_pos hw]
  unfold Oper.wp
  simp [execOp, hop, hm, hx, hv, hr, Result.andThen]
  exact hK

set_option maxHeartbeats 4000000 in
set_option maxRecDepth 100000 in
theorem take_any (M C : Nat) (kind : Int) (lv : Value) (s : List Int) (w : World) (k n : Int) (u : Value) (h : Gth M C kind lv s w) (hn : R64 n) (hs : s.length < 1048576) : Calls Tryz.prog 173 #[.pointer (some ⟨M, 0, none⟩), .agg #[.int .i64 k, .int .i64 n, u]] w fun e w' => e = .returned (.tuple #[.bool true, .bool true]) ∧ ∃ lv', Gth M C kind lv' (if k = kind then Tp.ins s n else s) w' ∧ Ev (Og M C lv) w (Og M C lv') w' := by
  have G0 : Hid (Gth M C kind lv s w) := h
  have hM := h.b.lt
  have HLV : Hid (lv.ownBlock ≠ some w.heap.size) := fun e => by have := (h.own.lt _ e).2; omega
  have X0 : Hid (Arr (w.alloc (.cells #[.int .i64 k, .int .i64 n, u] 47)) w.heap.size 47 [.int .i64 k, .int .i64 n, u]) := ⟨heap_alloc_at _ _⟩
  have c0 : ∀ o, (w.alloc o).cell? ⟨M, 0, none⟩ = some (.int .i64 kind) := fun o => (h.stays (bl_alloc (Below.refl _ _) o)).b.cell 0
  clear h
  by_cases hk : k = kind
  · have hk1 : (k != kind) = false := by simp [hk]
    rw [if_pos hk]
    have HN : Hid (R64 n) := hn
    obtain ⟨j0, hj0, hy0, hy1, hy2⟩ := info_parts0 info_int
    clear hk hn
    go_enter Tryz.func173, Tryz.ntmps173
    go_wp2
    go_quiet (fail)
    go_wp2
    have G1 : Hid (Gth M C kind lv s ((w.alloc (.cells #[.int .i64 k, .int .i64 n, u] 47)).drewN nq)) := G0.out.stays (bl_dN (bl_alloc (Below.refl _ _) _) _)
    have X1 : Hid (Arr ((w.alloc (.cells #[.int .i64 k, .int .i64 n, u] 47)).drewN nq) w.heap.size 47 [.int .i64 k, .int .i64 n, u]) := X0.out.stays (bl_drewN _ _)
    have B1 : Hid (Below w.heap.size w ((w.alloc (.cells #[.int .i64 k, .int .i64 n, u] 47)).drewN nq)) := bl_dN (bl_alloc (Below.refl _ _) _) _
    generalize ((w.alloc (.cells #[.int .i64 k, .int .i64 n, u] 47)).drewN nq) = W1 at G1 X1 B1 ⊢
    clear G0 X0 c0
    by_cases hi : n ∈ s
    · have hin : decide (n ∈ s) = true := decide_eq_true hi
      have HI : Hid (Tp.ins s n = s) := by show _ = _; unfold Tp.ins; rw [if_pos hi]
      clear hi
      refine wp_region_held_drew (S := fun wz => Gth M C kind lv s wz ∧ Arr wz w.heap.size 47 [.int .i64 k, .int .i64 n, u] ∧ Below W1.heap.size W1 wz) (by kernel_rfl) ⟨G1.out.stays (Below.refl _ _).drew, X1.out.stays (Below.refl _ _).drew, (Below.refl _ _).drew⟩ (fun hS => ?_)
      generalize W1.drew = W2 at hS ⊢
      refine wpAnyH_take (i := 0) (v := ?_) rfl (by kernel_rfl) (by kernel_rfl) (by kernel_rfl) (fun _ _ _ h => h) (Or.inl ⟨by rfl, ?_⟩) hS ?_
      rotate_left
      · intro wz hz; go_simp; try with_reducible rfl
      try simp only [Act.put, List.setIfInBounds_toArray, List.set_cons_zero, List.set_cons_succ, List.getElem_toArray, List.getElem_cons_succ, List.getElem_cons_zero]
      refine wpAnyH_take (i := 1) (v := ?_) rfl (by kernel_rfl) (by kernel_rfl) (by kernel_rfl) (fun _ _ _ h => h) (Or.inl ⟨by rfl, ?_⟩) hS ?_
      rotate_left
      · intro wz hz; go_simp; try with_reducible rfl
      try simp only [Act.put, List.setIfInBounds_toArray, List.set_cons_zero, List.set_cons_succ, List.getElem_toArray, List.getElem_cons_succ, List.getElem_cons_zero]
      refine wpAnyH_take (i := 2) (v := ?_) rfl (by kernel_rfl) (by kernel_rfl) (by kernel_rfl) (fun _ _ _ h => h) (Or.inl ⟨by rfl, ?_⟩) hS ?_
      rotate_left
      · intro wz hz; go_simp; try with_reducible rfl
      try simp only [Act.put, List.setIfInBounds_toArray, List.set_cons_zero, List.set_cons_succ, List.getElem_toArray, List.getElem_cons_succ, List.getElem_cons_zero]
      refine wpAnyH_take (i := 3) (v := ?_) rfl (by kernel_rfl) (by kernel_rfl) (by kernel_rfl) (fun _ _ _ h => h) (Or.inl ⟨by rfl, ?_⟩) hS ?_
      rotate_left
      · intro wz hz; have z0 := hz.1.b.cell 2; simp only [List.getElem?_cons_succ, List.getElem?_cons_zero] at z0; go_simp; try with_reducible rfl
      try simp only [Act.put, List.setIfInBounds_toArray, List.set_cons_zero, List.set_cons_succ, List.getElem_toArray, List.getElem_cons_succ, List.getElem_cons_zero]
      refine wpAnyH_take (i := 4) (v := ?_) rfl (by kernel_rfl) (by kernel_rfl) (by kernel_rfl) (fun _ _ _ h => h) (Or.inl ⟨by rfl, ?_⟩) hS ?_
      rotate_left
      · intro wz hz; go_simp; try with_reducible rfl
      try simp only [Act.put, List.setIfInBounds_toArray, List.set_cons_zero, List.set_cons_succ, List.getElem_toArray, List.getElem_cons_succ, List.getElem_cons_zero]
      refine wpAnyH_take (i := 5) (v := ?_) rfl (by kernel_rfl) (by kernel_rfl) (by kernel_rfl) (fun _ _ _ h => h) (Or.inl ⟨by rfl, ?_⟩) hS ?_
      rotate_left
      · intro wz hz; have z1 := hz.2.1.cell 1; simp only [List.getElem?_cons_succ, List.getElem?_cons_zero] at z1; go_simp; try with_reducible rfl
      try simp only [Act.put, List.setIfInBounds_toArray, List.set_cons_zero, List.set_cons_succ, List.getElem_toArray, List.getElem_cons_succ, List.getElem_cons_zero]
      refine wpAnyH_take (i := 6) (v := .tuple #[.agg #[], .bool true]) rfl (by kernel_rfl) (by kernel_rfl) (by kernel_rfl) (fun _ _ _ h => h) (Or.inl ⟨by rfl, ?_⟩) hS ?_
      · intro wz hz; have z2 := hz.1.told.look n HN.out; rw [hin] at z2; simp [execOp, z2, Result.andThen, go_sem]
      try simp only [Act.put, List.setIfInBounds_toArray, List.set_cons_zero, List.set_cons_succ, List.getElem_toArray, List.getElem_cons_succ, List.getElem_cons_zero]
      refine wpAnyH_take (i := 7) (v := ?_) rfl (by kernel_rfl) (by kernel_rfl) (by kernel_rfl) (fun _ _ _ h => h) (Or.inl ⟨by rfl, ?_⟩) hS ?_
      rotate_left
      · intro wz hz; go_simp; try with_reducible rfl
      try simp only [Act.put, List.setIfInBounds_toArray, List.set_cons_zero, List.set_cons_succ, List.getElem_toArray, List.getElem_cons_succ, List.getElem_cons_zero]
      refine wpAnyH_take (i := 8) (v := ?_) rfl (by kernel_rfl) (by kernel_rfl) (by kernel_rfl) (fun _ _ _ h => h) (Or.inl ⟨by rfl, ?_⟩) hS ?_
      rotate_left
      · intro wz hz; go_simp; try with_reducible rfl
      try simp only [Act.put, List.setIfInBounds_toArray, List.set_cons_zero, List.set_cons_succ, List.getElem_toArray, List.getElem_cons_succ, List.getElem_cons_zero]
      refine wpAnyH_take (i := 9) (v := ?_) rfl (by kernel_rfl) (by kernel_rfl) (by kernel_rfl) (fun _ _ _ h => h) (Or.inl ⟨by rfl, ?_⟩) hS ?_
      rotate_left
      · intro wz hz; go_simp; try with_reducible rfl
      try simp only [Act.put, List.setIfInBounds_toArray, List.set_cons_zero, List.set_cons_succ, List.getElem_toArray, List.getElem_cons_succ, List.getElem_cons_zero]
      refine wpAnyH_ready (rs := [10]) (by kernel_rfl) (by simp) (AllReadyH.cons rfl (fun K hK => ?_) AllReadyH.nil)
      go_simp
      refine hK.out _ _ ⟨hS.1.stays (bl_alloc (Below.refl _ _) _), hS.2.1.stays (bl_alloc (Below.refl _ _) _), bl_alloc hS.2.2 _⟩ (fun hS3 => ?_)
      clear hK K hS
      have hS := hS3
      clear hS3
      try simp only [Act.put, List.setIfInBounds_toArray, List.set_cons_zero, List.set_cons_succ, List.getElem_toArray, List.getElem_cons_succ, List.getElem_cons_zero]
      refine wpAnyH_ready (rs := [11]) (by kernel_rfl) (by simp) (AllReadyH.cons rfl (fun K hK => ?_) AllReadyH.nil)
      go_simp
      refine hK.out _ _ hS (fun _ => ?_)
      clear hK K
      try simp only [Act.put, List.setIfInBounds_toArray, List.set_cons_zero, List.set_cons_succ, List.getElem_toArray, List.getElem_cons_succ, List.getElem_cons_zero]
      refine wpAnyH_take (i := 12) (v := ?_) rfl (by kernel_rfl) (by kernel_rfl) (by kernel_rfl) (fun _ _ _ h => h) (Or.inl ⟨by rfl, ?_⟩) hS ?_
      rotate_left
      · intro wz hz; go_simp; try with_reducible rfl
      try simp only [Act.put, List.setIfInBounds_toArray, List.set_cons_zero, List.set_cons_succ, List.getElem_toArray, List.getElem_cons_succ, List.getElem_cons_zero]
      refine wpAnyH_done (by kernel_rfl) ?_ _
      have G3 : Hid (Gth M C kind lv s _) := hS.1
      have X3 : Hid (Arr _ w.heap.size 47 [.int .i64 k, .int .i64 n, u]) := hS.2.1
      have B3 : Hid (Below w.heap.size w _) := bl_tr B1.out hS.2.2
      clear hS G1 X1 B1
      go_wp2
      go_ret2
      exact ⟨rfl, lv, by rw [HI.out]; exact G3.out, Ev.of_below B3.out⟩
    · have hin : decide (n ∈ s) = false := decide_eq_false hi
      have HI : Hid (Tp.ins s n = s ++ [n]) := by show _ = _; unfold Tp.ins; rw [if_neg hi]
      clear hi
      refine wp_region_held_drew (S := fun wz => Gth M C kind lv s wz ∧ Arr wz w.heap.size 47 [.int .i64 k, .int .i64 n, u] ∧ Below W1.heap.size W1 wz) (by kernel_rfl) ⟨G1.out.stays (Below.refl _ _).drew, X1.out.stays (Below.refl _ _).drew, (Below.refl _ _).drew⟩ (fun hS => ?_)
      generalize W1.drew = W2 at hS ⊢
      refine wpAnyH_take (i := 0) (v := ?_) rfl (by kernel_rfl) (by kernel_rfl) (by kernel_rfl) (fun _ _ _ h => h) (Or.inl ⟨by rfl, ?_⟩) hS ?_
      rotate_left
      · intro wz hz; go_simp; try with_reducible rfl
      try simp only [Act.put, List.setIfInBounds_toArray, List.set_cons_zero, List.set_cons_succ, List.getElem_toArray, List.getElem_cons_succ, List.getElem_cons_zero]
      refine wpAnyH_take (i := 1) (v := ?_) rfl (by kernel_rfl) (by kernel_rfl) (by kernel_rfl) (fun _ _ _ h => h) (Or.inl ⟨by rfl, ?_⟩) hS ?_
      rotate_left
      · intro wz hz; go_simp; try with_reducible rfl
      try simp only [Act.put, List.setIfInBounds_toArray, List.set_cons_zero, List.set_cons_succ, List.getElem_toArray, List.getElem_cons_succ, List.getElem_cons_zero]
      refine wpAnyH_take (i := 2) (v := ?_) rfl (by kernel_rfl) (by kernel_rfl) (by kernel_rfl) (fun _ _ _ h => h) (Or.inl ⟨by rfl, ?_⟩) hS ?_
      rotate_left
      · intro wz hz; go_simp; try with_reducible rfl
      try simp only [Act.put, List.setIfInBounds_toArray, List.set_cons_zero, List.set_cons_succ, List.getElem_toArray, List.getElem_cons_succ, List.getElem_cons_zero]
      refine wpAnyH_take (i := 3) (v := ?_) rfl (by kernel_rfl) (by kernel_rfl) (by kernel_rfl) (fun _ _ _ h => h) (Or.inl ⟨by rfl, ?_⟩) hS ?_
      rotate_left
      · intro wz hz; have z0 := hz.1.b.cell 2; simp only [List.getElem?_cons_succ, List.getElem?_cons_zero] at z0; go_simp; try with_reducible rfl
      try simp only [Act.put, List.setIfInBounds_toArray, List.set_cons_zero, List.set_cons_succ, List.getElem_toArray, List.getElem_cons_succ, List.getElem_cons_zero]
      refine wpAnyH_take (i := 4) (v := ?_) rfl (by kernel_rfl) (by kernel_rfl) (by kernel_rfl) (fun _ _ _ h => h) (Or.inl ⟨by rfl, ?_⟩) hS ?_
      rotate_left
      · intro wz hz; go_simp; try with_reducible rfl
      try simp only [Act.put, List.setIfInBounds_toArray, List.set_cons_zero, List.set_cons_succ, List.getElem_toArray, List.getElem_cons_succ, List.getElem_cons_zero]
      refine wpAnyH_take (i := 5) (v := ?_) rfl (by kernel_rfl) (by kernel_rfl) (by kernel_rfl) (fun _ _ _ h => h) (Or.inl ⟨by rfl, ?_⟩) hS ?_
      rotate_left
      · intro wz hz; have z1 := hz.2.1.cell 1; simp only [List.getElem?_cons_succ, List.getElem?_cons_zero] at z1; go_simp; try with_reducible rfl
      try simp only [Act.put, List.setIfInBounds_toArray, List.set_cons_zero, List.set_cons_succ, List.getElem_toArray, List.getElem_cons_succ, List.getElem_cons_zero]
      refine wpAnyH_take (i := 6) (v := .tuple #[.agg #[], .bool false]) rfl (by kernel_rfl) (by kernel_rfl) (by kernel_rfl) (fun _ _ _ h => h) (Or.inl ⟨by rfl, ?_⟩) hS ?_
      · intro wz hz; have z2 := hz.1.told.look n HN.out; rw [hin] at z2; simp [execOp, z2, Result.andThen, go_sem]
      try simp only [Act.put, List.setIfInBounds_toArray, List.set_cons_zero, List.set_cons_succ, List.getElem_toArray, List.getElem_cons_succ, List.getElem_cons_zero]
      refine wpAnyH_take (i := 7) (v := ?_) rfl (by kernel_rfl) (by kernel_rfl) (by kernel_rfl) (fun _ _ _ h => h) (Or.inl ⟨by rfl, ?_⟩) hS ?_
      rotate_left
      · intro wz hz; go_simp; try with_reducible rfl
      try simp only [Act.put, List.setIfInBounds_toArray, List.set_cons_zero, List.set_cons_succ, List.getElem_toArray, List.getElem_cons_succ, List.getElem_cons_zero]
      refine wpAnyH_take (i := 8) (v := ?_) rfl (by kernel_rfl) (by kernel_rfl) (by kernel_rfl) (fun _ _ _ h => h) (Or.inl ⟨by rfl, ?_⟩) hS ?_
      rotate_left
      · intro wz hz; go_simp; try with_reducible rfl
      try simp only [Act.put, List.setIfInBounds_toArray, List.set_cons_zero, List.set_cons_succ, List.getElem_toArray, List.getElem_cons_succ, List.getElem_cons_zero]
      refine wpAnyH_take (i := 9) (v := ?_) rfl (by kernel_rfl) (by kernel_rfl) (by kernel_rfl) (fun _ _ _ h => h) (Or.inl ⟨by rfl, ?_⟩) hS ?_
      rotate_left
      · intro wz hz; go_simp; try with_reducible rfl
      try simp only [Act.put, List.setIfInBounds_toArray, List.set_cons_zero, List.set_cons_succ, List.getElem_toArray, List.getElem_cons_succ, List.getElem_cons_zero]
      refine wpAnyH_ready (rs := [10]) (by kernel_rfl) (by simp) (AllReadyH.cons rfl (fun K hK => ?_) AllReadyH.nil)
      go_simp
      refine hK.out _ _ ⟨hS.1.stays (bl_alloc (Below.refl _ _) _), hS.2.1.stays (bl_alloc (Below.refl _ _) _), bl_alloc hS.2.2 _⟩ (fun hS3 => ?_)
      clear hK K hS
      have hS := hS3
      clear hS3
      try simp only [Act.put, List.setIfInBounds_toArray, List.set_cons_zero, List.set_cons_succ, List.getElem_toArray, List.getElem_cons_succ, List.getElem_cons_zero]
      refine wpAnyH_ready (rs := [11]) (by kernel_rfl) (by simp) (AllReadyH.cons rfl (fun K hK => ?_) AllReadyH.nil)
      go_simp
      refine hK.out _ _ hS (fun _ => ?_)
      clear hK K
      try simp only [Act.put, List.setIfInBounds_toArray, List.set_cons_zero, List.set_cons_succ, List.getElem_toArray, List.getElem_cons_succ, List.getElem_cons_zero]
      refine wpAnyH_take (i := 12) (v := ?_) rfl (by kernel_rfl) (by kernel_rfl) (by kernel_rfl) (fun _ _ _ h => h) (Or.inl ⟨by rfl, ?_⟩) hS ?_
      rotate_left
      · intro wz hz; go_simp; try with_reducible rfl
      try simp only [Act.put, List.setIfInBounds_toArray, List.set_cons_zero, List.set_cons_succ, List.getElem_toArray, List.getElem_cons_succ, List.getElem_cons_zero]
      refine wpAnyH_done (by kernel_rfl) ?_ _
      have G3 : Hid (Gth M C kind lv s _) := hS.1
      have X3 : Hid (Arr _ w.heap.size 47 [.int .i64 k, .int .i64 n, u]) := hS.2.1
      have B3 : Hid (Below w.heap.size w _) := bl_tr B1.out hS.2.2
      clear hS G1 X1 B1
      go_wp2
      generalize W2.alloc _ = W3 at G3 X3 B3 ⊢
      refine wp_region_held_drew (S := fun wz => Arr wz M 334 [.int .i64 kind, lv, .map (some C)] ∧ Arr wz w.heap.size 47 [.int .i64 k, .int .i64 n, u]) (by kernel_rfl) ⟨(G3.out.stays (Below.refl _ _).drew).b, X3.out.stays (Below.refl _ _).drew⟩ (fun hS => ?_)
      refine wpAnyH_take (i := 0) (v := ?_) rfl (by kernel_rfl) (by kernel_rfl) (by kernel_rfl) (fun _ _ _ h => h) (Or.inl ⟨by rfl, ?_⟩) hS ?_
      rotate_left
      · intro wz hz; go_simp; try with_reducible rfl
      try simp only [Act.put, List.setIfInBounds_toArray, List.set_cons_zero, List.set_cons_succ, List.getElem_toArray, List.getElem_cons_succ, List.getElem_cons_zero]
      refine wpAnyH_take (i := 1) (v := ?_) rfl (by kernel_rfl) (by kernel_rfl) (by kernel_rfl) (fun _ _ _ h => h) (Or.inl ⟨by rfl, ?_⟩) hS ?_
      rotate_left
      · intro wz hz; go_simp; try with_reducible rfl
      try simp only [Act.put, List.setIfInBounds_toArray, List.set_cons_zero, List.set_cons_succ, List.getElem_toArray, List.getElem_cons_succ, List.getElem_cons_zero]
      refine wpAnyH_take (i := 2) (v := ?_) rfl (by kernel_rfl) (by kernel_rfl) (by kernel_rfl) (fun _ _ _ h => h) (Or.inl ⟨by rfl, ?_⟩) hS ?_
      rotate_left
      · intro wz hz; go_simp; try with_reducible rfl
      try simp only [Act.put, List.setIfInBounds_toArray, List.set_cons_zero, List.set_cons_succ, List.getElem_toArray, List.getElem_cons_succ, List.getElem_cons_zero]
      refine wpAnyH_take (i := 3) (v := ?_) rfl (by kernel_rfl) (by kernel_rfl) (by kernel_rfl) (fun _ _ _ h => h) (Or.inl ⟨by rfl, ?_⟩) hS ?_
      rotate_left
      · intro wz hz; have z0 := hz.1.cell 2; simp only [List.getElem?_cons_succ, List.getElem?_cons_zero] at z0; go_simp; try with_reducible rfl
      try simp only [Act.put, List.setIfInBounds_toArray, List.set_cons_zero, List.set_cons_succ, List.getElem_toArray, List.getElem_cons_succ, List.getElem_cons_zero]
      refine wpAnyH_take (i := 4) (v := ?_) rfl (by kernel_rfl) (by kernel_rfl) (by kernel_rfl) (fun _ _ _ h => h) (Or.inl ⟨by rfl, ?_⟩) hS ?_
      rotate_left
      · intro wz hz; go_simp; try with_reducible rfl
      try simp only [Act.put, List.setIfInBounds_toArray, List.set_cons_zero, List.set_cons_succ, List.getElem_toArray, List.getElem_cons_succ, List.getElem_cons_zero]
      refine wpAnyH_take (i := 5) (v := ?_) rfl (by kernel_rfl) (by kernel_rfl) (by kernel_rfl) (fun _ _ _ h => h) (Or.inl ⟨by rfl, ?_⟩) hS ?_
      rotate_left
      · intro wz hz; have z1 := hz.2.cell 1; simp only [List.getElem?_cons_succ, List.getElem?_cons_zero] at z1; go_simp; try with_reducible rfl
      try simp only [Act.put, List.setIfInBounds_toArray, List.set_cons_zero, List.set_cons_succ, List.getElem_toArray, List.getElem_cons_succ, List.getElem_cons_zero]
      refine wpAnyH_take (i := 6) (v := ?_) rfl (by kernel_rfl) (by kernel_rfl) (by kernel_rfl) (fun _ _ _ h => h) (Or.inl ⟨by rfl, ?_⟩) hS ?_
      rotate_left
      · intro wz hz; go_simp; try with_reducible rfl
      try simp only [Act.put, List.setIfInBounds_toArray, List.set_cons_zero, List.set_cons_succ, List.getElem_toArray, List.getElem_cons_succ, List.getElem_cons_zero]
      obtain ⟨w4, hr4, ht4, hg4⟩ := (G3.out.stays (Below.refl _ _).drew).told.put n HN.out (by unfold maxLen; omega)
      refine wpAnyH_ready (rs := [7]) (by kernel_rfl) (by simp) (AllReadyH.cons rfl (fun K hK => ?_) AllReadyH.nil)
      refine step_mapUpdate rfl (.tmp 30) (.tmp 32) (.tmp 33) 332 rfl (.map (some C)) (.int .i64 n) (.agg #[]) rfl rfl rfl hr4 ?_
      have M4 : Hid (Mid M C kind lv s n w4) := (G3.out.stays (Below.refl _ _).drew).mid ht4 hg4
      have X4 : Hid (Arr w4 w.heap.size 47 [.int .i64 k, .int .i64 n, u]) := (X3.out.stays (Below.refl _ _).drew).grown hg4 (fun e => by have := G3.out.lt; injection e with e; omega)
      have E4 : Hid (Ev (Og M C lv) w (Og M C lv) w4) := (Ev.of_below (B3.out.drew)).trans (Ev.grown hg4 (fun b e => by injection e with e; exact .inr (.inl e.symm)))
      refine hK.out _ _ ⟨M4.out.b, X4.out⟩ (fun _ => ?_)
      clear hK K hS hr4 ht4 hg4 G3 X3 B3
      try simp only [Act.put, List.setIfInBounds_toArray, List.set_cons_zero, List.set_cons_succ, List.getElem_toArray, List.getElem_cons_succ, List.getElem_cons_zero]
      refine wpAnyH_done (by kernel_rfl) ?_ _
      go_wp2
      refine wp_region_held_drew (S := fun wz => Arr wz w.heap.size 47 [.int .i64 k, .int .i64 n, u]) (by kernel_rfl) (X4.out.stays (Below.refl _ _).drew) (fun hS => ?_)
      have M5 : Hid (Mid M C kind lv s n w4.drew) := M4.out.stays (Below.refl _ _).drew
      have E5 : Hid (Ev (Og M C lv) w (Og M C lv) w4.drew) := E4.out.drew
      generalize w4.drew = W5 at M5 E5 hS ⊢
      clear M4 X4 E4
      refine wpAnyH_take (i := 0) (v := ?_) rfl (by kernel_rfl) (by kernel_rfl) (by kernel_rfl) (fun _ _ _ h => h) (Or.inl ⟨by rfl, ?_⟩) hS ?_
      rotate_left
      · intro wz hz; go_simp; try with_reducible rfl
      try simp only [Act.put, List.setIfInBounds_toArray, List.set_cons_zero, List.set_cons_succ, List.getElem_toArray, List.getElem_cons_succ, List.getElem_cons_zero]
      refine wpAnyH_take (i := 1) (v := ?_) rfl (by kernel_rfl) (by kernel_rfl) (by kernel_rfl) (fun _ _ _ h => h) (Or.inl ⟨by rfl, ?_⟩) hS ?_
      rotate_left
      · intro wz hz; go_simp; try with_reducible rfl
      try simp only [Act.put, List.setIfInBounds_toArray, List.set_cons_zero, List.set_cons_succ, List.getElem_toArray, List.getElem_cons_succ, List.getElem_cons_zero]
      refine wpAnyH_take (i := 2) (v := ?_) rfl (by kernel_rfl) (by kernel_rfl) (by kernel_rfl) (fun _ _ _ h => h) (Or.inl ⟨by rfl, ?_⟩) hS ?_
      rotate_left
      · intro wz hz; go_simp; try with_reducible rfl
      try simp only [Act.put, List.setIfInBounds_toArray, List.set_cons_zero, List.set_cons_succ, List.getElem_toArray, List.getElem_cons_succ, List.getElem_cons_zero]
      refine wpAnyH_take (i := 3) (v := ?_) rfl (by kernel_rfl) (by kernel_rfl) (by kernel_rfl) (fun _ _ _ h => h) (Or.inl ⟨by rfl, ?_⟩) hS ?_
      rotate_left
      · intro wz hz; go_simp; try with_reducible rfl
      try simp only [Act.put, List.setIfInBounds_toArray, List.set_cons_zero, List.set_cons_succ, List.getElem_toArray, List.getElem_cons_succ, List.getElem_cons_zero]
      refine wpAnyH_take (i := 5) (v := ?_) rfl (by kernel_rfl) (by kernel_rfl) (by kernel_rfl) (fun _ _ _ h => h) (Or.inl ⟨by rfl, ?_⟩) hS ?_
      rotate_left
      · intro wz hz; go_simp; try with_reducible rfl
      try simp only [Act.put, List.setIfInBounds_toArray, List.set_cons_zero, List.set_cons_succ, List.getElem_toArray, List.getElem_cons_succ, List.getElem_cons_zero]
      refine wpAnyH_take (i := 6) (v := ?_) rfl (by kernel_rfl) (by kernel_rfl) (by kernel_rfl) (fun _ _ _ h => h) (Or.inl ⟨by rfl, ?_⟩) hS ?_
      rotate_left
      · intro wz hz; have z1 := hz.cell 1; simp only [List.getElem?_cons_succ, List.getElem?_cons_zero] at z1; go_simp; try with_reducible rfl
      try simp only [Act.put, List.setIfInBounds_toArray, List.set_cons_zero, List.set_cons_succ, List.getElem_toArray, List.getElem_cons_succ, List.getElem_cons_zero]
      refine wpAnyH_ready (rs := [4, 7]) (by kernel_rfl) (by simp) (AllReadyH.cons rfl (fun K hK => ?_) (AllReadyH.cons rfl (fun K hK => ?_) AllReadyH.nil))
      · skip
        have l0 := M5.out.b.cell 1
        simp only [List.getElem?_cons_succ, List.getElem?_cons_zero] at l0
        go_simp
        refine hK.out _ _ hS (fun _ => ?_)
        clear hK K l0
        try simp only [Act.put, List.setIfInBounds_toArray, List.set_cons_zero, List.set_cons_succ, List.getElem_toArray, List.getElem_cons_succ, List.getElem_cons_zero]
        refine wpAnyH_ready (rs := [7]) (by kernel_rfl) (by simp) (AllReadyH.cons rfl (fun K hK => ?_) AllReadyH.nil)
        · skip
          go_simp
          have hb7 : Below W5.heap.size W5 (W5.alloc (.cells #[.int .i64 n] 3)) := bl_alloc (Below.refl _ _) _
          have hY : Hid (∀ (j : Nat) u, ([.int .i64 n] : List Value)[j]? = some u → (W5.alloc (.cells #[.int .i64 n] 3)).cell? (Addr.add ⟨W5.heap.size, 0, none⟩ j) = some u) := fun j u hu => by rw [addr_add, Nat.zero_add, cell_at (heap_alloc_at _ _)]; simpa using hu
          have M6 : Hid (Mid M C kind lv s n _) := M5.out.stays hb7
          have E6 : Hid (Ev (Og M C lv) w (Og M C lv) _) := E5.out.trans (Ev.of_below hb7)
          have hS6 := hS.stays hb7
          clear M5 E5 hS hb7
          have M5 := M6
          have E5 := E6
          clear M6 E6
          refine hK.out _ _ hS6 (fun hS => ?_)
          clear hK K hS6
          try simp only [Act.put, List.setIfInBounds_toArray, List.set_cons_zero, List.set_cons_succ, List.getElem_toArray, List.getElem_cons_succ, List.getElem_cons_zero]
          refine wpAnyH_ready (rs := [8]) (by kernel_rfl) (by simp) (AllReadyH.cons rfl (fun K hK => ?_) AllReadyH.nil)
          refine step_append2 rfl (.tmp 38) (.tmp 41) 113 rfl (M + 1) 3 j0 (.int .i64 0) 1 8 Tryz.underlying113 hj0 hy0 hy1 hy2 rfl (by decide) _ s.length (s.map (.int .i64)) rfl M5.out.own ⟨W5.heap.size, 0, none⟩ 1 1 [.int .i64 n] rfl rfl hY.out (by simp [Value.oneCell']) (by unfold maxLen; omega) (by omega) M5.out.b.lt ?_
          intro v' w9 hown' hgrow hfresh
          obtain ⟨va, vc, rfl⟩ := own_form hown'
          have X9 := hS.grown hgrow (fun e => HLV.out e.symm)
          obtain ⟨⟨hA, hG⟩, hE⟩ := M5.out.app hown' hgrow hfresh
          have HG : Hid (Gth _ _ _ _ _ _) := hG
          have HE : Hid (Ev _ w _ _) := E5.out.trans hE
          clear hown' hgrow hfresh M5 E5 hY hG hE
          refine hK.out _ _ X9 (fun hS => ?_)
          clear hK K
          try simp only [Act.put, List.setIfInBounds_toArray, List.set_cons_zero, List.set_cons_succ, List.getElem_toArray, List.getElem_cons_succ, List.getElem_cons_zero]
          refine wpAnyH_take (i := 9) (v := ?_) rfl (by kernel_rfl) (by kernel_rfl) (by kernel_rfl) (fun _ _ _ h => h) (Or.inl ⟨by rfl, ?_⟩) hS ?_
          rotate_left
          · intro wz hz; go_simp; try with_reducible rfl
          try simp only [Act.put, List.setIfInBounds_toArray, List.set_cons_zero, List.set_cons_succ, List.getElem_toArray, List.getElem_cons_succ, List.getElem_cons_zero]
          refine wpAnyH_take (i := 10) (v := ?_) rfl (by kernel_rfl) (by kernel_rfl) (by kernel_rfl) (fun _ _ _ h => h) (Or.inl ⟨by rfl, ?_⟩) hS ?_
          rotate_left
          · intro wz hz; go_simp; try with_reducible rfl
          try simp only [Act.put, List.setIfInBounds_toArray, List.set_cons_zero, List.set_cons_succ, List.getElem_toArray, List.getElem_cons_succ, List.getElem_cons_zero]
          refine wpAnyH_ready (rs := [11]) (by kernel_rfl) (by simp) (AllReadyH.cons rfl (fun K hK => ?_) AllReadyH.nil)
          have m0 := hA.cell 1
          have m1 := hA.frozen 1
          simp only [List.getElem?_cons_succ, List.getElem?_cons_zero] at m0
          go_simp
          refine hK.out _ _ (hS.other (by show w.heap.size ≠ M; omega) _) (fun _ => ?_)
          clear hK K hA m0 m1 hS
          try simp only [Act.put, List.setIfInBounds_toArray, List.set_cons_zero, List.set_cons_succ, List.getElem_toArray, List.getElem_cons_succ, List.getElem_cons_zero]
          refine wpAnyH_done (by kernel_rfl) ?_ _
          go_wp2
          go_ret2
          exact ⟨rfl, _, by rw [HI.out]; exact HG.out, HE.out⟩
      · skip
        go_simp
        have hb7 : Below W5.heap.size W5 (W5.alloc (.cells #[.int .i64 n] 3)) := bl_alloc (Below.refl _ _) _
        have hY : Hid (∀ (j : Nat) u, ([.int .i64 n] : List Value)[j]? = some u → (W5.alloc (.cells #[.int .i64 n] 3)).cell? (Addr.add ⟨W5.heap.size, 0, none⟩ j) = some u) := fun j u hu => by rw [addr_add, Nat.zero_add, cell_at (heap_alloc_at _ _)]; simpa using hu
        have M6 : Hid (Mid M C kind lv s n _) := M5.out.stays hb7
        have E6 : Hid (Ev (Og M C lv) w (Og M C lv) _) := E5.out.trans (Ev.of_below hb7)
        have hS6 := hS.stays hb7
        clear M5 E5 hS hb7
        have M5 := M6
        have E5 := E6
        clear M6 E6
        refine hK.out _ _ hS6 (fun hS => ?_)
        clear hK K hS6
        try simp only [Act.put, List.setIfInBounds_toArray, List.set_cons_zero, List.set_cons_succ, List.getElem_toArray, List.getElem_cons_succ, List.getElem_cons_zero]
        refine wpAnyH_ready (rs := [4]) (by kernel_rfl) (by simp) (AllReadyH.cons rfl (fun K hK => ?_) AllReadyH.nil)
        · skip
          have l0 := M5.out.b.cell 1
          simp only [List.getElem?_cons_succ, List.getElem?_cons_zero] at l0
          go_simp
          refine hK.out _ _ hS (fun _ => ?_)
          clear hK K l0
          try simp only [Act.put, List.setIfInBounds_toArray, List.set_cons_zero, List.set_cons_succ, List.getElem_toArray, List.getElem_cons_succ, List.getElem_cons_zero]
          refine wpAnyH_ready (rs := [8]) (by kernel_rfl) (by simp) (AllReadyH.cons rfl (fun K hK => ?_) AllReadyH.nil)
          refine step_append2 rfl (.tmp 38) (.tmp 41) 113 rfl (M + 1) 3 j0 (.int .i64 0) 1 8 Tryz.underlying113 hj0 hy0 hy1 hy2 rfl (by decide) _ s.length (s.map (.int .i64)) rfl M5.out.own ⟨W5.heap.size, 0, none⟩ 1 1 [.int .i64 n] rfl rfl hY.out (by simp [Value.oneCell']) (by unfold maxLen; omega) (by omega) M5.out.b.lt ?_
          intro v' w9 hown' hgrow hfresh
          obtain ⟨va, vc, rfl⟩ := own_form hown'
          have X9 := hS.grown hgrow (fun e => HLV.out e.symm)
          obtain ⟨⟨hA, hG⟩, hE⟩ := M5.out.app hown' hgrow hfresh
          have HG : Hid (Gth _ _ _ _ _ _) := hG
          have HE : Hid (Ev _ w _ _) := E5.out.trans hE
          clear hown' hgrow hfresh M5 E5 hY hG hE
          refine hK.out _ _ X9 (fun hS => ?_)
          clear hK K
          try simp only [Act.put, List.setIfInBounds_toArray, List.set_cons_zero, List.set_cons_succ, List.getElem_toArray, List.getElem_cons_succ, List.getElem_cons_zero]
          refine wpAnyH_take (i := 9) (v := ?_) rfl (by kernel_rfl) (by kernel_rfl) (by kernel_rfl) (fun _ _ _ h => h) (Or.inl ⟨by rfl, ?_⟩) hS ?_
          rotate_left
          · intro wz hz; go_simp; try with_reducible rfl
          try simp only [Act.put, List.setIfInBounds_toArray, List.set_cons_zero, List.set_cons_succ, List.getElem_toArray, List.getElem_cons_succ, List.getElem_cons_zero]
          refine wpAnyH_take (i := 10) (v := ?_) rfl (by kernel_rfl) (by kernel_rfl) (by kernel_rfl) (fun _ _ _ h => h) (Or.inl ⟨by rfl, ?_⟩) hS ?_
          rotate_left
          · intro wz hz; go_simp; try with_reducible rfl
          try simp only [Act.put, List.setIfInBounds_toArray, List.set_cons_zero, List.set_cons_succ, List.getElem_toArray, List.getElem_cons_succ, List.getElem_cons_zero]
          refine wpAnyH_ready (rs := [11]) (by kernel_rfl) (by simp) (AllReadyH.cons rfl (fun K hK => ?_) AllReadyH.nil)
          have m0 := hA.cell 1
          have m1 := hA.frozen 1
          simp only [List.getElem?_cons_succ, List.getElem?_cons_zero] at m0
          go_simp
          refine hK.out _ _ (hS.other (by show w.heap.size ≠ M; omega) _) (fun _ => ?_)
          clear hK K hA m0 m1 hS
          try simp only [Act.put, List.setIfInBounds_toArray, List.set_cons_zero, List.set_cons_succ, List.getElem_toArray, List.getElem_cons_succ, List.getElem_cons_zero]
          refine wpAnyH_done (by kernel_rfl) ?_ _
          go_wp2
          go_ret2
          exact ⟨rfl, _, by rw [HI.out]; exact HG.out, HE.out⟩
  · have hk1 : (k != kind) = true := by simpa using hk
    rw [if_neg hk]
    clear hk X0
    go_enter Tryz.func173, Tryz.ntmps173
    go_wp2
    go_quiet (fail)
    go_wp2
    go_ret2
    exact ⟨rfl, lv, G0.out.stays (bl_dN (bl_alloc (Below.refl _ _) _) _), Ev.of_below (bl_dN (bl_alloc (Below.refl _ _) _) _)⟩
end Go.Proofs.YtjodgnkhociaaaaGreat
