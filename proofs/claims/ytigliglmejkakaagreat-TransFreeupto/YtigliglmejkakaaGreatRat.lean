/- A walker's own: here, into, back; what binds. -/
import Derived.Test.YtigliglmejkakaaGreatRas
namespace Go.Proofs.YtigliglmejkakaaGreat.Tgt
open Go.RowKit
set_option linter.unusedVariables false
set_option linter.unusedSimpArgs false

/-- A walker from cell q of block M on: what is bound, no names. -/
structure Wk (w : World) (M : Nat) (T : TypeId) (vs : List Value) (q B : Nat) (mv lv : Value) (e : List (Int × Int)) (n : Nat) : Prop where
  arr : Arr w M T vs
  m : vs[q + 2]? = some mv
  l : vs[q + 2 + 1]? = some lv
  nm : vs[q + 4]? = some (.map none)
  nl : vs[q + 4 + 1]? = some (.slice none 0 0)
  scp : Scp w B mv lv e n
  lt : M < B
  le : B ≤ w.heap.size
theorem Wk.stays {w w' : World} {M : Nat} {T : TypeId} {vs : List Value} {q B : Nat} {mv lv : Value} {e : List (Int × Int)} {n : Nat} (h : Wk w M T vs q B mv lv e n) (hb : Below w.heap.size w w') : Wk w' M T vs q B mv lv e n := ⟨h.arr.stays hb, h.m, h.l, h.nm, h.nl, h.scp.stays hb, h.lt, Nat.le_trans h.le hb.size⟩
theorem Wk.other {w : World} {M : Nat} {T : TypeId} {vs : List Value} {q B : Nat} {mv lv : Value} {e : List (Int × Int)} {n : Nat} (h : Wk w M T vs q B mv lv e n) {p : Addr} (hp : ¬ Om M mv lv p.block) (v : Value) : Wk (w.setCell p v) M T vs q B mv lv e n :=
  ⟨h.arr.other (fun e => hp (.inl e.symm)) v, h.m, h.l, h.nm, h.nl, h.scp.blocks (fun b hb => Below.heap_setCell _ _ _ _ (fun e => hp (e ▸ .inr hb))), h.lt, by simp only [World.setCell, Array.size_modify]; exact h.le⟩
theorem Ev.new {own o1 : Nat → Prop} {w w1 : World} (h : Ev own w o1 w1) {p : Addr} (hp : w.heap.size ≤ p.block) (v : Value) : Ev own w o1 (w1.setCell p v) :=
  ⟨h.os, h.tape, h.output, by simp only [World.setCell, Array.size_modify]; exact h.size, h.mine, fun b hb hn => (Below.heap_setCell _ _ _ _ (fun e => by rw [e] at hb; omega)).trans (h.block b hb hn)⟩
theorem set_two {vs : List Value} {q : Nat} {mv lv mv' lv' : Value} (hm : vs[q + 2]? = some mv) (hl : vs[q + 2 + 1]? = some lv) : ((vs.set (q + 2) mv').set (q + 2 + 1) lv')[q + 2]? = some mv' ∧ ((vs.set (q + 2) mv').set (q + 2 + 1) lv')[q + 2 + 1]? = some lv' ∧ ∀ j, j ≠ q + 2 → j ≠ q + 2 + 1 → ((vs.set (q + 2) mv').set (q + 2 + 1) lv')[j]? = vs[j]? := by
  have h1 := (List.getElem?_eq_some_iff.1 hm).1
  have h2 := (List.getElem?_eq_some_iff.1 hl).1
  refine ⟨?_, ?_, fun j hj1 hj2 => ?_⟩
  · rw [List.getElem?_set_ne (by omega), List.getElem?_set_self h1]
  · rw [List.getElem?_set_self (by rw [List.length_set]; exact h2)]
  · rw [List.getElem?_set_ne (by omega), List.getElem?_set_ne (by omega)]
theorem Wk.next {w w' : World} {M : Nat} {T : TypeId} {vs : List Value} {q B : Nat} {mv lv mv' lv' : Value} {e e' : List (Int × Int)} {n n' : Nat} (h : Wk w M T vs q B mv lv e n) (hA : Arr w' M T ((vs.set (q + 2) mv').set (q + 2 + 1) lv')) (hS : Scp w' B mv' lv' e' n') (hw : w.heap.size ≤ w'.heap.size) : Wk w' M T ((vs.set (q + 2) mv').set (q + 2 + 1) lv') q B mv' lv' e' n' := by
  obtain ⟨h1, h2, h3⟩ := set_two (mv' := mv') (lv' := lv') h.m h.l
  exact ⟨hA, h1, h2, (h3 _ (by omega) (by omega)).trans h.nm, (h3 _ (by omega) (by omega)).trans h.nl, hS, h.lt, Nat.le_trans h.le hw⟩

set_option maxHeartbeats 1000000 in
set_option maxRecDepth 100000 in
theorem binds_any (w : World) (K : Nat → Prop) (n b o : Nat) (t : Tt) (h : PAt w K n b o t) : Calls Tryz.prog 90 #[.pointer (some ⟨b, o, none⟩)] w fun e w' => e = .returned (.bool t.binds) ∧ w' = w := by
  obtain ⟨m, rfl⟩ := h.pos
  obtain ⟨a', c', a, c, e0, -, -, -, hk, -, -, -⟩ := h.cells
  clear h hk
  have HB : Hid (t.binds = (decide (t.k = 9) || decide (t.k = 10) || decide (t.k = 11))) := rfl
  by_cases h9 : t.k = 9
  · have g9 : (t.k == 9) = true := by simpa using h9
    have HR : Hid (t.binds = true) := by show _ = _; rw [HB.out]; simp [h9]
    clear h9 HB
    go_enter Tryz.func90, Tryz.ntmps90
    go_wp2
    go_ret
    exact ⟨ret_bool HR.out.symm, rfl⟩
  · have g9 : (t.k == 9) = false := by simpa using h9
    by_cases h10 : t.k = 10
    · have g10 : (t.k == 10) = true := by simpa using h10
      have HR : Hid (t.binds = true) := by show _ = _; rw [HB.out]; simp [h10]
      clear h9 h10 HB
      go_enter Tryz.func90, Tryz.ntmps90
      go_wp2
      go_ret
      exact ⟨ret_bool HR.out.symm, rfl⟩
    · have g10 : (t.k == 10) = false := by simpa using h10
      have HR : Hid (t.binds = (t.k == 11)) := by show _ = _; rw [HB.out]; simp [h9, h10]; rfl
      clear h9 h10 HB
      go_enter Tryz.func90, Tryz.ntmps90
      go_wp2
      go_ret
      exact ⟨ret_bool HR.out.symm, rfl⟩

set_option maxHeartbeats 1000000 in
set_option maxRecDepth 100000 in
theorem here_any (w : World) (M : Nat) (T : TypeId) (vs : List Value) (q B : Nat) (mv lv : Value) (e : List (Int × Int)) (n : Nat) (h : Wk w M T vs q B mv lv e n) : Calls Tryz.prog 92 #[.pointer (some ⟨M, q, none⟩)] w fun r w' => r = .returned (.agg #[.int .i64 e.length, .int .i64 0]) ∧ Below w.heap.size w w' := by
  obtain ⟨la, lc, rfl⟩ := h.scp.form
  have D1 : Hid (∀ wz, Below w.heap.size w wz → Calls Tryz.prog 72 #[.pointer (some ⟨M, q + 2, none⟩)] wz fun r w' => r = .returned (.int .i64 e.length) ∧ w' = wz) := fun wz hz => depth_any wz M (q + 2) T vs la _ lc (h.arr.stays hz) h.l
  have D2 : Hid (∀ wz, Below w.heap.size w wz → Calls Tryz.prog 112 #[.pointer (some ⟨M, q + 4, none⟩)] wz fun r w' => r = .returned (.int .i64 (0 : Nat)) ∧ w' = wz) := fun wz hz => depthS_any wz M (q + 4) T vs none 0 0 (h.arr.stays hz) h.nl
  have R : Hid (Arr (w.alloc (.cells #[.int .i64 0, .int .i64 0] 129)) w.heap.size 129 [.int .i64 0, .int .i64 0]) := ⟨heap_alloc_at _ _⟩
  have B1 : Hid (Below w.heap.size w (w.alloc (.cells #[.int .i64 0, .int .i64 0] 129))) := bl_alloc (Below.refl _ _) _
  clear h
  go_enter Tryz.func92, Tryz.ntmps92
  go_wp2_with fail
  refine wp_region_held_drew (S := fun wz => Below w.heap.size w wz) (by kernel_rfl) (B1.out.drew) (fun hS => ?_)
  have R := hid (R.out.stays ((Below.refl _ _).drew : Below (w.alloc (.cells #[.int .i64 0, .int .i64 0] 129)).heap.size (w.alloc (.cells #[.int .i64 0, .int .i64 0] 129)) (w.alloc (.cells #[.int .i64 0, .int .i64 0] 129)).drew))
  generalize (w.alloc (.cells #[.int .i64 0, .int .i64 0] 129)).drew = wc0 at hS R  ⊢
  refine wpAnyH_take (i := 0) (v := ?_) rfl (by kernel_rfl) (by kernel_rfl) (by kernel_rfl) (fun _ _ _ h => h) (Or.inl ⟨by rfl, ?_⟩) hS ?_
  rotate_left
  · intro wz hz; go_simp; try with_reducible rfl
  try simp only [Act.put, List.setIfInBounds_toArray, List.set_cons_zero, List.set_cons_succ, List.getElem_toArray, List.getElem_cons_succ, List.getElem_cons_zero]
  refine wpAnyH_take (i := 1) (v := ?_) rfl (by kernel_rfl) (by kernel_rfl) (by kernel_rfl) (fun _ _ _ h => h) (Or.inl ⟨by rfl, ?_⟩) hS ?_
  rotate_left
  · intro wz hz; go_simp; try with_reducible rfl
  try simp only [Act.put, List.setIfInBounds_toArray, List.set_cons_zero, List.set_cons_succ, List.getElem_toArray, List.getElem_cons_succ, List.getElem_cons_zero]
  refine wpAnyH_take (i := 2) (v := ?_) rfl (by kernel_rfl) (by kernel_rfl) (by kernel_rfl) (fun _ _ _ h => h) (Or.inl ⟨by rfl, ?_⟩) hS ?_
  rotate_left
  · intro wz hz; go_simp; try with_reducible rfl
  try simp only [Act.put, List.setIfInBounds_toArray, List.set_cons_zero, List.set_cons_succ, List.getElem_toArray, List.getElem_cons_succ, List.getElem_cons_zero]
  refine wpAnyH_take (i := 4) (v := ?_) rfl (by kernel_rfl) (by kernel_rfl) (by kernel_rfl) (fun _ _ _ h => h) (Or.inl ⟨by rfl, ?_⟩) hS ?_
  rotate_left
  · intro wz hz; go_simp; try with_reducible rfl
  try simp only [Act.put, List.setIfInBounds_toArray, List.set_cons_zero, List.set_cons_succ, List.getElem_toArray, List.getElem_cons_succ, List.getElem_cons_zero]
  refine wpAnyH_take (i := 5) (v := ?_) rfl (by kernel_rfl) (by kernel_rfl) (by kernel_rfl) (fun _ _ _ h => h) (Or.inl ⟨by rfl, ?_⟩) hS ?_
  rotate_left
  · intro wz hz; go_simp; try with_reducible rfl
  try simp only [Act.put, List.setIfInBounds_toArray, List.set_cons_zero, List.set_cons_succ, List.getElem_toArray, List.getElem_cons_succ, List.getElem_cons_zero]
  refine wpAnyH_take (i := 6) (v := ?_) rfl (by kernel_rfl) (by kernel_rfl) (by kernel_rfl) (fun _ _ _ h => h) (Or.inl ⟨by rfl, ?_⟩) hS ?_
  rotate_left
  · intro wz hz; go_simp; try with_reducible rfl
  try simp only [Act.put, List.setIfInBounds_toArray, List.set_cons_zero, List.set_cons_succ, List.getElem_toArray, List.getElem_cons_succ, List.getElem_cons_zero]
  refine wpAnyH_ready (rs := [3]) (by kernel_rfl) (by simp) (AllReadyH.cons rfl (fun K hK => ?a1_3) AllReadyH.nil)
  case' a1_3 =>
    go_simp
    refine (D1.out wc0 hS).mono ?_
    rintro e wq ⟨rfl, hw⟩
    rw [hw]
    clear hw wq
    refine hK.out _ _ (hS) (fun hSn => ?_)
    clear hK K hS
    have hS := hSn
    clear hSn
    try simp only [Act.put, List.setIfInBounds_toArray, List.set_cons_zero, List.set_cons_succ, List.getElem_toArray, List.getElem_cons_succ, List.getElem_cons_zero]
    refine wpAnyH_ready (rs := [7]) (by kernel_rfl) (by simp) (AllReadyH.cons rfl (fun K hK => ?a2_7) AllReadyH.nil)
    case' a2_7 =>
      go_simp
      refine (D2.out wc0 hS).mono ?_
      rintro e wq ⟨rfl, hw⟩
      rw [hw]
      clear hw wq
      refine hK.out _ _ (hS) (fun hSn => ?_)
      clear hK K hS
      have hS := hSn
      clear hSn
      try simp only [Act.put, List.setIfInBounds_toArray, List.set_cons_zero, List.set_cons_succ, List.getElem_toArray, List.getElem_cons_succ, List.getElem_cons_zero]
      refine wpAnyH_take (i := 8) (v := ?_) rfl (by kernel_rfl) (by kernel_rfl) (by kernel_rfl) (fun _ _ _ h => h) (Or.inl ⟨by rfl, ?_⟩) hS ?_
      rotate_left
      · intro wz hz; go_simp; try with_reducible rfl
      try simp only [Act.put, List.setIfInBounds_toArray, List.set_cons_zero, List.set_cons_succ, List.getElem_toArray, List.getElem_cons_succ, List.getElem_cons_zero]
      refine wpAnyH_ready (rs := [9]) (by kernel_rfl) (by simp) (AllReadyH.cons rfl (fun K hK => ?a3_9) AllReadyH.nil)
      case' a3_9 =>
        go_simp
        have cc := R.out.cell
        have cf := R.out.frozen
        go_simp
        have R := hid ((R.out.set 0 (.int .i64 e.length)).set 1 (.int .i64 ((0 : Nat) : Int)))
        simp only [List.set_cons_zero, List.set_cons_succ] at R
        have hSn : Below w.heap.size w ((wc0.setCell ⟨w.heap.size, 0, none⟩ (.int .i64 e.length)).setCell ⟨w.heap.size, 1, none⟩ (.int .i64 ((0 : Nat) : Int))) := (bl_put (bl_put hS (p := ⟨w.heap.size, 0, none⟩) (.int .i64 e.length) (Nat.le_refl _)) (p := ⟨w.heap.size, 1, none⟩) (.int .i64 ((0 : Nat) : Int)) (Nat.le_refl _))
        generalize ((wc0.setCell ⟨w.heap.size, 0, none⟩ (.int .i64 e.length)).setCell ⟨w.heap.size, 1, none⟩ (.int .i64 ((0 : Nat) : Int))) = wc1 at R hSn  ⊢
        clear cc cf
        refine hK.out _ _ (hSn) (fun hSn => ?_)
        clear hK K hS
        have hS := hSn
        clear hSn
        try simp only [Act.put, List.setIfInBounds_toArray, List.set_cons_zero, List.set_cons_succ, List.getElem_toArray, List.getElem_cons_succ, List.getElem_cons_zero]
        refine wpAnyH_done (by kernel_rfl) ?_ _
  have cc := R.out.cell
  go_wp2
  refine bodyPost_ret (v := .agg #[.int .i64 e.length, .int .i64 0]) (by rw [results_cell1 (fn := Tryz.f92) (p := 2) (ty := 129) (by kernel_rfl)]; simp [go_sem, cc]) rfl ?_
  exact ⟨rfl, hS⟩

set_option maxHeartbeats 1000000 in
set_option maxRecDepth 100000 in
theorem bindNumber_any (w : World) (M : Nat) (T : TypeId) (vs : List Value) (q B : Nat) (mv lv : Value) (e : List (Int × Int)) (n : Nat) (x : Int) (hx : R64 x) (h : Wk w M T vs q B mv lv e n) (hn : n < 4611686018427387904) (he : e.length < 1099511627776) : Calls Tryz.prog 93 #[.pointer (some ⟨M, q, none⟩), .int .i64 x] w fun r w' => r = .returned (.tuple #[]) ∧ ∃ vs' mv' lv', vs' = (vs.set (q + 2) mv').set (q + 2 + 1) lv' ∧ Wk w' M T vs' q B mv' lv' ((x, (e.length : Int)) :: e) (n + 1) ∧ Ev (Om M mv lv) w (Om M mv' lv') w' := by
  obtain ⟨la, lc, rfl⟩ := h.scp.form
  have h1 := h.stays (w' := w.drew) (Below.refl _ _).drew
  have D1 : Hid (Calls Tryz.prog 72 #[.pointer (some ⟨M, q + 2, none⟩)] w.drew fun r w' => r = .returned (.int .i64 e.length) ∧ w' = w.drew) := depth_any w.drew M (q + 2) T vs la _ lc h1.arr h.l
  have D2 := hid (bind_any w.drew M (q + 2) B T vs mv _ e n x e.length hx (by constructor <;> omega) h1.arr h1.m h1.l h1.scp h.lt h1.le hn he)
  have D3 : Hid (∀ w' mv' lv', Arr w' M T ((vs.set (q + 2) mv').set (q + 2 + 1) lv') → Scp w' B mv' lv' ((x, (e.length : Int)) :: e) (n + 1) → Ev (Om M mv (.slice la e.length lc)) w.drew (Om M mv' lv') w' → ∃ vs' mv' lv', vs' = (vs.set (q + 2) mv').set (q + 2 + 1) lv' ∧ Wk w' M T vs' q B mv' lv' ((x, (e.length : Int)) :: e) (n + 1) ∧ Ev (Om M mv (.slice la e.length lc)) w (Om M mv' lv') w') := fun w' mv' lv' a s ev => ⟨_, mv', lv', rfl, h1.next a s ev.size, (Ev.refl _ _).drew.trans ev⟩
  clear h h1 hx hn he
  go_enter Tryz.func93, Tryz.ntmps93
  go_wp2_with fail
  refine wp_region_held_drew (S := fun wz => True) (by kernel_rfl) (trivial) (fun hS => ?_)
  generalize w.drew = wc0 at hS  D1 D2 D3 ⊢
  refine wpAnyH_take (i := 0) (v := ?_) rfl (by kernel_rfl) (by kernel_rfl) (by kernel_rfl) (fun _ _ _ h => h) (Or.inl ⟨by rfl, ?_⟩) hS ?_
  rotate_left
  · intro wz hz; go_simp; try with_reducible rfl
  try simp only [Act.put, List.setIfInBounds_toArray, List.set_cons_zero, List.set_cons_succ, List.getElem_toArray, List.getElem_cons_succ, List.getElem_cons_zero]
  refine wpAnyH_take (i := 1) (v := ?_) rfl (by kernel_rfl) (by kernel_rfl) (by kernel_rfl) (fun _ _ _ h => h) (Or.inl ⟨by rfl, ?_⟩) hS ?_
  rotate_left
  · intro wz hz; go_simp; try with_reducible rfl
  try simp only [Act.put, List.setIfInBounds_toArray, List.set_cons_zero, List.set_cons_succ, List.getElem_toArray, List.getElem_cons_succ, List.getElem_cons_zero]
  refine wpAnyH_take (i := 2) (v := ?_) rfl (by kernel_rfl) (by kernel_rfl) (by kernel_rfl) (fun _ _ _ h => h) (Or.inl ⟨by rfl, ?_⟩) hS ?_
  rotate_left
  · intro wz hz; go_simp; try with_reducible rfl
  try simp only [Act.put, List.setIfInBounds_toArray, List.set_cons_zero, List.set_cons_succ, List.getElem_toArray, List.getElem_cons_succ, List.getElem_cons_zero]
  refine wpAnyH_take (i := 3) (v := ?_) rfl (by kernel_rfl) (by kernel_rfl) (by kernel_rfl) (fun _ _ _ h => h) (Or.inl ⟨by rfl, ?_⟩) hS ?_
  rotate_left
  · intro wz hz; go_simp; try with_reducible rfl
  try simp only [Act.put, List.setIfInBounds_toArray, List.set_cons_zero, List.set_cons_succ, List.getElem_toArray, List.getElem_cons_succ, List.getElem_cons_zero]
  refine wpAnyH_take (i := 4) (v := ?_) rfl (by kernel_rfl) (by kernel_rfl) (by kernel_rfl) (fun _ _ _ h => h) (Or.inl ⟨by rfl, ?_⟩) hS ?_
  rotate_left
  · intro wz hz; go_simp; try with_reducible rfl
  try simp only [Act.put, List.setIfInBounds_toArray, List.set_cons_zero, List.set_cons_succ, List.getElem_toArray, List.getElem_cons_succ, List.getElem_cons_zero]
  refine wpAnyH_take (i := 5) (v := ?_) rfl (by kernel_rfl) (by kernel_rfl) (by kernel_rfl) (fun _ _ _ h => h) (Or.inl ⟨by rfl, ?_⟩) hS ?_
  rotate_left
  · intro wz hz; go_simp; try with_reducible rfl
  try simp only [Act.put, List.setIfInBounds_toArray, List.set_cons_zero, List.set_cons_succ, List.getElem_toArray, List.getElem_cons_succ, List.getElem_cons_zero]
  refine wpAnyH_take (i := 6) (v := ?_) rfl (by kernel_rfl) (by kernel_rfl) (by kernel_rfl) (fun _ _ _ h => h) (Or.inl ⟨by rfl, ?_⟩) hS ?_
  rotate_left
  · intro wz hz; go_simp; try with_reducible rfl
  try simp only [Act.put, List.setIfInBounds_toArray, List.set_cons_zero, List.set_cons_succ, List.getElem_toArray, List.getElem_cons_succ, List.getElem_cons_zero]
  refine wpAnyH_ready (rs := [7]) (by kernel_rfl) (by simp) (AllReadyH.cons rfl (fun K hK => ?a4_7) AllReadyH.nil)
  case' a4_7 =>
    go_simp
    refine (D1.out).mono ?_
    rintro e wq ⟨rfl, hw⟩
    rw [hw]
    clear hw wq
    refine hK.out _ _ (hS) (fun hSn => ?_)
    clear hK K hS
    have hS := hSn
    clear hSn
    try simp only [Act.put, List.setIfInBounds_toArray, List.set_cons_zero, List.set_cons_succ, List.getElem_toArray, List.getElem_cons_succ, List.getElem_cons_zero]
    refine wpAnyH_ready (rs := [8]) (by kernel_rfl) (by simp) (AllReadyH.cons rfl (fun K hK => ?a5_8) AllReadyH.nil)
    case' a5_8 =>
      go_simp
      refine (D2.out).mono ?_
      rintro r wn ⟨rfl, mv', lv', a, sc, ev⟩
      refine hK.out _ _ (trivial) (fun hSn => ?_)
      clear hK K hS
      have hS := hSn
      clear hSn
      try simp only [Act.put, List.setIfInBounds_toArray, List.set_cons_zero, List.set_cons_succ, List.getElem_toArray, List.getElem_cons_succ, List.getElem_cons_zero]
      refine wpAnyH_done (by kernel_rfl) ?_ _
  go_wp2_with fail
  go_end0
  exact ⟨rfl, D3.out _ _ _ a sc ev⟩
/-- What is bound within a type. -/
def Tt.env (t : Tt) (e : List (Int × Int)) : List (Int × Int) := if t.binds then (t.n, (e.length : Int)) :: e else e

set_option maxHeartbeats 1000000 in
set_option maxRecDepth 100000 in
theorem into_any (w : World) (M : Nat) (T : TypeId) (vs : List Value) (q B : Nat) (mv lv : Value) (e : List (Int × Int)) (n k b o : Nat) (t : Tt) (hP : PAt w (fun b => b < M) k b o t) (h : Wk w M T vs q B mv lv e n) (hn : n < 4611686018427387904) (he : e.length < 1099511627776) : Calls Tryz.prog 54 #[.pointer (some ⟨M, q, none⟩), .pointer (some ⟨b, o, none⟩)] w fun r w' => r = .returned (.agg #[.int .i64 e.length, .int .i64 0]) ∧ ∃ vs' mv' lv', vs' = (vs.set (q + 2) mv').set (q + 2 + 1) lv' ∧ Wk w' M T vs' q B mv' lv' (t.env e) (n + 1) ∧ Ev (Om M mv lv) w (Om M mv' lv') w' := by
  have hmv : vs.set (q + 2) mv = vs := set_same h.m
  have hlv : vs.set (q + 2 + 1) lv = vs := set_same h.l
  obtain ⟨kk, rfl⟩ := hP.pos
  obtain ⟨a', c', a, c, e0, e1, -, -, hk, hN, -, -⟩ := hP.cells
  have hbl := hP.lt
  have hbM : b < M := hP.1
  have B1 : Hid (Below w.heap.size w (w.alloc (.cells #[.int .i64 0, .int .i64 0] 129))) := bl_alloc (Below.refl _ _) _
  have R : Hid (Arr (w.alloc (.cells #[.int .i64 0, .int .i64 0] 129)) w.heap.size 129 [.int .i64 0, .int .i64 0]) := ⟨heap_alloc_at _ _⟩
  have HM : Hid (M < w.heap.size) := h.arr.lt
  have HE := hid (here_any _ M T vs q B mv lv e n (h.stays B1.out))
  have BQ : Hid (∀ wz, Below w.heap.size w wz → Calls Tryz.prog 90 #[.pointer (some ⟨b, o, none⟩)] wz fun r w' => r = .returned (.bool t.binds) ∧ w' = wz) := fun wz hz => binds_any wz _ (kk + 1) b o t (hP.move (Keeps.of_below hz) (fun _ h => h))
  have NQ : Hid (∀ wz, Below w.heap.size w wz → Calls Tryz.prog 93 #[.pointer (some ⟨M, q, none⟩), .int .i64 t.n] wz fun r w' => r = .returned (.tuple #[]) ∧ ∃ vs' mv' lv', vs' = (vs.set (q + 2) mv').set (q + 2 + 1) lv' ∧ Wk w' M T vs' q B mv' lv' ((t.n, (e.length : Int)) :: e) (n + 1) ∧ Ev (Om M mv lv) wz (Om M mv' lv') w') := fun wz hz => bindNumber_any wz M T vs q B mv lv e n t.n hN (h.stays hz) hn he
  have E1 : Hid (∀ wz, Below w.heap.size w wz → wz.cell? ⟨b, o + 1, none⟩ = some (.int .i64 t.n)) := fun wz hz => (hz.cell (p := ⟨b, o + 1, none⟩) hbl).trans e1
  have HW : Hid (∀ wz, Below w.heap.size w wz → Wk wz M T vs q B mv lv e (n + 1)) := fun wz hz => by
    have := h.stays hz
    exact ⟨this.arr, this.m, this.l, this.nm, this.nl, this.scp.le (by omega), this.lt, this.le⟩
  have HOM : Hid (¬ Om M mv lv w.heap.size) := fun hq => by
    rcases hq with hq | hq
    · have := HM.out; omega
    · have := (h.scp.ge hq).2; omega
  have HOM2 : Hid (∀ x, w.heap.size ≤ x → ¬ Om M mv lv x) := fun x hx hq => by
    rcases hq with hq | hq
    · have := HM.out; omega
    · have := (h.scp.ge hq).2; omega
  clear hP e0 e1 hk hN h hn he
  cases hb : t.binds with
  | false =>
    rw [hb] at BQ
    have HV : Hid (t.env e = e) := by show _ = _; unfold Tt.env; rw [hb]; rfl
    have FIN : Hid (∀ wf, Below w.heap.size w wf → (Ending.returned (.agg #[.int .i64 e.length, .int .i64 0]) = .returned (.agg #[.int .i64 e.length, .int .i64 0]) ∧ ∃ vs' mv' lv', vs' = (vs.set (q + 2) mv').set (q + 2 + 1) lv' ∧ Wk wf M T vs' q B mv' lv' (t.env e) (n + 1) ∧ Ev (Om M mv lv) w (Om M mv' lv') wf)) := fun wf hf => ⟨rfl, vs, mv, lv, by rw [hmv, hlv], by rw [HV.out]; exact HW.out _ hf, Ev.of_below hf⟩
    clear hb NQ E1
    go_enter Tryz.func54, Tryz.ntmps54
    go_wp2_with (first
      | (go_at_call 92; refine (HE.out).mono ?_; rintro r w2 ⟨rfl, hb2⟩; have R2 := hid (R.out.stays hb2); have HB2 : Hid (Below w.heap.size w w2) := bl_tr B1.out hb2; clear hb2)
      | (go_at_call 90; refine (BQ.out _ (bl_alloc HB2.out _)).mono ?_; rintro r w3 ⟨rfl, hw⟩; rw [hw]; clear hw w3; have S2 := R2.out.lt; have z0 := R2.out.cell; have z1 := R2.out.frozen))
    refine bodyPost_ret (v := .agg #[.int .i64 e.length, .int .i64 0]) (by rw [results_cell1 (fn := Tryz.f54) (p := 4) (ty := 129) (by kernel_rfl)]; simp [go_sem, z0, S2]) rfl ?_
    refine ⟨rfl, (FIN.out _ ?_).2⟩
    first
      | exact bl_alloc (bl_set _ _ (bl_set _ _ HB2.out (Nat.le_refl _)) (Nat.le_refl _)) _
      | exact bl_set _ _ (bl_set _ _ (bl_alloc HB2.out _) (Nat.le_refl _)) (Nat.le_refl _)
  | true =>
    rw [hb] at BQ
    have HV : Hid (t.env e = (t.n, (e.length : Int)) :: e) := by show _ = _; unfold Tt.env; rw [hb]; rfl
    clear hb HW
    go_enter Tryz.func54, Tryz.ntmps54
    go_wp2_with (first
      | (go_at_call 92; refine (HE.out).mono ?_; rintro r w2 ⟨rfl, hb2⟩; have R2 := hid (R.out.stays hb2); have HB2 : Hid (Below w.heap.size w w2) := bl_tr B1.out hb2; clear hb2)
      | (go_at_call 90; refine (BQ.out _ (bl_alloc HB2.out _)).mono ?_; rintro r w3 ⟨rfl, hw⟩; rw [hw]; clear hw w3; have S2 := R2.out.lt; have y1 := E1.out _ (bl_alloc HB2.out (.cells #[.int .i64 e.length, .int .i64 0] 129)))
      | (go_at_call 93; refine (NQ.out _ (bl_alloc HB2.out _)).mono ?_; rintro r w4 ⟨rfl, vs4, mv4, lv4, hvs4, hw4, hev4⟩; have A4 : Arr w4 w2.heap.size 129 [.int .i64 e.length, .int .i64 0] := ⟨(hev4.block _ (by simp) (HOM2.out _ (by omega))).trans (heap_alloc_at _ _)⟩; have A5 : Arr w4 w.heap.size 129 [.int .i64 0, .int .i64 0] := ⟨(hev4.block _ (by simp; omega) HOM.out).trans (R2.out.stays (bl_alloc (Below.refl _ _) _)).b⟩; have N5 : Hid (¬ Om M mv4 lv4 w.heap.size) := (fun hq => (hev4.mine _ hq).elim HOM.out (fun h => by simp at h; omega)); have z0 := A4.cell; have z1 := A5.cell; have z2 := A5.frozen; have HVS4 := hid hvs4; have HW4 := hid hw4; have HEV4 := hid hev4; have SN : ¬ w2.heap.size = w.heap.size := (by omega); clear hvs4 hw4 hev4 A4))
    refine bodyPost_ret (v := .agg #[.int .i64 e.length, .int .i64 0]) (by rw [results_cell1 (fn := Tryz.f54) (p := 4) (ty := 129) (by kernel_rfl)]; simp [go_sem, z1]) rfl ?_
    refine ⟨rfl, vs4, mv4, lv4, HVS4.out, ?_, ?_⟩
    · rw [HV.out]; exact (HW4.out.other (p := ⟨w.heap.size, 0, none⟩) N5.out _).other (p := ⟨w.heap.size, 1, none⟩) N5.out _
    · exact Ev.new (Ev.new ((Ev.of_below (bl_alloc HB2.out _)).trans HEV4.out) (Nat.le_refl _) _) (Nat.le_refl _) _

set_option maxHeartbeats 1000000 in
set_option maxRecDepth 100000 in
theorem backS_any (w : World) (M o : Nat) (T : TypeId) (vs : List Value) (hA : Arr w M T vs) (h1 : vs[o + 1]? = some (.slice none 0 0)) : Calls Tryz.prog 94 #[.pointer (some ⟨M, o, none⟩), .int .i64 0] w fun e w' => e = .returned (.tuple #[]) ∧ w' = w := by
  have c1 := (hA.cell (o + 1)).trans h1
  clear hA h1
  go_enter Tryz.func94, Tryz.ntmps94
  go_wp2_with fail
  go_loopw [4] (fun _ wr => wr = w) (fun _ _ => 0)
  case atStart => rfl
  case round =>
    subst hrel
    go_wp2
    go_end0
    exact ⟨rfl, rfl⟩

set_option maxHeartbeats 1000000 in
set_option maxRecDepth 100000 in
theorem wback_any (w : World) (M : Nat) (T : TypeId) (vs : List Value) (q B : Nat) (mv lv : Value) (e : List (Int × Int)) (n d : Nat) (h : Wk w M T vs q B mv lv e n) (hn : n + e.length < 4611686018427387904) (hd : d ≤ e.length) : Calls Tryz.prog 56 #[.pointer (some ⟨M, q, none⟩), .agg #[.int .i64 d, .int .i64 0]] w fun r w' => r = .returned (.tuple #[]) ∧ ∃ vs' lv', vs' = (vs.set (q + 2) mv).set (q + 2 + 1) lv' ∧ Wk w' M T vs' q B mv lv' (e.drop (e.length - d)) (n + e.length) ∧ Ev (Om M mv lv) w (Om M mv lv') w' := by
  have hmv : vs.set (q + 2) mv = vs := set_same h.m
  have h1 := h.stays (w' := (w.alloc (.cells #[.int .i64 d, .int .i64 0] 129)).drew) (bl_alloc (Below.refl _ _) _).drew
  have R1 : Hid (Arr ((w.alloc (.cells #[.int .i64 d, .int .i64 0] 129)).drew) w.heap.size 129 [.int .i64 d, .int .i64 0]) := Arr.stays ⟨heap_alloc_at _ _⟩ (Below.refl _ _).drew
  have HOM : Hid (¬ Om M mv lv w.heap.size) := fun hq => by
    rcases hq with hq | hq
    · have := h.arr.lt; omega
    · have := (h.scp.ge hq).2; omega
  have D2 := hid (back_any _ M (q + 2) B T vs mv lv e n d h1.arr h1.m h1.l h1.scp h.lt hn hd)
  have D3 : Hid (∀ w' lv', Arr w' M T (vs.set (q + 2 + 1) lv') → Scp w' B mv lv' (e.drop (e.length - d)) (n + e.length) → Ev (Om M mv lv) ((w.alloc (.cells #[.int .i64 d, .int .i64 0] 129)).drew) (Om M mv lv') w' → (Arr w' w.heap.size 129 [.int .i64 d, .int .i64 0] ∧ Wk w' M T ((vs.set (q + 2) mv).set (q + 2 + 1) lv') q B mv lv' (e.drop (e.length - d)) (n + e.length) ∧ Ev (Om M mv lv) w (Om M mv lv') w')) := fun w' lv' a s ev => ⟨⟨(ev.block _ (by show w.heap.size < (w.alloc _).heap.size; simp) HOM.out).trans R1.out.b⟩, h1.next (by rw [hmv]; exact a) s ev.size, (Ev.of_below (bl_alloc (Below.refl _ _) _).drew).trans ev⟩
  have c1 : ∀ j, ((w.alloc (.cells #[.int .i64 d, .int .i64 0] 129)).drew).cell? ⟨w.heap.size, j, none⟩ = _ := R1.out.cell
  clear h h1 hn hd
  go_enter Tryz.func56, Tryz.ntmps56
  go_wp2_with fail
  refine wp_region_held_drew (S := fun wz => ∀ j, wz.cell? ⟨w.heap.size, j, none⟩ = [.int .i64 d, .int .i64 0][j]?) (by kernel_rfl) (c1) (fun hS => ?_)
  generalize (w.alloc (.cells #[.int .i64 d, .int .i64 0] 129)).drew = wc0 at hS  D2 D3 ⊢
  refine wpAnyH_take (i := 0) (v := ?_) rfl (by kernel_rfl) (by kernel_rfl) (by kernel_rfl) (fun _ _ _ h => h) (Or.inl ⟨by rfl, ?_⟩) hS ?_
  rotate_left
  · intro wz hz; go_simp; try with_reducible rfl
  try simp only [Act.put, List.setIfInBounds_toArray, List.set_cons_zero, List.set_cons_succ, List.getElem_toArray, List.getElem_cons_succ, List.getElem_cons_zero]
  refine wpAnyH_take (i := 1) (v := ?_) rfl (by kernel_rfl) (by kernel_rfl) (by kernel_rfl) (fun _ _ _ h => h) (Or.inl ⟨by rfl, ?_⟩) hS ?_
  rotate_left
  · intro wz hz; go_simp; try with_reducible rfl
  try simp only [Act.put, List.setIfInBounds_toArray, List.set_cons_zero, List.set_cons_succ, List.getElem_toArray, List.getElem_cons_succ, List.getElem_cons_zero]
  refine wpAnyH_take (i := 2) (v := ?_) rfl (by kernel_rfl) (by kernel_rfl) (by kernel_rfl) (fun _ _ _ h => h) (Or.inl ⟨by rfl, ?_⟩) hS ?_
  rotate_left
  · intro wz hz; go_simp; try with_reducible rfl
  try simp only [Act.put, List.setIfInBounds_toArray, List.set_cons_zero, List.set_cons_succ, List.getElem_toArray, List.getElem_cons_succ, List.getElem_cons_zero]
  refine wpAnyH_take (i := 3) (v := ?_) rfl (by kernel_rfl) (by kernel_rfl) (by kernel_rfl) (fun _ _ _ h => h) (Or.inl ⟨by rfl, ?_⟩) hS ?_
  rotate_left
  · intro wz hz; go_simp; try with_reducible rfl
  try simp only [Act.put, List.setIfInBounds_toArray, List.set_cons_zero, List.set_cons_succ, List.getElem_toArray, List.getElem_cons_succ, List.getElem_cons_zero]
  refine wpAnyH_take (i := 4) (v := ?_) rfl (by kernel_rfl) (by kernel_rfl) (by kernel_rfl) (fun _ _ _ h => h) (Or.inl ⟨by rfl, ?_⟩) hS ?_
  rotate_left
  · intro wz hz; have yy0 := hz; go_simp; try with_reducible rfl
  try simp only [Act.put, List.setIfInBounds_toArray, List.set_cons_zero, List.set_cons_succ, List.getElem_toArray, List.getElem_cons_succ, List.getElem_cons_zero]
  refine wpAnyH_ready (rs := [5]) (by kernel_rfl) (by simp) (AllReadyH.cons rfl (fun K hK => ?a6_5) AllReadyH.nil)
  case' a6_5 =>
    go_simp
    refine (D2.out).mono ?_
    rintro r wn ⟨rfl, lv', a, sc, ev⟩
    obtain ⟨r1, r2, r3⟩ := D3.out _ _ a sc ev
    clear D3 a sc ev
    refine hK.out _ _ (r1.cell) (fun hSn => ?_)
    clear hK K hS
    have hS := hSn
    clear hSn
    try simp only [Act.put, List.setIfInBounds_toArray, List.set_cons_zero, List.set_cons_succ, List.getElem_toArray, List.getElem_cons_succ, List.getElem_cons_zero]
    refine wpAnyH_done (by kernel_rfl) ?_ _
  have S1 := hid (backS_any _ M (q + 4) T _ (r2.arr.stays (Below.refl _ _).drew) r2.nl)
  have R4 : Hid (r2.arr.b = r2.arr.b) := rfl
  have HR := hid (show Wk wn.drew M T _ q B mv lv' _ _ ∧ Ev (Om M mv lv) w (Om M mv lv') wn.drew from ⟨r2.stays (Below.refl _ _).drew, r3.drew⟩)
  have c2 : ∀ j, wn.drew.cell? ⟨w.heap.size, j, none⟩ = _ := r1.cell
  clear r2 r3 R4 c1 hS
  go_wp2_with fail
  refine wp_region_held_drew (S := fun wz => ∀ j, wz.cell? ⟨w.heap.size, j, none⟩ = [.int .i64 d, .int .i64 0][j]?) (by kernel_rfl) (c2) (fun hS => ?_)
  generalize wn.drew = wc0 at hS  S1 HR ⊢
  refine wpAnyH_take (i := 0) (v := ?_) rfl (by kernel_rfl) (by kernel_rfl) (by kernel_rfl) (fun _ _ _ h => h) (Or.inl ⟨by rfl, ?_⟩) hS ?_
  rotate_left
  · intro wz hz; go_simp; try with_reducible rfl
  try simp only [Act.put, List.setIfInBounds_toArray, List.set_cons_zero, List.set_cons_succ, List.getElem_toArray, List.getElem_cons_succ, List.getElem_cons_zero]
  refine wpAnyH_take (i := 1) (v := ?_) rfl (by kernel_rfl) (by kernel_rfl) (by kernel_rfl) (fun _ _ _ h => h) (Or.inl ⟨by rfl, ?_⟩) hS ?_
  rotate_left
  · intro wz hz; go_simp; try with_reducible rfl
  try simp only [Act.put, List.setIfInBounds_toArray, List.set_cons_zero, List.set_cons_succ, List.getElem_toArray, List.getElem_cons_succ, List.getElem_cons_zero]
  refine wpAnyH_take (i := 2) (v := ?_) rfl (by kernel_rfl) (by kernel_rfl) (by kernel_rfl) (fun _ _ _ h => h) (Or.inl ⟨by rfl, ?_⟩) hS ?_
  rotate_left
  · intro wz hz; go_simp; try with_reducible rfl
  try simp only [Act.put, List.setIfInBounds_toArray, List.set_cons_zero, List.set_cons_succ, List.getElem_toArray, List.getElem_cons_succ, List.getElem_cons_zero]
  refine wpAnyH_take (i := 3) (v := ?_) rfl (by kernel_rfl) (by kernel_rfl) (by kernel_rfl) (fun _ _ _ h => h) (Or.inl ⟨by rfl, ?_⟩) hS ?_
  rotate_left
  · intro wz hz; go_simp; try with_reducible rfl
  try simp only [Act.put, List.setIfInBounds_toArray, List.set_cons_zero, List.set_cons_succ, List.getElem_toArray, List.getElem_cons_succ, List.getElem_cons_zero]
  refine wpAnyH_take (i := 4) (v := ?_) rfl (by kernel_rfl) (by kernel_rfl) (by kernel_rfl) (fun _ _ _ h => h) (Or.inl ⟨by rfl, ?_⟩) hS ?_
  rotate_left
  · intro wz hz; have yy0 := hz; go_simp; try with_reducible rfl
  try simp only [Act.put, List.setIfInBounds_toArray, List.set_cons_zero, List.set_cons_succ, List.getElem_toArray, List.getElem_cons_succ, List.getElem_cons_zero]
  refine wpAnyH_ready (rs := [5]) (by kernel_rfl) (by simp) (AllReadyH.cons rfl (fun K hK => ?a7_5) AllReadyH.nil)
  case' a7_5 =>
    go_simp
    refine (S1.out).mono ?_
    rintro r wx ⟨rfl, hw⟩
    rw [hw]
    clear hw wx
    refine hK.out _ _ (hS) (fun hSn => ?_)
    clear hK K hS
    have hS := hSn
    clear hSn
    try simp only [Act.put, List.setIfInBounds_toArray, List.set_cons_zero, List.set_cons_succ, List.getElem_toArray, List.getElem_cons_succ, List.getElem_cons_zero]
    refine wpAnyH_done (by kernel_rfl) ?_ _
  go_wp2_with fail
  go_end0
  exact ⟨rfl, _, lv', rfl, HR.out⟩
end Go.Proofs.YtigliglmejkakaaGreat.Tgt
