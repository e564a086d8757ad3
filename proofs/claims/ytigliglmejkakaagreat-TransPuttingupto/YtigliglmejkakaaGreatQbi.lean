/- Put. -/
import Derived.Test.YtigliglmejkakaaGreatQbf
import Derived.Test.YtigliglmejkakaaGreatQbh
namespace Go.Proofs.YtigliglmejkakaaGreat.Tgt
open Go.RowKit
set_option linter.unusedVariables false
set_option linter.unusedSimpArgs false

/-- A type with another one put in for a number. -/
def Tt.Put (t : Tt) (num : Int) (u : Tt) (l : List Int) : Tt := if t.fv [] num then (Tt.put num u (u.fv []) l t [] 0).1 else t

set_option maxHeartbeats 2000000 in
set_option maxRecDepth 100000 in
theorem Put_big (w : World) (k k2 : Nat) (us vs : List Value) (t u : Tt) (num : Int) (hnum : R64 num) (h : TAt w Any k us t) (hu : TAt w Any k2 vs u) (hd : t.deepest ≤ 2097152) (hc : t.cnt ≤ 68719476736) (hc2 : u.cnt ≤ 1048576) :
    Calls Tryz.prog 12 #[.agg us.toArray, .int .i64 num, .agg vs.toArray] w fun r w' => ∃ xs k' l, r = .returned (.agg xs.toArray) ∧ TAt w' Any k' xs (t.Put num u l) ∧ Below w.heap.size w w' ∧ (t.fv [] num = true → l.length ≤ 1152921504606846976 ∧ ∀ x, decide (x ∈ l) = (t.av x || u.fv [] x)) := by
  obtain ⟨a', c', a, c, rfl⟩ := h.form
  obtain ⟨d', f', d, f, rfl⟩ := hu.form
  have B3 : Below w.heap.size w (((w.alloc (.cells #[.int .i64 t.k, .int .i64 t.n, .slice a' t.ls.length c', .slice a t.ks.length c] TY)).alloc (.cells #[.int .i64 u.k, .int .i64 u.n, .slice d' u.ls.length f', .slice d u.ks.length f] TY)).alloc (.cells #[.int .i64 0, .int .i64 0, .slice none 0 0, .slice none 0 0] TY)).drew := (bl_alloc (bl_alloc (bl_alloc (Below.refl _ _) _) _) _).drew
  have sz : (((w.alloc (.cells #[.int .i64 t.k, .int .i64 t.n, .slice a' t.ls.length c', .slice a t.ks.length c] TY)).alloc (.cells #[.int .i64 u.k, .int .i64 u.n, .slice d' u.ls.length f', .slice d u.ks.length f] TY)).alloc (.cells #[.int .i64 0, .int .i64 0, .slice none 0 0, .slice none 0 0] TY)).drew.heap.size = w.heap.size + 3 := by show ((((w.alloc (.cells #[.int .i64 t.k, .int .i64 t.n, .slice a' t.ls.length c', .slice a t.ks.length c] TY)).alloc (.cells #[.int .i64 u.k, .int .i64 u.n, .slice d' u.ls.length f', .slice d u.ks.length f] TY)).alloc (.cells #[.int .i64 0, .int .i64 0, .slice none 0 0, .slice none 0 0] TY))).heap.size = _; rw [size_alloc, size_alloc, size_alloc]
  have at_ : Arr (((w.alloc (.cells #[.int .i64 t.k, .int .i64 t.n, .slice a' t.ls.length c', .slice a t.ks.length c] TY)).alloc (.cells #[.int .i64 u.k, .int .i64 u.n, .slice d' u.ls.length f', .slice d u.ks.length f] TY)).alloc (.cells #[.int .i64 0, .int .i64 0, .slice none 0 0, .slice none 0 0] TY)).drew w.heap.size TY [.int .i64 t.k, .int .i64 t.n, .slice a' t.ls.length c', .slice a t.ks.length c] := Arr.stays (Arr.stays (Arr.stays ⟨heap_alloc_at _ _⟩ (bl_alloc (Below.refl _ _) _)) (bl_alloc (Below.refl _ _) _)) (Below.refl _ _).drew
  have au_ : Arr (((w.alloc (.cells #[.int .i64 t.k, .int .i64 t.n, .slice a' t.ls.length c', .slice a t.ks.length c] TY)).alloc (.cells #[.int .i64 u.k, .int .i64 u.n, .slice d' u.ls.length f', .slice d u.ks.length f] TY)).alloc (.cells #[.int .i64 0, .int .i64 0, .slice none 0 0, .slice none 0 0] TY)).drew (w.heap.size + 1) TY [.int .i64 u.k, .int .i64 u.n, .slice d' u.ls.length f', .slice d u.ks.length f] := Arr.stays (Arr.stays (w := (w.alloc (.cells #[.int .i64 t.k, .int .i64 t.n, .slice a' t.ls.length c', .slice a t.ks.length c] TY)).alloc (.cells #[.int .i64 u.k, .int .i64 u.n, .slice d' u.ls.length f', .slice d u.ks.length f] TY)) ⟨by have := heap_alloc_at (w.alloc (.cells #[.int .i64 t.k, .int .i64 t.n, .slice a' t.ls.length c', .slice a t.ks.length c] TY)) (.cells #[.int .i64 u.k, .int .i64 u.n, .slice d' u.ls.length f', .slice d u.ks.length f] TY); rw [size_alloc] at this; exact this⟩ (bl_alloc (Below.refl _ _) _)) (Below.refl _ _).drew
  have ar_ : Arr (((w.alloc (.cells #[.int .i64 t.k, .int .i64 t.n, .slice a' t.ls.length c', .slice a t.ks.length c] TY)).alloc (.cells #[.int .i64 u.k, .int .i64 u.n, .slice d' u.ls.length f', .slice d u.ks.length f] TY)).alloc (.cells #[.int .i64 0, .int .i64 0, .slice none 0 0, .slice none 0 0] TY)).drew (w.heap.size + 2) TY [.int .i64 0, .int .i64 0, .slice none 0 0, .slice none 0 0] := Arr.stays (w := (((w.alloc (.cells #[.int .i64 t.k, .int .i64 t.n, .slice a' t.ls.length c', .slice a t.ks.length c] TY)).alloc (.cells #[.int .i64 u.k, .int .i64 u.n, .slice d' u.ls.length f', .slice d u.ks.length f] TY)).alloc (.cells #[.int .i64 0, .int .i64 0, .slice none 0 0, .slice none 0 0] TY))) ⟨by have := heap_alloc_at ((w.alloc (.cells #[.int .i64 t.k, .int .i64 t.n, .slice a' t.ls.length c', .slice a t.ks.length c] TY)).alloc (.cells #[.int .i64 u.k, .int .i64 u.n, .slice d' u.ls.length f', .slice d u.ks.length f] TY)) (.cells #[.int .i64 0, .int .i64 0, .slice none 0 0, .slice none 0 0] TY); rw [size_alloc, size_alloc] at this; exact this⟩ (Below.refl _ _).drew
  have hP : PAt (((w.alloc (.cells #[.int .i64 t.k, .int .i64 t.n, .slice a' t.ls.length c', .slice a t.ks.length c] TY)).alloc (.cells #[.int .i64 u.k, .int .i64 u.n, .slice d' u.ls.length f', .slice d u.ks.length f] TY)).alloc (.cells #[.int .i64 0, .int .i64 0, .slice none 0 0, .slice none 0 0] TY)).drew (fun b => b < (((w.alloc (.cells #[.int .i64 t.k, .int .i64 t.n, .slice a' t.ls.length c', .slice a t.ks.length c] TY)).alloc (.cells #[.int .i64 u.k, .int .i64 u.n, .slice d' u.ls.length f', .slice d u.ks.length f] TY)).alloc (.cells #[.int .i64 0, .int .i64 0, .slice none 0 0, .slice none 0 0] TY)).drew.heap.size) k w.heap.size 0 t := by
    rw [sz]
    refine ⟨by omega, _, fun j v hv => ?_, ((TAt.old h).move (K' := fun b => b < w.heap.size + 3) (Keeps.refl _ _) (fun b hb => by have := hb.2; omega)).below B3⟩
    rw [at_.cell, Nat.zero_add]; exact hv
  have GQ := hid (gatheredOf_big _ k _ _ t hP hd hc)
  rw [sz] at GQ
  have HU := hid (((TAt.old hu).move (K' := fun b => b < w.heap.size + 2) (Keeps.refl _ _) (fun b hb => by have := hb.2; omega)).below B3)
  have HT := hid (((TAt.old h).move (K' := fun b => b < w.heap.size) (Keeps.refl _ _) (fun b hb => hb.2)).below B3)
  have AT := hid at_
  have AU := hid au_
  have AR := hid ar_
  have HB3 := hid B3
  have SZ := hid sz
  have HC := hid hc
  have HD := hid hd
  have HC2 := hid hc2
  have HNUM := hid hnum
  have cu := au_.cell
  clear h hu hP at_ au_ ar_ B3 sz hc hc2 hnum hd
  go_enter Tryz.func12, Tryz.ntmps12
  go_wp2_with fail
  refine wp_region_held_drew (S := fun wz => ∀ j, wz.cell? ⟨w.heap.size + 1, j, none⟩ = [.int .i64 u.k, .int .i64 u.n, .slice d' u.ls.length f', .slice d u.ks.length f][j]?) (by kernel_rfl) (cu) (fun hS => ?_)
  generalize (((w.alloc (.cells #[.int .i64 t.k, .int .i64 t.n, .slice a' t.ls.length c', .slice a t.ks.length c] TY)).alloc (.cells #[.int .i64 u.k, .int .i64 u.n, .slice d' u.ls.length f', .slice d u.ks.length f] TY)).alloc (.cells #[.int .i64 0, .int .i64 0, .slice none 0 0, .slice none 0 0] TY)).drew = wc0 at hS  GQ HU HT AT AU AR HB3 SZ ⊢
  refine wpAnyH_take (i := 1) (v := ?_) rfl (by kernel_rfl) (by kernel_rfl) (by kernel_rfl) (fun _ _ _ h => h) (Or.inl ⟨by rfl, ?_⟩) hS ?_
  rotate_left
  · intro wz hz; go_simp; try with_reducible rfl
  try simp only [Act.put, List.setIfInBounds_toArray, List.set_cons_zero, List.set_cons_succ, List.getElem_toArray, List.getElem_cons_succ, List.getElem_cons_zero]
  refine wpAnyH_take (i := 2) (v := ?_) rfl (by kernel_rfl) (by kernel_rfl) (by kernel_rfl) (fun _ _ _ h => h) (Or.inl ⟨by rfl, ?_⟩) hS ?_
  rotate_left
  · intro wz hz; have yy0 := hz; go_simp; try with_reducible rfl
  try simp only [Act.put, List.setIfInBounds_toArray, List.set_cons_zero, List.set_cons_succ, List.getElem_toArray, List.getElem_cons_succ, List.getElem_cons_zero]
  refine wpAnyH_ready (rs := [0]) (by kernel_rfl) (by simp) (AllReadyH.cons rfl (fun K hK => ?a1_0) AllReadyH.nil)
  case' a1_0 =>
    go_simp
    refine (GQ.out).mono ?_
    rintro r w1 ⟨rfl, ⟨own1, hG1⟩, hB1⟩
    have hB1 : Below wc0.heap.size wc0 w1 := by rw [SZ.out]; exact hB1
    have AT := hid (AT.out.stays hB1)
    have AU := hid (AU.out.stays hB1)
    have AR := hid (AR.out.stays hB1)
    have NQ := hid (newPutter_any (w.heap.size + 2) w1 (by have := hB1.size; have := SZ.out; omega) _ _ own1 _ _ _ hG1 num HNUM.out k2 _ u (HU.out.below hB1) (by have := HC2.out; omega) (by have := HC.out; omega))
    have SZ1 : Hid (w.heap.size + 3 ≤ w1.heap.size) := by have := hB1.size; rw [SZ.out] at this; exact this
    have HT := hid (HT.out.below hB1)
    have HB1 := hid (HB3.out.trans (hB1.mono HB3.out.size))
    clear hG1 hB1
    refine hK.out _ _ (AU.out.cell) (fun hSn => ?_)
    clear hK K hS
    have hS := hSn
    clear hSn
    try simp only [Act.put, List.setIfInBounds_toArray, List.set_cons_zero, List.set_cons_succ, List.getElem_toArray, List.getElem_cons_succ, List.getElem_cons_zero]
    refine wpAnyH_ready (rs := [3]) (by kernel_rfl) (by simp) (AllReadyH.cons rfl (fun K hK => ?a2_3) AllReadyH.nil)
    case' a2_3 =>
      go_simp
      refine (NQ.out).mono ?_
      rintro r w2 ⟨hb2, hr2⟩
      have AT := hid (Arr.lowB AT.out hb2 (by omega))
      have AU := hid (Arr.lowB AU.out hb2 (by omega))
      have AR := hid (Arr.lowB AR.out hb2 (by omega))
      have HT := hid (HT.out.move (fun b oo v hb hv => (hb2.cell (p := ⟨b, oo, none⟩) (by show b < w.heap.size + 3; omega)).trans hv) (fun _ h => h))
      have HB2 : Hid (Below w.heap.size w w2) := HB1.out.trans (hb2.mono (by omega))
      have HLT := hid (show Below (w.heap.size + 3) w1 w2 from hb2)
      clear hb2
      rcases hr2 with ⟨hF, rfl⟩ | ⟨hF, M, own2, l, rfl, hM2, hP2, hll, hl⟩
      case' inl =>
        refine hK.out _ _ (AU.out.cell) (fun hSn => ?_)
        clear hK K hS
        have hS := hSn
        clear hSn
        try simp only [Act.put, List.setIfInBounds_toArray, List.set_cons_zero, List.set_cons_succ, List.getElem_toArray, List.getElem_cons_succ, List.getElem_cons_zero]
        refine wpAnyH_take (i := 4) (v := ?_) rfl (by kernel_rfl) (by kernel_rfl) (by kernel_rfl) (fun _ _ _ h => h) (Or.inl ⟨by rfl, ?_⟩) hS ?_
        rotate_left
        · intro wz hz; go_simp; try with_reducible rfl
        try simp only [Act.put, List.setIfInBounds_toArray, List.set_cons_zero, List.set_cons_succ, List.getElem_toArray, List.getElem_cons_succ, List.getElem_cons_zero]
        refine wpAnyH_done (by kernel_rfl) ?_ _
      case' inr =>
        refine hK.out _ _ (AU.out.cell) (fun hSn => ?_)
        clear hK K hS
        have hS := hSn
        clear hSn
        try simp only [Act.put, List.setIfInBounds_toArray, List.set_cons_zero, List.set_cons_succ, List.getElem_toArray, List.getElem_cons_succ, List.getElem_cons_zero]
        refine wpAnyH_take (i := 4) (v := ?_) rfl (by kernel_rfl) (by kernel_rfl) (by kernel_rfl) (fun _ _ _ h => h) (Or.inl ⟨by rfl, ?_⟩) hS ?_
        rotate_left
        · intro wz hz; go_simp; try with_reducible rfl
        try simp only [Act.put, List.setIfInBounds_toArray, List.set_cons_zero, List.set_cons_succ, List.getElem_toArray, List.getElem_cons_succ, List.getElem_cons_zero]
        refine wpAnyH_done (by kernel_rfl) ?_ _
  · have hsz2 := HLT.out.size
    have HM2 : Hid (w.heap.size + 3 ≤ w2.heap.size ∧ w.heap.size + 3 ≤ M) := ⟨by have := SZ1.out; omega, by have := SZ1.out; omega⟩
    have B9 : Below w2.heap.size w2 (w2.alloc (.cells #[.int .i64 t.k, .int .i64 t.n, .slice a' t.ls.length c', .slice a t.ks.length c] TY)) := bl_alloc (Below.refl _ _) _
    have hL : TAtL (w2.alloc (.cells #[.int .i64 t.k, .int .i64 t.n, .slice a' t.ls.length c', .slice a t.ks.length c] TY)) (fun b => b < w.heap.size + 2 ∨ b = w2.heap.size) k (.slice (some ⟨w2.heap.size, 0, none⟩) [t].length 1) [t] := by
      refine .inl ⟨w2.heap.size, 0, 1, rfl, .inr rfl, Nat.le_refl _, (show 1 ≤ maxLen by decide), fun i x hx => ?_⟩
      cases i with
      | zero =>
        injection hx with hx
        subst hx
        refine ⟨_, fun j v hv => ?_, (HT.out.move (K' := fun b => b < w.heap.size + 2 ∨ b = w2.heap.size) (Keeps.refl _ _) (fun b (hb : b < w.heap.size) => .inl (by show b < _; omega))).below B9⟩
        rw [cell_at (heap_alloc_at _ _), Nat.zero_mul, Nat.add_zero, Nat.zero_add]
        simpa using hv
      | succ i => simp at hx
    have hO2 := hP2.own
    have hL1 : Tt.deepestL [t] = t.deepest := by rw [Tt.deepestL, Tt.deepestL]; omega
    have hL2 : Tt.cntL [t] = t.cnt := by rw [Tt.cntL, Tt.cntL]; omega
    have PQ := hid (put_any (fun b => b < w.heap.size + 2 ∨ b = w2.heap.size) (w.heap.size + 2) M num u (u.fv []) l (fun b hb => .inl hb) k (w2.alloc (.cells #[.int .i64 t.k, .int .i64 t.n, .slice a' t.ls.length c', .slice a t.ks.length c] TY)) own2 [] 0 0 (some ⟨w2.heap.size, 0, none⟩) 1 [t] (hP2.stays B9) (fun b hb => ⟨by rw [size_alloc]; have := HM2.out; omega, fun hq => by have := hO2 b hq; have := HM2.out; omega⟩) hL (by have := HD.out; rw [hL1]; simp; omega) (by have := HC.out; rw [hL2]; omega) (by have := HC.out; rw [hL2]; have := from_le l 0; omega))
    rw [show Tt.putL num u (u.fv []) l [t] [] 0 = ([(Tt.put num u (u.fv []) l t [] 0).1], (Tt.put num u (u.fv []) l t [] 0).2.1 || false, (Tt.put num u (u.fv []) l t [] 0).2.2) by rw [Tt.putL, Tt.putL]] at PQ
    have HPU : Hid (t.Put num u l = (Tt.put num u (u.fv []) l t [] 0).1) := if_pos hF
    generalize Tt.put num u (u.fv []) l t [] 0 = X at PQ HPU
    obtain ⟨X1, X2, X3⟩ := X
    have HO := hid hP2.own
    have HL := hid (And.intro hll hl)
    have x0 := AT.out.cell
    have PQ : Hid (Calls Tryz.prog 35 #[.pointer (some ⟨M, 0, none⟩), .slice (some ⟨w2.heap.size, 0, none⟩) 1 1] (w2.alloc (.cells #[.int .i64 t.k, .int .i64 t.n, .slice a' t.ls.length c', .slice a t.ks.length c] TY)) (Pokl (fun b => b < w.heap.size + 2 ∨ b = w2.heap.size) (w.heap.size + 2) M num u (u.fv []) l ([X1], X2 || false, X3) (w2.alloc (.cells #[.int .i64 t.k, .int .i64 t.n, .slice a' t.ls.length c', .slice a t.ks.length c] TY)) own2 [] 0 0 (Tt.cntL [t]))) := PQ
    clear hL hP2 hsz2 hll hl hM2 hO2 hL1 hL2 B9
    go_wp2_with (go_at_call 35; refine (PQ.out).mono ?_; rintro r w3 ⟨a9, c9, k3, own3, rfl, hT3, -, hE3, -⟩; obtain ⟨b9, o9, rfl, hP9⟩ := hT3.elem (i := 0) (x := X1) rfl; obtain ⟨k4, rfl⟩ := hP9.pos; obtain ⟨e', f', e, f, z0, z1, z2, z3, zk, zn, zl, zs⟩ := hP9.cells; rw [Nat.zero_mul, Nat.add_zero] at z0 z1 z2 z3; obtain ⟨-, -, -, -, hcc, -⟩ := hT3.resolve_right (fun h => by cases h.1); have AR3 : Hid (Arr w3 (w.heap.size + 2) TY _) := ⟨(hE3.block (w.heap.size + 2) (by rw [size_alloc]; have := HM2.out; omega) (fun hq => by have := (HO.out _ hq).1; have := HM2.out; omega)).trans (Arr.stays AR.out (bl_alloc (Below.refl _ _) _)).b⟩; have r0 := AR3.out.cell; have r1 := AR3.out.frozen; have HT3 : Hid (TAt w3 (Kr (fun b => b < w.heap.size + 2 ∨ b = w2.heap.size) (w2.alloc (.cells #[.int .i64 t.k, .int .i64 t.n, .slice a' t.ls.length c', .slice a t.ks.length c] TY)).heap.size own3 w3) (k4 + 1) [.int .i64 X1.k, .int .i64 X1.n, .slice e' X1.ls.length f', .slice e X1.ks.length f] X1) := ⟨_, _, rfl, zk, zn, zl, zs⟩; have HE3 := hid hE3; have hb9 := hP9.1; clear hT3 hE3 hP9 zk zn zl zs)
    have NK : Hid (∀ (w5 : World), ¬ Kr (fun b => b < w.heap.size + 2 ∨ b = w2.heap.size) (w2.alloc (.cells #[.int .i64 t.k, .int .i64 t.n, .slice a' t.ls.length c', .slice a t.ks.length c] TY)).heap.size own3 w3 (w.heap.size + 1 + 1)) := fun _ hq => by
      have := HM2.out
      have h := hq.1
      rw [size_alloc] at h
      omega
    have FA : Arr ((((w3.setCell ⟨w.heap.size + 1 + 1, 0, none⟩ (.int .i64 X1.k)).setCell ⟨w.heap.size + 1 + 1, 1, none⟩ (.int .i64 X1.n)).setCell ⟨w.heap.size + 1 + 1, 2, none⟩ (.slice e' X1.ls.length f')).setCell ⟨w.heap.size + 1 + 1, 3, none⟩ (.slice e X1.ks.length f)) (w.heap.size + 1 + 1) TY [(.int .i64 X1.k), (.int .i64 X1.n), (.slice e' X1.ls.length f'), (.slice e X1.ks.length f)] := ((((AR3.out.set 0 (.int .i64 X1.k)).set 1 (.int .i64 X1.n)).set 2 (.slice e' X1.ls.length f')).set 3 (.slice e X1.ks.length f))
    have FT : Hid (TAt ((((w3.setCell ⟨w.heap.size + 1 + 1, 0, none⟩ (.int .i64 X1.k)).setCell ⟨w.heap.size + 1 + 1, 1, none⟩ (.int .i64 X1.n)).setCell ⟨w.heap.size + 1 + 1, 2, none⟩ (.slice e' X1.ls.length f')).setCell ⟨w.heap.size + 1 + 1, 3, none⟩ (.slice e X1.ks.length f)) Any (k4 + 1) [(.int .i64 X1.k), (.int .i64 X1.n), (.slice e' X1.ls.length f'), (.slice e X1.ks.length f)] (t.Put num u l)) := by
      show TAt _ _ _ _ _
      rw [HPU.out]
      exact HT3.out.move ((((Keeps.set (p := ⟨w.heap.size + 1 + 1, 0, none⟩) (NK.out w3) (.int .i64 X1.k)).trans (Keeps.set (p := ⟨w.heap.size + 1 + 1, 1, none⟩) (NK.out w3) (.int .i64 X1.n))).trans (Keeps.set (p := ⟨w.heap.size + 1 + 1, 2, none⟩) (NK.out w3) (.slice e' X1.ls.length f'))).trans (Keeps.set (p := ⟨w.heap.size + 1 + 1, 3, none⟩) (NK.out w3) (.slice e X1.ks.length f))) (fun _ _ => trivial)
    have FB : Hid (Below w.heap.size w ((((w3.setCell ⟨w.heap.size + 1 + 1, 0, none⟩ (.int .i64 X1.k)).setCell ⟨w.heap.size + 1 + 1, 1, none⟩ (.int .i64 X1.n)).setCell ⟨w.heap.size + 1 + 1, 2, none⟩ (.slice e' X1.ls.length f')).setCell ⟨w.heap.size + 1 + 1, 3, none⟩ (.slice e X1.ks.length f))) := (bl_put (bl_put (bl_put (bl_put (HB2.out.trans ((bl_alloc (Below.refl _ _) (.cells #[.int .i64 t.k, .int .i64 t.n, .slice a' t.ls.length c', .slice a t.ks.length c] TY)).mono HB2.out.size) |>.trans (HE3.out.below (B := w.heap.size) (by rw [size_alloc]; have := HM2.out; omega) (fun b hb => by have := (HO.out b hb).1; have := HM2.out; omega))) (p := ⟨w.heap.size + 1 + 1, 0, none⟩) (.int .i64 X1.k) (by show _ ≤ w.heap.size + 1 + 1; omega)) (p := ⟨w.heap.size + 1 + 1, 1, none⟩) (.int .i64 X1.n) (by show _ ≤ w.heap.size + 1 + 1; omega)) (p := ⟨w.heap.size + 1 + 1, 2, none⟩) (.slice e' X1.ls.length f') (by show _ ≤ w.heap.size + 1 + 1; omega)) (p := ⟨w.heap.size + 1 + 1, 3, none⟩) (.slice e X1.ks.length f) (by show _ ≤ w.heap.size + 1 + 1; omega))
    have z := FA.cell
    generalize ((((w3.setCell ⟨w.heap.size + 1 + 1, 0, none⟩ (.int .i64 X1.k)).setCell ⟨w.heap.size + 1 + 1, 1, none⟩ (.int .i64 X1.n)).setCell ⟨w.heap.size + 1 + 1, 2, none⟩ (.slice e' X1.ls.length f')).setCell ⟨w.heap.size + 1 + 1, 3, none⟩ (.slice e X1.ks.length f)) = W5 at FA FT FB z ⊢
    generalize w.heap.size + 1 + 1 = R at FA z ⊢
    refine bodyPost_ret (v := .agg #[(.int .i64 X1.k), (.int .i64 X1.n), (.slice e' X1.ls.length f'), (.slice e X1.ks.length f)]) (by rw [results_cell1 (fn := Tryz.f12) (p := 6) (ty := TY) (by kernel_rfl)]; simp [go_sem, z]) rfl ?_
    exact ⟨_, _, l, rfl, FT.out, FB.out, fun _ => HL.out⟩
  · have x0 := AT.out.cell
    have r0 := AR.out.cell
    have r1 := AR.out.frozen
    go_wp2
    have FA : Arr ((((w2.setCell ⟨w.heap.size + 1 + 1, 0, none⟩ (.int .i64 t.k)).setCell ⟨w.heap.size + 1 + 1, 1, none⟩ (.int .i64 t.n)).setCell ⟨w.heap.size + 1 + 1, 2, none⟩ (.slice a' t.ls.length c')).setCell ⟨w.heap.size + 1 + 1, 3, none⟩ (.slice a t.ks.length c)) (w.heap.size + 1 + 1) TY [(.int .i64 t.k), (.int .i64 t.n), (.slice a' t.ls.length c'), (.slice a t.ks.length c)] := ((((AR.out.set 0 (.int .i64 t.k)).set 1 (.int .i64 t.n)).set 2 (.slice a' t.ls.length c')).set 3 (.slice a t.ks.length c))
    have FT : Hid (TAt ((((w2.setCell ⟨w.heap.size + 1 + 1, 0, none⟩ (.int .i64 t.k)).setCell ⟨w.heap.size + 1 + 1, 1, none⟩ (.int .i64 t.n)).setCell ⟨w.heap.size + 1 + 1, 2, none⟩ (.slice a' t.ls.length c')).setCell ⟨w.heap.size + 1 + 1, 3, none⟩ (.slice a t.ks.length c)) Any k [(.int .i64 t.k), (.int .i64 t.n), (.slice a' t.ls.length c'), (.slice a t.ks.length c)] (t.Put num u [])) := by
      have hq : t.Put num u [] = t := if_neg (by rw [hF]; simp)
      rw [hq]
      exact HT.out.move ((((Keeps.set (p := ⟨w.heap.size + 1 + 1, 0, none⟩) (by show ¬ w.heap.size + 1 + 1 < w.heap.size; omega) (.int .i64 t.k)).trans (Keeps.set (p := ⟨w.heap.size + 1 + 1, 1, none⟩) (by show ¬ w.heap.size + 1 + 1 < w.heap.size; omega) (.int .i64 t.n))).trans (Keeps.set (p := ⟨w.heap.size + 1 + 1, 2, none⟩) (by show ¬ w.heap.size + 1 + 1 < w.heap.size; omega) (.slice a' t.ls.length c'))).trans (Keeps.set (p := ⟨w.heap.size + 1 + 1, 3, none⟩) (by show ¬ w.heap.size + 1 + 1 < w.heap.size; omega) (.slice a t.ks.length c))) (fun _ _ => trivial)
    have FB : Hid (Below w.heap.size w ((((w2.setCell ⟨w.heap.size + 1 + 1, 0, none⟩ (.int .i64 t.k)).setCell ⟨w.heap.size + 1 + 1, 1, none⟩ (.int .i64 t.n)).setCell ⟨w.heap.size + 1 + 1, 2, none⟩ (.slice a' t.ls.length c')).setCell ⟨w.heap.size + 1 + 1, 3, none⟩ (.slice a t.ks.length c))) := (bl_put (bl_put (bl_put (bl_put HB2.out (p := ⟨w.heap.size + 1 + 1, 0, none⟩) (.int .i64 t.k) (by show _ ≤ w.heap.size + 1 + 1; omega)) (p := ⟨w.heap.size + 1 + 1, 1, none⟩) (.int .i64 t.n) (by show _ ≤ w.heap.size + 1 + 1; omega)) (p := ⟨w.heap.size + 1 + 1, 2, none⟩) (.slice a' t.ls.length c') (by show _ ≤ w.heap.size + 1 + 1; omega)) (p := ⟨w.heap.size + 1 + 1, 3, none⟩) (.slice a t.ks.length c) (by show _ ≤ w.heap.size + 1 + 1; omega))
    have z := FA.cell
    generalize ((((w2.setCell ⟨w.heap.size + 1 + 1, 0, none⟩ (.int .i64 t.k)).setCell ⟨w.heap.size + 1 + 1, 1, none⟩ (.int .i64 t.n)).setCell ⟨w.heap.size + 1 + 1, 2, none⟩ (.slice a' t.ls.length c')).setCell ⟨w.heap.size + 1 + 1, 3, none⟩ (.slice a t.ks.length c)) = W5 at FA FT FB z ⊢
    generalize w.heap.size + 1 + 1 = R at FA z ⊢
    refine bodyPost_ret (v := .agg #[(.int .i64 t.k), (.int .i64 t.n), (.slice a' t.ls.length c'), (.slice a t.ks.length c)]) (by rw [results_cell1 (fn := Tryz.f12) (p := 6) (ty := TY) (by kernel_rfl)]; simp [go_sem, z]) rfl ?_
    exact ⟨_, _, [], rfl, FT.out, FB.out, fun h => by rw [hF] at h; cases h⟩
theorem Put_any (w : World) (k k2 : Nat) (us vs : List Value) (t u : Tt) (num : Int) (hnum : R64 num) (h : TAt w Any k us t) (hu : TAt w Any k2 vs u) (hc : t.cnt ≤ 1048576) (hc2 : u.cnt ≤ 1048576) :
    Calls Tryz.prog 12 #[.agg us.toArray, .int .i64 num, .agg vs.toArray] w fun r w' => ∃ xs k' l, r = .returned (.agg xs.toArray) ∧ TAt w' Any k' xs (t.Put num u l) ∧ Below w.heap.size w w' ∧ (t.fv [] num = true → l.length ≤ 1152921504606846976 ∧ ∀ x, decide (x ∈ l) = (t.av x || u.fv [] x)) := Put_big w k k2 us vs t u num hnum h hu (by have := Tt.deepest_le t; omega) (by omega) hc2
end Go.Proofs.YtigliglmejkakaaGreat.Tgt
