/- The document's put: the walk. -/
import Derived.Test.YthijckdhndbdoaaTpPu
namespace Go.Proofs.Ythijckdhndbdoaa
open Go.RowKit
set_option linter.unusedVariables false
set_option linter.unusedSimpArgs false

def PutOf (kind : Int) (fv tv : Value) (fr : List Int) (to : List Tp) (m B0 n : Nat) : Prop := ∀ (w : World) (vs : List Value) (t : Tp), TAt w Any n vs t → Ls w Any fv fr → TAtL w (fun b => b < B0) m tv to → B0 ≤ w.heap.size → (Tp.put kind fr to t).cnt ≤ 1000 →
  Calls Try.prog 62 #[.agg vs.toArray, .int .i64 kind, fv, tv] w fun e w' => ∃ vs' n', e = .returned (.agg vs'.toArray) ∧ TAt w' (fun b => b < B0 ∨ w.heap.size ≤ b) n' vs' (Tp.put kind fr to t) ∧ Below w.heap.size w w'

theorem addr_add0 (b j : Nat) : Addr.add ⟨b, 0, none⟩ j = ⟨b, j, none⟩ := by unfold Addr.add; split <;> simp_all
theorem Pst.start (w : World) (B0 : Nat) (t : Tp) (pm : Tp → Tp) (v : Value) : Pst w B0 t pm v 0 0 (.slice none 0 0) [] (((w.alloc (.cells #[.int .i64 t.k, .int .i64 t.n, v] 24)).alloc (.cells #[.int .i64 0, .int .i64 0, .slice none 0 0] 24)).alloc (.cells #[.int .i64 t.k, .int .i64 t.n, .slice none 0 0] 24)) := by
  have e1 : Arr (w.alloc (.cells #[.int .i64 t.k, .int .i64 t.n, v] 24)) w.heap.size 24 [.int .i64 t.k, .int .i64 t.n, v] := ⟨heap_alloc_at _ _⟩
  have e2 : Arr ((w.alloc (.cells #[.int .i64 t.k, .int .i64 t.n, v] 24)).alloc (.cells #[.int .i64 0, .int .i64 0, .slice none 0 0] 24)) (w.heap.size + 1) 24 [.int .i64 0, .int .i64 0, .slice none 0 0] := ⟨by have := heap_alloc_at (w.alloc (.cells #[.int .i64 t.k, .int .i64 t.n, v] 24)) (.cells #[.int .i64 0, .int .i64 0, .slice none 0 0] 24); rw [size_alloc] at this; exact this⟩
  refine ⟨bl_alloc (bl_alloc (bl_alloc (Below.refl _ _) _) _) _, by simp, (e1.stays (bl_alloc (Below.refl _ _) _)).stays (bl_alloc (Below.refl _ _) _), e2.stays (bl_alloc (Below.refl _ _) _), ⟨?_⟩, World.ownsRow_nil _ _ _ _, fun i x hi => absurd hi (Nat.not_lt_zero _)⟩
  have := heap_alloc_at ((w.alloc (.cells #[.int .i64 t.k, .int .i64 t.n, v] 24)).alloc (.cells #[.int .i64 0, .int .i64 0, .slice none 0 0] 24)) (.cells #[.int .i64 t.k, .int .i64 t.n, .slice none 0 0] 24)
  rw [size_alloc, size_alloc] at this
  exact this
theorem Pst.mid {w : World} {B0 : Nat} {t : Tp} {pm : Tp → Tp} {v : Value} {k N : Nat} {ov : Value} {xs : List Value} {w1 w2 : World} (h : Pst w B0 t pm v k N ov xs w1) (hg : w1.grownBy w2 ov.ownBlock) : (Below w.heap.size w w2 ∧ Arr w2 w.heap.size 24 [.int .i64 t.k, .int .i64 t.n, v]) ∧ Arr w2 (w.heap.size + 2) 24 [.int .i64 t.k, .int .i64 t.n, ov] := by
  have hrow : ∀ b, ov.ownBlock = some b → w.heap.size + 3 ≤ b := fun b hb => (h.own.lt b hb).1
  have ne : ∀ b, b < w.heap.size + 3 → some b ≠ ov.ownBlock := fun b hb e => by have := hrow b e.symm; omega
  exact ⟨⟨h.bl.grown hg (by have := h.sz; omega) (fun b hb => by have := hrow b hb; omega), h.tb.grown hg (ne _ (by omega))⟩, h.ob.grown hg (ne _ (by omega))⟩
theorem Pst.kp {w : World} {B0 : Nat} {t : Tp} {pm : Tp → Tp} {v : Value} {k N : Nat} {ov : Value} {xs : List Value} {w1 w2 : World} (h : Pst w B0 t pm v k N ov xs w1) (hB : B0 ≤ w.heap.size) {n' : Nat} {vs : List Value} {y : Tp} (hT : TAt w2 (fun b => b < B0 ∨ w1.heap.size ≤ b) n' vs y) : TAt w2 (Kp B0 w.heap.size ov) n' vs y := by
  refine hT.move (Keeps.refl _ _) (fun b hb => ⟨?_, fun e => ?_⟩)
  · rcases hb with hb | hb
    · exact .inl hb
    · exact .inr (by have := h.sz; omega)
  · have h1 := h.own.lt b e
    rcases hb with hb | hb <;> omega

set_option maxHeartbeats 4000000 in
set_option maxRecDepth 100000 in
theorem put_step (kind : Int) (fv tv : Value) (fr : List Int) (to : List Tp) (hlen : fr.length = to.length) (m B0 n : Nat) (ih : PutOf kind fv tv fr to m B0 n) : PutOf kind fv tv fr to m B0 (n + 1) := by
  intro w vs t hT hf ht hB hcnt
  have HLN : Hid (fr.length = to.length) := hlen
  clear hlen
  obtain ⟨v, rfl, hk64, hn64, hL⟩ := hT.open_
  obtain ⟨a1, c1, rfl, hm⟩ := hL.form
  unfold maxLen at hm
  have H64 : Hid (R64 t.k ∧ R64 t.n) := ⟨hk64, hn64⟩
  have HF : Hid (Ls w Any fv fr) := hf
  have HTo : Hid (TAtL w (fun b => b < B0) m tv to) := ht
  have HL : Hid (TAtL w Any n (.slice a1 t.ks.length c1) t.ks) := hL
  have hpl : Hid (∀ wz, Below w.heap.size w wz → Calls Try.prog 77 #[fv, .int .i64 t.n] wz fun e w' => e = .returned (.int .i64 (Tp.idx t.n fr 0)) ∧ w' = wz) := fun wz hz => place_any wz fv fr t.n (HF.out.below hz)
  obtain ⟨fa, fc, rfl, -⟩ := hf.form
  obtain ⟨ta, tc, rfl, htm⟩ := ht.form
  unfold maxLen at htm
  have XB : Hid (Below w.heap.size w ((w.alloc (.cells #[.int .i64 t.k, .int .i64 t.n, .slice a1 t.ks.length c1] 24)).alloc (.cells #[.int .i64 0, .int .i64 0, .slice none 0 0] 24))) := bl_alloc (bl_alloc (Below.refl _ _) _) _
  clear hT hL hf ht hk64 hn64
  cases hb : Tp.by kind fr to t.k t.n with
  | some u =>
    rw [Tp.put_some hb]
    obtain ⟨hk, i, hi, hu⟩ := Tp.by_some hb
    rw [hi] at hpl
    have hil : i < to.length := (List.getElem?_eq_some_iff.1 hu).1
    obtain ⟨tb, to', rfl⟩ : ∃ b o, ta = some ⟨b, o, none⟩ := by
      rcases HTo.out with ⟨b, o, c, hv, -⟩ | ⟨h0, -⟩
      · injection hv with e1 e2 e3; exact ⟨b, o, e1⟩
      · rw [h0] at hil; exact absurd hil (Nat.not_lt_zero _)
    obtain ⟨vu, tu, q0, q1, q2, hbB, hbw⟩ := HTo.out.elem hu
    obtain ⟨ax, cx, ex⟩ := tu.form
    simp only [List.cons.injEq, and_true, true_and] at ex
    subst ex
    have HTu : Hid (TAt w (fun b => b < B0) m _ u) := tu
    have u0 := (XB.out.cell (p := ⟨tb, to' + i * 3, none⟩) hbw).trans q0
    have u1 := (XB.out.cell (p := ⟨tb, to' + i * 3 + 1, none⟩) hbw).trans q1
    have u2 := (XB.out.cell (p := ⟨tb, to' + i * 3 + 2, none⟩) hbw).trans q2
    have hk2 : (t.k == kind) = true := by rw [beq_iff_eq]; exact hk
    have hne : ¬ tb = w.heap.size + 1 := by omega
    clear hb hk hi hu tu ih HL hcnt q0 q1 q2
    go_enter Try.func62, Try.ntmps62
    go_wp2_with (first | (go_at_call 77; refine (hpl.out _ XB.out).mono ?_; rintro e w2 ⟨rfl, hw⟩; rw [hw]; clear hw w2))
    refine bodyPost_ret (v := .agg #[.int .i64 u.k, .int .i64 u.n, .slice ax u.ks.length cx]) (by rw [results_cell1 (fn := Try.f62) (p := 8) (ty := 24) (by kernel_rfl)]; simp [go_sem]) rfl ?_
    go_show
    exact ⟨[_, _, _], m, rfl, (HTu.out.below (bl_alloc (bl_alloc (Below.refl _ _) _) _)).move (Keeps.refl _ _) (fun b h => .inl h), bl_alloc (bl_alloc (Below.refl _ _) _) _⟩
  | none =>
    have hbn := Tp.by_none HLN.out hb
    have HCN : Hid (Tp.cntL (t.ks.map (Tp.put kind fr to)) + 1 ≤ 1000) := by show _ ≤ _; rw [Tp.put_none hb, Tp.cnt] at hcnt; exact hcnt
    have hkl : t.ks.length ≤ 1000 := by have h1 := Tp.cntL_len (t.ks.map (Tp.put kind fr to)); rw [List.length_map] at h1; have := HCN.out; omega
    rw [Tp.put_none hb]
    have HB0 : Hid (B0 ≤ w.heap.size) := hB
    have X : Hid (Pst w B0 t (Tp.put kind fr to) (.slice a1 t.ks.length c1) 0 0 (.slice none 0 0) [] (((w.alloc (.cells #[.int .i64 t.k, .int .i64 t.n, .slice a1 t.ks.length c1] 24)).alloc (.cells #[.int .i64 0, .int .i64 0, .slice none 0 0] 24)).alloc (.cells #[.int .i64 t.k, .int .i64 t.n, .slice none 0 0] 24))) := Pst.start _ _ _ _ _
    obtain ⟨i0, hi0, hz0, hz1, hz2⟩ := info_parts0 info_clT
    clear hb hcnt
    go_enter Try.func62, Try.ntmps62
    rcases hbn with hk | ⟨hk, hi⟩
    · have hk2 : (t.k == kind) = false := by rw [beq_eq_false_iff_ne]; exact hk
      clear hk hpl XB hB
      go_wp2
      generalize (((w.alloc (.cells #[.int .i64 t.k, .int .i64 t.n, .slice a1 t.ks.length c1] 24)).alloc (.cells #[.int .i64 0, .int .i64 0, .slice none 0 0] 24)).alloc (.cells #[.int .i64 t.k, .int .i64 t.n, .slice none 0 0] 24)) = W1 at X ⊢
      go_loopw [11] (fun v wr => ∃ (k N : Nat) (ov : Value) (xs : List Value), v = .int .i64 k ∧ k ≤ t.ks.length ∧ Pst w B0 t (Tp.put kind fr to) (.slice a1 t.ks.length c1) k N ov xs wr) (fun v _ => t.ks.length - (intOf v).toNat)
      case atStart => exact ⟨0, 0, _, _, rfl, Nat.zero_le _, X.out⟩
      case round =>
        obtain ⟨k, N, ov, xs, rfl, hk, hP0⟩ := hrel
        clear X
        obtain ⟨ap, cp, rfl⟩ := own_form hP0.own
        have p0 := hP0.tb.cell
        by_cases hlt : k < t.ks.length
        · skip
          obtain ⟨g, o, rfl⟩ : ∃ b o, a1 = some ⟨b, o, none⟩ := by
            rcases HL.out with ⟨b, o, c, hv, -⟩ | ⟨h0, -⟩
            · injection hv with e1 e2 e3; exact ⟨b, o, e1⟩
            · rw [h0] at hlt; exact absurd hlt (Nat.not_lt_zero _)
          obtain ⟨x, hxk⟩ : ∃ x, t.ks[k]? = some x := ⟨_, List.getElem?_eq_getElem hlt⟩
          have HX : Hid (t.ks[k]? = some x) := hxk
          obtain ⟨vx, tx, u0, u1, u2, -, hgl⟩ := HL.out.elem hxk
          obtain ⟨ax, cx, ex⟩ := tx.form
          simp only [List.cons.injEq, and_true, true_and] at ex
          subst ex
          have hcx : (Tp.put kind fr to x).cnt ≤ 1000 := by have h1 := Tp.cnt_le_cntL (List.mem_map.2 ⟨x, List.mem_of_getElem? hxk, rfl⟩ : (Tp.put kind fr to x) ∈ t.ks.map (Tp.put kind fr to)); have := HCN.out; omega
          have HQ : Hid (∀ wz, w.heap.size ≤ wz.heap.size → Below w.heap.size w wz → Calls Try.prog 62 #[.agg #[.int .i64 x.k, .int .i64 x.n, .slice ax x.ks.length cx], .int .i64 kind, .slice fa fr.length fc, .slice ta to.length tc] wz fun e w' => ∃ vs' n', e = .returned (.agg vs'.toArray) ∧ TAt w' (fun b => b < B0 ∨ wz.heap.size ≤ b) n' vs' (Tp.put kind fr to x) ∧ Below wz.heap.size wz w') := fun wz h1 hz => ih wz _ x (tx.below hz) (HF.out.below hz) (HTo.out.below hz) (Nat.le_trans HB0.out h1) hcx
          have hP : Hid (Pst w B0 t (Tp.put kind fr to) (.slice (some ⟨g, o, none⟩) t.ks.length c1) k N (.slice ap k cp) xs wr.drew) := hP0.stays (Below.refl _ _).drew
          have U : Hid (w.cell? ⟨g, o + k * 3, none⟩ = some (.int .i64 x.k) ∧ w.cell? ⟨g, o + k * 3 + 1, none⟩ = some (.int .i64 x.n) ∧ w.cell? ⟨g, o + k * 3 + 2, none⟩ = some (.slice ax x.ks.length cx) ∧ g < w.heap.size) := ⟨u0, u1, u2, hgl⟩
          clear hxk tx ih HL hP0 HF HTo u0 u1 u2 hcx hgl
          go_wp2
          refine wp_region_held_drew (S := fun wz => Below w.heap.size w wz ∧ Arr wz w.heap.size 24 [.int .i64 t.k, .int .i64 t.n, .slice (some ⟨g, o, none⟩) t.ks.length c1]) (by kernel_rfl) ⟨hP.out.bl, hP.out.tb⟩ (fun hS => ?_)
          generalize wr.drew = W0 at hP hS ⊢
          clear p0
          refine wpAnyH_take (i := 0) (v := ?_) rfl (by kernel_rfl) (by kernel_rfl) (by kernel_rfl) (fun _ _ _ h => h) (Or.inl ⟨by rfl, ?_⟩) hS ?_
          rotate_left
          · intro wz hz; go_simp; try with_reducible rfl
          try simp only [Act.put, List.setIfInBounds_toArray, List.set_cons_zero, List.set_cons_succ, List.getElem_toArray, List.getElem_cons_succ, List.getElem_cons_zero]
          refine wpAnyH_take (i := 2) (v := ?_) rfl (by kernel_rfl) (by kernel_rfl) (by kernel_rfl) (fun _ _ _ h => h) (Or.inl ⟨by rfl, ?_⟩) hS ?_
          rotate_left
          · intro wz hz; go_simp; try with_reducible rfl
          try simp only [Act.put, List.setIfInBounds_toArray, List.set_cons_zero, List.set_cons_succ, List.getElem_toArray, List.getElem_cons_succ, List.getElem_cons_zero]
          refine wpAnyH_take (i := 3) (v := ?_) rfl (by kernel_rfl) (by kernel_rfl) (by kernel_rfl) (fun _ _ _ h => h) (Or.inl ⟨by rfl, ?_⟩) hS ?_
          rotate_left
          · intro wz hz; have z0 := hz.2.cell 2; simp only [List.getElem?_cons_succ, List.getElem?_cons_zero] at z0; go_simp; try with_reducible rfl
          try simp only [Act.put, List.setIfInBounds_toArray, List.set_cons_zero, List.set_cons_succ, List.getElem_toArray, List.getElem_cons_succ, List.getElem_cons_zero]
          refine wpAnyH_take (i := 4) (v := ?_) rfl (by kernel_rfl) (by kernel_rfl) (by kernel_rfl) (fun _ _ _ h => h) (Or.inl ⟨by rfl, ?_⟩) hS ?_
          rotate_left
          · intro wz hz; go_simp; try with_reducible rfl
          try simp only [Act.put, List.setIfInBounds_toArray, List.set_cons_zero, List.set_cons_succ, List.getElem_toArray, List.getElem_cons_succ, List.getElem_cons_zero]
          refine wpAnyH_take (i := 5) (v := ?_) rfl (by kernel_rfl) (by kernel_rfl) (by kernel_rfl) (fun _ _ _ h => h) (Or.inl ⟨by rfl, ?_⟩) hS ?_
          rotate_left
          · intro wz hz; go_simp; try with_reducible rfl
          try simp only [Act.put, List.setIfInBounds_toArray, List.set_cons_zero, List.set_cons_succ, List.getElem_toArray, List.getElem_cons_succ, List.getElem_cons_zero]
          refine wpAnyH_take (i := 6) (v := ?_) rfl (by kernel_rfl) (by kernel_rfl) (by kernel_rfl) (fun _ _ _ h => h) (Or.inl ⟨by rfl, ?_⟩) hS ?_
          rotate_left
          · intro wz hz; obtain ⟨q0, q1, q2, qg⟩ := U.out; have z0 := (hz.1.cell (p := ⟨g, o + k * 3, none⟩) qg).trans q0; have z1 := (hz.1.cell (p := ⟨g, o + k * 3 + 1, none⟩) qg).trans q1; have z2 := (hz.1.cell (p := ⟨g, o + k * 3 + 2, none⟩) qg).trans q2; clear q0 q1 q2; go_simp; try with_reducible rfl
          try simp only [Act.put, List.setIfInBounds_toArray, List.set_cons_zero, List.set_cons_succ, List.getElem_toArray, List.getElem_cons_succ, List.getElem_cons_zero]
          refine wpAnyH_take (i := 7) (v := ?_) rfl (by kernel_rfl) (by kernel_rfl) (by kernel_rfl) (fun _ _ _ h => h) (Or.inl ⟨by rfl, ?_⟩) hS ?_
          rotate_left
          · intro wz hz; go_simp; try with_reducible rfl
          try simp only [Act.put, List.setIfInBounds_toArray, List.set_cons_zero, List.set_cons_succ, List.getElem_toArray, List.getElem_cons_succ, List.getElem_cons_zero]
          refine wpAnyH_take (i := 8) (v := ?_) rfl (by kernel_rfl) (by kernel_rfl) (by kernel_rfl) (fun _ _ _ h => h) (Or.inl ⟨by rfl, ?_⟩) hS ?_
          rotate_left
          · intro wz hz; go_simp; try with_reducible rfl
          try simp only [Act.put, List.setIfInBounds_toArray, List.set_cons_zero, List.set_cons_succ, List.getElem_toArray, List.getElem_cons_succ, List.getElem_cons_zero]
          refine wpAnyH_take (i := 9) (v := ?_) rfl (by kernel_rfl) (by kernel_rfl) (by kernel_rfl) (fun _ _ _ h => h) (Or.inl ⟨by rfl, ?_⟩) hS ?_
          rotate_left
          · intro wz hz; go_simp; try with_reducible rfl
          try simp only [Act.put, List.setIfInBounds_toArray, List.set_cons_zero, List.set_cons_succ, List.getElem_toArray, List.getElem_cons_succ, List.getElem_cons_zero]
          clear U
          refine wpAnyH_ready (rs := [1, 10]) (by kernel_rfl) (by simp) (AllReadyH.cons rfl (fun K hK => ?_) (AllReadyH.cons rfl (fun K hK => ?_) AllReadyH.nil))
          · skip
            have l0 := hP.out.ob.cell 2
            simp only [List.getElem?_cons_succ, List.getElem?_cons_zero] at l0
            go_simp
            refine hK.out _ _ hS (fun _ => ?_)
            clear hK K l0
            try simp only [Act.put, List.setIfInBounds_toArray, List.set_cons_zero, List.set_cons_succ, List.getElem_toArray, List.getElem_cons_succ, List.getElem_cons_zero]
            refine wpAnyH_ready (rs := [10]) (by kernel_rfl) (by simp) (AllReadyH.cons rfl (fun K hK => ?_) AllReadyH.nil)
            · skip
              go_simp
              refine (HQ.out _ hP.out.bl.size hP.out.bl).mono ?_
              rintro e w3 ⟨vs', n', rfl, hT3, hb3⟩
              obtain ⟨a5, c5, rfl⟩ := hT3.form
              have hTy : Hid (TAt w3 (Kp B0 w.heap.size (.slice ap k cp)) n' _ _) := hP.out.kp HB0.out hT3
              have hP3 : Hid (Pst w B0 t (Tp.put kind fr to) (.slice (some ⟨g, o, none⟩) t.ks.length c1) k N (.slice ap k cp) xs w3) := hP.out.stays hb3
              clear hT3 hb3 hP
              have hP := hP3
              clear hP3
              refine hK.out _ _ ⟨hP.out.bl, hP.out.tb⟩ (fun hS3 => ?_)
              clear hK K hS
              have hS := hS3
              clear hS3
              try simp only [Act.put, List.setIfInBounds_toArray, List.set_cons_zero, List.set_cons_succ, List.getElem_toArray, List.getElem_cons_succ, List.getElem_cons_zero]
              refine wpAnyH_ready (rs := [11]) (by kernel_rfl) (by simp) (AllReadyH.cons rfl (fun K hK => ?_) AllReadyH.nil)
              · skip
                go_simp
                have hP4 : Hid (Pst w B0 t (Tp.put kind fr to) (.slice (some ⟨g, o, none⟩) t.ks.length c1) k N (.slice ap k cp) xs (w3.alloc (.cells #[.int .i64 (Tp.put kind fr to x).k, .int .i64 (Tp.put kind fr to x).n, .slice a5 (Tp.put kind fr to x).ks.length c5] 24))) := hP.out.stays (bl_alloc (Below.refl _ _) _)
                have hT4 : Hid (TAt (w3.alloc (.cells #[.int .i64 (Tp.put kind fr to x).k, .int .i64 (Tp.put kind fr to x).n, .slice a5 (Tp.put kind fr to x).ks.length c5] 24)) (Kp B0 w.heap.size (.slice ap k cp)) n' _ _) := hTy.out.below (bl_alloc (Below.refl _ _) _)
                have hY : Hid (∀ (j : Nat) u, ([.int .i64 (Tp.put kind fr to x).k, .int .i64 (Tp.put kind fr to x).n, .slice a5 (Tp.put kind fr to x).ks.length c5] : List Value)[j]? = some u → (w3.alloc (.cells #[.int .i64 (Tp.put kind fr to x).k, .int .i64 (Tp.put kind fr to x).n, .slice a5 (Tp.put kind fr to x).ks.length c5] 24)).cell? (Addr.add ⟨w3.heap.size, 0, none⟩ j) = some u) := fun j u hu => by rw [addr_add0, cell_at (heap_alloc_at _ _)]; simpa using hu
                clear hP hTy
                have hP := hP4
                have hTy := hT4
                clear hP4 hT4
                refine hK.out _ _ ⟨hP.out.bl, hP.out.tb⟩ (fun hS3 => ?_)
                clear hK K hS
                have hS := hS3
                clear hS3
                try simp only [Act.put, List.setIfInBounds_toArray, List.set_cons_zero, List.set_cons_succ, List.getElem_toArray, List.getElem_cons_succ, List.getElem_cons_zero]
                refine wpAnyH_ready (rs := [12]) (by kernel_rfl) (by simp) (AllReadyH.cons rfl (fun K hK => ?_) AllReadyH.nil)
                refine step_append2 rfl (.tmp 39) (.tmp 49) 22 rfl (w.heap.size + 3) 24 i0 (.agg #[.int .i64 0, .int .i64 0, .slice none 0 0]) 3 40 Try.underlying22 hi0 hz0 hz1 hz2 rfl (by decide) _ k xs rfl hP.out.own ⟨w3.heap.size, 0, none⟩ 1 1 [.int .i64 (Tp.put kind fr to x).k, .int .i64 (Tp.put kind fr to x).n, .slice a5 (Tp.put kind fr to x).ks.length c5] rfl rfl hY.out (by simp [Value.oneCell']) (by unfold maxLen; omega) (by omega) hP.out.sz ?_
                intro v' w9 hown' hgrow hfresh
                obtain ⟨va, vc, rfl⟩ := own_form hown'
                have hM := hP.out.mid hgrow
                have hZ : Hid (Pst _ _ _ _ _ _ _ _ _ _) := hP.out.app hlt HX.out hTy.out HB0.out hown' hgrow hfresh
                clear hown' hgrow hfresh hP hTy hY
                refine hK.out _ _ hM.1 (fun hS => ?_)
                clear hK K
                try simp only [Act.put, List.setIfInBounds_toArray, List.set_cons_zero, List.set_cons_succ, List.getElem_toArray, List.getElem_cons_succ, List.getElem_cons_zero]
                refine wpAnyH_take (i := 13) (v := ?_) rfl (by kernel_rfl) (by kernel_rfl) (by kernel_rfl) (fun _ _ _ h => h) (Or.inl ⟨by rfl, ?_⟩) hS ?_
                rotate_left
                · intro wz hz; go_simp; try with_reducible rfl
                try simp only [Act.put, List.setIfInBounds_toArray, List.set_cons_zero, List.set_cons_succ, List.getElem_toArray, List.getElem_cons_succ, List.getElem_cons_zero]
                refine wpAnyH_ready (rs := [14]) (by kernel_rfl) (by simp) (AllReadyH.cons rfl (fun K hK => ?_) AllReadyH.nil)
                have m0 := hM.2.cell 2
                have m1 := hM.2.frozen 2
                simp only [List.getElem?_cons_succ, List.getElem?_cons_zero] at m0
                go_simp
                refine hK.out _ _ ⟨hZ.out.bl, hZ.out.tb⟩ (fun _ => ?_)
                clear hK K hM m0 m1 hS
                try simp only [Act.put, List.setIfInBounds_toArray, List.set_cons_zero, List.set_cons_succ, List.getElem_toArray, List.getElem_cons_succ, List.getElem_cons_zero]
                refine wpAnyH_done (by kernel_rfl) ?_ _
                go_wp2
                go_roundw
                case rel => exact ⟨k + 1, _, _, _, by go_num, by omega, hZ.out⟩
                case measure => simp [intOf]; omega
          · skip
            go_simp
            refine (HQ.out _ hP.out.bl.size hP.out.bl).mono ?_
            rintro e w3 ⟨vs', n', rfl, hT3, hb3⟩
            obtain ⟨a5, c5, rfl⟩ := hT3.form
            have hTy : Hid (TAt w3 (Kp B0 w.heap.size (.slice ap k cp)) n' _ _) := hP.out.kp HB0.out hT3
            have hP3 : Hid (Pst w B0 t (Tp.put kind fr to) (.slice (some ⟨g, o, none⟩) t.ks.length c1) k N (.slice ap k cp) xs w3) := hP.out.stays hb3
            clear hT3 hb3 hP
            have hP := hP3
            clear hP3
            refine hK.out _ _ ⟨hP.out.bl, hP.out.tb⟩ (fun hS3 => ?_)
            clear hK K hS
            have hS := hS3
            clear hS3
            try simp only [Act.put, List.setIfInBounds_toArray, List.set_cons_zero, List.set_cons_succ, List.getElem_toArray, List.getElem_cons_succ, List.getElem_cons_zero]
            refine wpAnyH_ready (rs := [1, 11]) (by kernel_rfl) (by simp) (AllReadyH.cons rfl (fun K hK => ?_) (AllReadyH.cons rfl (fun K hK => ?_) AllReadyH.nil))
            · skip
              have l0 := hP.out.ob.cell 2
              simp only [List.getElem?_cons_succ, List.getElem?_cons_zero] at l0
              go_simp
              refine hK.out _ _ hS (fun _ => ?_)
              clear hK K l0
              try simp only [Act.put, List.setIfInBounds_toArray, List.set_cons_zero, List.set_cons_succ, List.getElem_toArray, List.getElem_cons_succ, List.getElem_cons_zero]
              refine wpAnyH_ready (rs := [11]) (by kernel_rfl) (by simp) (AllReadyH.cons rfl (fun K hK => ?_) AllReadyH.nil)
              · skip
                go_simp
                have hP4 : Hid (Pst w B0 t (Tp.put kind fr to) (.slice (some ⟨g, o, none⟩) t.ks.length c1) k N (.slice ap k cp) xs (w3.alloc (.cells #[.int .i64 (Tp.put kind fr to x).k, .int .i64 (Tp.put kind fr to x).n, .slice a5 (Tp.put kind fr to x).ks.length c5] 24))) := hP.out.stays (bl_alloc (Below.refl _ _) _)
                have hT4 : Hid (TAt (w3.alloc (.cells #[.int .i64 (Tp.put kind fr to x).k, .int .i64 (Tp.put kind fr to x).n, .slice a5 (Tp.put kind fr to x).ks.length c5] 24)) (Kp B0 w.heap.size (.slice ap k cp)) n' _ _) := hTy.out.below (bl_alloc (Below.refl _ _) _)
                have hY : Hid (∀ (j : Nat) u, ([.int .i64 (Tp.put kind fr to x).k, .int .i64 (Tp.put kind fr to x).n, .slice a5 (Tp.put kind fr to x).ks.length c5] : List Value)[j]? = some u → (w3.alloc (.cells #[.int .i64 (Tp.put kind fr to x).k, .int .i64 (Tp.put kind fr to x).n, .slice a5 (Tp.put kind fr to x).ks.length c5] 24)).cell? (Addr.add ⟨w3.heap.size, 0, none⟩ j) = some u) := fun j u hu => by rw [addr_add0, cell_at (heap_alloc_at _ _)]; simpa using hu
                clear hP hTy
                have hP := hP4
                have hTy := hT4
                clear hP4 hT4
                refine hK.out _ _ ⟨hP.out.bl, hP.out.tb⟩ (fun hS3 => ?_)
                clear hK K hS
                have hS := hS3
                clear hS3
                try simp only [Act.put, List.setIfInBounds_toArray, List.set_cons_zero, List.set_cons_succ, List.getElem_toArray, List.getElem_cons_succ, List.getElem_cons_zero]
                refine wpAnyH_ready (rs := [12]) (by kernel_rfl) (by simp) (AllReadyH.cons rfl (fun K hK => ?_) AllReadyH.nil)
                refine step_append2 rfl (.tmp 39) (.tmp 49) 22 rfl (w.heap.size + 3) 24 i0 (.agg #[.int .i64 0, .int .i64 0, .slice none 0 0]) 3 40 Try.underlying22 hi0 hz0 hz1 hz2 rfl (by decide) _ k xs rfl hP.out.own ⟨w3.heap.size, 0, none⟩ 1 1 [.int .i64 (Tp.put kind fr to x).k, .int .i64 (Tp.put kind fr to x).n, .slice a5 (Tp.put kind fr to x).ks.length c5] rfl rfl hY.out (by simp [Value.oneCell']) (by unfold maxLen; omega) (by omega) hP.out.sz ?_
                intro v' w9 hown' hgrow hfresh
                obtain ⟨va, vc, rfl⟩ := own_form hown'
                have hM := hP.out.mid hgrow
                have hZ : Hid (Pst _ _ _ _ _ _ _ _ _ _) := hP.out.app hlt HX.out hTy.out HB0.out hown' hgrow hfresh
                clear hown' hgrow hfresh hP hTy hY
                refine hK.out _ _ hM.1 (fun hS => ?_)
                clear hK K
                try simp only [Act.put, List.setIfInBounds_toArray, List.set_cons_zero, List.set_cons_succ, List.getElem_toArray, List.getElem_cons_succ, List.getElem_cons_zero]
                refine wpAnyH_take (i := 13) (v := ?_) rfl (by kernel_rfl) (by kernel_rfl) (by kernel_rfl) (fun _ _ _ h => h) (Or.inl ⟨by rfl, ?_⟩) hS ?_
                rotate_left
                · intro wz hz; go_simp; try with_reducible rfl
                try simp only [Act.put, List.setIfInBounds_toArray, List.set_cons_zero, List.set_cons_succ, List.getElem_toArray, List.getElem_cons_succ, List.getElem_cons_zero]
                refine wpAnyH_ready (rs := [14]) (by kernel_rfl) (by simp) (AllReadyH.cons rfl (fun K hK => ?_) AllReadyH.nil)
                have m0 := hM.2.cell 2
                have m1 := hM.2.frozen 2
                simp only [List.getElem?_cons_succ, List.getElem?_cons_zero] at m0
                go_simp
                refine hK.out _ _ ⟨hZ.out.bl, hZ.out.tb⟩ (fun _ => ?_)
                clear hK K hM m0 m1 hS
                try simp only [Act.put, List.setIfInBounds_toArray, List.set_cons_zero, List.set_cons_succ, List.getElem_toArray, List.getElem_cons_succ, List.getElem_cons_zero]
                refine wpAnyH_done (by kernel_rfl) ?_ _
                go_wp2
                go_roundw
                case rel => exact ⟨k + 1, _, _, _, by go_num, by omega, hZ.out⟩
                case measure => simp [intOf]; omega
            · skip
              go_simp
              have hP4 : Hid (Pst w B0 t (Tp.put kind fr to) (.slice (some ⟨g, o, none⟩) t.ks.length c1) k N (.slice ap k cp) xs (w3.alloc (.cells #[.int .i64 (Tp.put kind fr to x).k, .int .i64 (Tp.put kind fr to x).n, .slice a5 (Tp.put kind fr to x).ks.length c5] 24))) := hP.out.stays (bl_alloc (Below.refl _ _) _)
              have hT4 : Hid (TAt (w3.alloc (.cells #[.int .i64 (Tp.put kind fr to x).k, .int .i64 (Tp.put kind fr to x).n, .slice a5 (Tp.put kind fr to x).ks.length c5] 24)) (Kp B0 w.heap.size (.slice ap k cp)) n' _ _) := hTy.out.below (bl_alloc (Below.refl _ _) _)
              have hY : Hid (∀ (j : Nat) u, ([.int .i64 (Tp.put kind fr to x).k, .int .i64 (Tp.put kind fr to x).n, .slice a5 (Tp.put kind fr to x).ks.length c5] : List Value)[j]? = some u → (w3.alloc (.cells #[.int .i64 (Tp.put kind fr to x).k, .int .i64 (Tp.put kind fr to x).n, .slice a5 (Tp.put kind fr to x).ks.length c5] 24)).cell? (Addr.add ⟨w3.heap.size, 0, none⟩ j) = some u) := fun j u hu => by rw [addr_add0, cell_at (heap_alloc_at _ _)]; simpa using hu
              clear hP hTy
              have hP := hP4
              have hTy := hT4
              clear hP4 hT4
              refine hK.out _ _ ⟨hP.out.bl, hP.out.tb⟩ (fun hS3 => ?_)
              clear hK K hS
              have hS := hS3
              clear hS3
              try simp only [Act.put, List.setIfInBounds_toArray, List.set_cons_zero, List.set_cons_succ, List.getElem_toArray, List.getElem_cons_succ, List.getElem_cons_zero]
              refine wpAnyH_ready (rs := [1]) (by kernel_rfl) (by simp) (AllReadyH.cons rfl (fun K hK => ?_) AllReadyH.nil)
              · skip
                have l0 := hP.out.ob.cell 2
                simp only [List.getElem?_cons_succ, List.getElem?_cons_zero] at l0
                go_simp
                refine hK.out _ _ hS (fun _ => ?_)
                clear hK K l0
                try simp only [Act.put, List.setIfInBounds_toArray, List.set_cons_zero, List.set_cons_succ, List.getElem_toArray, List.getElem_cons_succ, List.getElem_cons_zero]
                refine wpAnyH_ready (rs := [12]) (by kernel_rfl) (by simp) (AllReadyH.cons rfl (fun K hK => ?_) AllReadyH.nil)
                refine step_append2 rfl (.tmp 39) (.tmp 49) 22 rfl (w.heap.size + 3) 24 i0 (.agg #[.int .i64 0, .int .i64 0, .slice none 0 0]) 3 40 Try.underlying22 hi0 hz0 hz1 hz2 rfl (by decide) _ k xs rfl hP.out.own ⟨w3.heap.size, 0, none⟩ 1 1 [.int .i64 (Tp.put kind fr to x).k, .int .i64 (Tp.put kind fr to x).n, .slice a5 (Tp.put kind fr to x).ks.length c5] rfl rfl hY.out (by simp [Value.oneCell']) (by unfold maxLen; omega) (by omega) hP.out.sz ?_
                intro v' w9 hown' hgrow hfresh
                obtain ⟨va, vc, rfl⟩ := own_form hown'
                have hM := hP.out.mid hgrow
                have hZ : Hid (Pst _ _ _ _ _ _ _ _ _ _) := hP.out.app hlt HX.out hTy.out HB0.out hown' hgrow hfresh
                clear hown' hgrow hfresh hP hTy hY
                refine hK.out _ _ hM.1 (fun hS => ?_)
                clear hK K
                try simp only [Act.put, List.setIfInBounds_toArray, List.set_cons_zero, List.set_cons_succ, List.getElem_toArray, List.getElem_cons_succ, List.getElem_cons_zero]
                refine wpAnyH_take (i := 13) (v := ?_) rfl (by kernel_rfl) (by kernel_rfl) (by kernel_rfl) (fun _ _ _ h => h) (Or.inl ⟨by rfl, ?_⟩) hS ?_
                rotate_left
                · intro wz hz; go_simp; try with_reducible rfl
                try simp only [Act.put, List.setIfInBounds_toArray, List.set_cons_zero, List.set_cons_succ, List.getElem_toArray, List.getElem_cons_succ, List.getElem_cons_zero]
                refine wpAnyH_ready (rs := [14]) (by kernel_rfl) (by simp) (AllReadyH.cons rfl (fun K hK => ?_) AllReadyH.nil)
                have m0 := hM.2.cell 2
                have m1 := hM.2.frozen 2
                simp only [List.getElem?_cons_succ, List.getElem?_cons_zero] at m0
                go_simp
                refine hK.out _ _ ⟨hZ.out.bl, hZ.out.tb⟩ (fun _ => ?_)
                clear hK K hM m0 m1 hS
                try simp only [Act.put, List.setIfInBounds_toArray, List.set_cons_zero, List.set_cons_succ, List.getElem_toArray, List.getElem_cons_succ, List.getElem_cons_zero]
                refine wpAnyH_done (by kernel_rfl) ?_ _
                go_wp2
                go_roundw
                case rel => exact ⟨k + 1, _, _, _, by go_num, by omega, hZ.out⟩
                case measure => simp [intOf]; omega
        · skip
          have hkk : k = t.ks.length := by omega
          subst hkk
          have hP : Hid (Pst w B0 t (Tp.put kind fr to) (.slice a1 t.ks.length c1) t.ks.length N (.slice ap t.ks.length cp) xs wr) := hP0
          have p1 := hP0.ob.cell
          have p2 := hP0.rs.cell
          have p3 := hP0.rs.frozen
          clear hP0 ih HL HF HTo
          go_wp2
          refine bodyPost_ret (v := .agg #[.int .i64 t.k, .int .i64 t.n, .slice ap t.ks.length cp]) (by rw [results_cell1 (fn := Try.f62) (p := 8) (ty := 24) (by kernel_rfl)]; simp [go_sem, p1, p2]) rfl ?_
          go_show
          have ns : ¬ (w.heap.size + 1 < B0 ∨ w.heap.size + 3 ≤ w.heap.size + 1) := by have := HB0.out; omega
          exact ⟨[_, _, _], N + 1, rfl, hP.out.fin HB0.out (((Keeps.set (p := ⟨w.heap.size + 1, 0, none⟩) ns _).trans (Keeps.set (p := ⟨w.heap.size + 1, 1, none⟩) ns _)).trans (Keeps.set (p := ⟨w.heap.size + 1, 2, none⟩) ns _)) H64.out hkl, bl_set _ _ (bl_set _ _ (bl_set _ _ hP.out.bl (by show _ ≤ w.heap.size + 1; omega)) (by show _ ≤ w.heap.size + 1; omega)) (by show _ ≤ w.heap.size + 1; omega)⟩
    · have hk2 : (t.k == kind) = true := by rw [beq_iff_eq]; exact hk
      rw [hi] at hpl
      clear hk hi hB
      go_wp2_with (first | (go_at_call 77; refine (hpl.out _ XB.out).mono ?_; rintro e w2 ⟨rfl, hw⟩; rw [hw]; clear hw w2))
      clear hpl XB
      generalize (((w.alloc (.cells #[.int .i64 t.k, .int .i64 t.n, .slice a1 t.ks.length c1] 24)).alloc (.cells #[.int .i64 0, .int .i64 0, .slice none 0 0] 24)).alloc (.cells #[.int .i64 t.k, .int .i64 t.n, .slice none 0 0] 24)) = W1 at X ⊢
      go_loopw [11] (fun v wr => ∃ (k N : Nat) (ov : Value) (xs : List Value), v = .int .i64 k ∧ k ≤ t.ks.length ∧ Pst w B0 t (Tp.put kind fr to) (.slice a1 t.ks.length c1) k N ov xs wr) (fun v _ => t.ks.length - (intOf v).toNat)
      case atStart => exact ⟨0, 0, _, _, rfl, Nat.zero_le _, X.out⟩
      case round =>
        obtain ⟨k, N, ov, xs, rfl, hk, hP0⟩ := hrel
        clear X
        obtain ⟨ap, cp, rfl⟩ := own_form hP0.own
        have p0 := hP0.tb.cell
        by_cases hlt : k < t.ks.length
        · skip
          obtain ⟨g, o, rfl⟩ : ∃ b o, a1 = some ⟨b, o, none⟩ := by
            rcases HL.out with ⟨b, o, c, hv, -⟩ | ⟨h0, -⟩
            · injection hv with e1 e2 e3; exact ⟨b, o, e1⟩
            · rw [h0] at hlt; exact absurd hlt (Nat.not_lt_zero _)
          obtain ⟨x, hxk⟩ : ∃ x, t.ks[k]? = some x := ⟨_, List.getElem?_eq_getElem hlt⟩
          have HX : Hid (t.ks[k]? = some x) := hxk
          obtain ⟨vx, tx, u0, u1, u2, -, hgl⟩ := HL.out.elem hxk
          obtain ⟨ax, cx, ex⟩ := tx.form
          simp only [List.cons.injEq, and_true, true_and] at ex
          subst ex
          have hcx : (Tp.put kind fr to x).cnt ≤ 1000 := by have h1 := Tp.cnt_le_cntL (List.mem_map.2 ⟨x, List.mem_of_getElem? hxk, rfl⟩ : (Tp.put kind fr to x) ∈ t.ks.map (Tp.put kind fr to)); have := HCN.out; omega
          have HQ : Hid (∀ wz, w.heap.size ≤ wz.heap.size → Below w.heap.size w wz → Calls Try.prog 62 #[.agg #[.int .i64 x.k, .int .i64 x.n, .slice ax x.ks.length cx], .int .i64 kind, .slice fa fr.length fc, .slice ta to.length tc] wz fun e w' => ∃ vs' n', e = .returned (.agg vs'.toArray) ∧ TAt w' (fun b => b < B0 ∨ wz.heap.size ≤ b) n' vs' (Tp.put kind fr to x) ∧ Below wz.heap.size wz w') := fun wz h1 hz => ih wz _ x (tx.below hz) (HF.out.below hz) (HTo.out.below hz) (Nat.le_trans HB0.out h1) hcx
          have hP : Hid (Pst w B0 t (Tp.put kind fr to) (.slice (some ⟨g, o, none⟩) t.ks.length c1) k N (.slice ap k cp) xs wr.drew) := hP0.stays (Below.refl _ _).drew
          have U : Hid (w.cell? ⟨g, o + k * 3, none⟩ = some (.int .i64 x.k) ∧ w.cell? ⟨g, o + k * 3 + 1, none⟩ = some (.int .i64 x.n) ∧ w.cell? ⟨g, o + k * 3 + 2, none⟩ = some (.slice ax x.ks.length cx) ∧ g < w.heap.size) := ⟨u0, u1, u2, hgl⟩
          clear hxk tx ih HL hP0 HF HTo u0 u1 u2 hcx hgl
          go_wp2
          refine wp_region_held_drew (S := fun wz => Below w.heap.size w wz ∧ Arr wz w.heap.size 24 [.int .i64 t.k, .int .i64 t.n, .slice (some ⟨g, o, none⟩) t.ks.length c1]) (by kernel_rfl) ⟨hP.out.bl, hP.out.tb⟩ (fun hS => ?_)
          generalize wr.drew = W0 at hP hS ⊢
          clear p0
          refine wpAnyH_take (i := 0) (v := ?_) rfl (by kernel_rfl) (by kernel_rfl) (by kernel_rfl) (fun _ _ _ h => h) (Or.inl ⟨by rfl, ?_⟩) hS ?_
          rotate_left
          · intro wz hz; go_simp; try with_reducible rfl
          try simp only [Act.put, List.setIfInBounds_toArray, List.set_cons_zero, List.set_cons_succ, List.getElem_toArray, List.getElem_cons_succ, List.getElem_cons_zero]
          refine wpAnyH_take (i := 2) (v := ?_) rfl (by kernel_rfl) (by kernel_rfl) (by kernel_rfl) (fun _ _ _ h => h) (Or.inl ⟨by rfl, ?_⟩) hS ?_
          rotate_left
          · intro wz hz; go_simp; try with_reducible rfl
          try simp only [Act.put, List.setIfInBounds_toArray, List.set_cons_zero, List.set_cons_succ, List.getElem_toArray, List.getElem_cons_succ, List.getElem_cons_zero]
          refine wpAnyH_take (i := 3) (v := ?_) rfl (by kernel_rfl) (by kernel_rfl) (by kernel_rfl) (fun _ _ _ h => h) (Or.inl ⟨by rfl, ?_⟩) hS ?_
          rotate_left
          · intro wz hz; have z0 := hz.2.cell 2; simp only [List.getElem?_cons_succ, List.getElem?_cons_zero] at z0; go_simp; try with_reducible rfl
          try simp only [Act.put, List.setIfInBounds_toArray, List.set_cons_zero, List.set_cons_succ, List.getElem_toArray, List.getElem_cons_succ, List.getElem_cons_zero]
          refine wpAnyH_take (i := 4) (v := ?_) rfl (by kernel_rfl) (by kernel_rfl) (by kernel_rfl) (fun _ _ _ h => h) (Or.inl ⟨by rfl, ?_⟩) hS ?_
          rotate_left
          · intro wz hz; go_simp; try with_reducible rfl
          try simp only [Act.put, List.setIfInBounds_toArray, List.set_cons_zero, List.set_cons_succ, List.getElem_toArray, List.getElem_cons_succ, List.getElem_cons_zero]
          refine wpAnyH_take (i := 5) (v := ?_) rfl (by kernel_rfl) (by kernel_rfl) (by kernel_rfl) (fun _ _ _ h => h) (Or.inl ⟨by rfl, ?_⟩) hS ?_
          rotate_left
          · intro wz hz; go_simp; try with_reducible rfl
          try simp only [Act.put, List.setIfInBounds_toArray, List.set_cons_zero, List.set_cons_succ, List.getElem_toArray, List.getElem_cons_succ, List.getElem_cons_zero]
          refine wpAnyH_take (i := 6) (v := ?_) rfl (by kernel_rfl) (by kernel_rfl) (by kernel_rfl) (fun _ _ _ h => h) (Or.inl ⟨by rfl, ?_⟩) hS ?_
          rotate_left
          · intro wz hz; obtain ⟨q0, q1, q2, qg⟩ := U.out; have z0 := (hz.1.cell (p := ⟨g, o + k * 3, none⟩) qg).trans q0; have z1 := (hz.1.cell (p := ⟨g, o + k * 3 + 1, none⟩) qg).trans q1; have z2 := (hz.1.cell (p := ⟨g, o + k * 3 + 2, none⟩) qg).trans q2; clear q0 q1 q2; go_simp; try with_reducible rfl
          try simp only [Act.put, List.setIfInBounds_toArray, List.set_cons_zero, List.set_cons_succ, List.getElem_toArray, List.getElem_cons_succ, List.getElem_cons_zero]
          refine wpAnyH_take (i := 7) (v := ?_) rfl (by kernel_rfl) (by kernel_rfl) (by kernel_rfl) (fun _ _ _ h => h) (Or.inl ⟨by rfl, ?_⟩) hS ?_
          rotate_left
          · intro wz hz; go_simp; try with_reducible rfl
          try simp only [Act.put, List.setIfInBounds_toArray, List.set_cons_zero, List.set_cons_succ, List.getElem_toArray, List.getElem_cons_succ, List.getElem_cons_zero]
          refine wpAnyH_take (i := 8) (v := ?_) rfl (by kernel_rfl) (by kernel_rfl) (by kernel_rfl) (fun _ _ _ h => h) (Or.inl ⟨by rfl, ?_⟩) hS ?_
          rotate_left
          · intro wz hz; go_simp; try with_reducible rfl
          try simp only [Act.put, List.setIfInBounds_toArray, List.set_cons_zero, List.set_cons_succ, List.getElem_toArray, List.getElem_cons_succ, List.getElem_cons_zero]
          refine wpAnyH_take (i := 9) (v := ?_) rfl (by kernel_rfl) (by kernel_rfl) (by kernel_rfl) (fun _ _ _ h => h) (Or.inl ⟨by rfl, ?_⟩) hS ?_
          rotate_left
          · intro wz hz; go_simp; try with_reducible rfl
          try simp only [Act.put, List.setIfInBounds_toArray, List.set_cons_zero, List.set_cons_succ, List.getElem_toArray, List.getElem_cons_succ, List.getElem_cons_zero]
          clear U
          refine wpAnyH_ready (rs := [1, 10]) (by kernel_rfl) (by simp) (AllReadyH.cons rfl (fun K hK => ?_) (AllReadyH.cons rfl (fun K hK => ?_) AllReadyH.nil))
          · skip
            have l0 := hP.out.ob.cell 2
            simp only [List.getElem?_cons_succ, List.getElem?_cons_zero] at l0
            go_simp
            refine hK.out _ _ hS (fun _ => ?_)
            clear hK K l0
            try simp only [Act.put, List.setIfInBounds_toArray, List.set_cons_zero, List.set_cons_succ, List.getElem_toArray, List.getElem_cons_succ, List.getElem_cons_zero]
            refine wpAnyH_ready (rs := [10]) (by kernel_rfl) (by simp) (AllReadyH.cons rfl (fun K hK => ?_) AllReadyH.nil)
            · skip
              go_simp
              refine (HQ.out _ hP.out.bl.size hP.out.bl).mono ?_
              rintro e w3 ⟨vs', n', rfl, hT3, hb3⟩
              obtain ⟨a5, c5, rfl⟩ := hT3.form
              have hTy : Hid (TAt w3 (Kp B0 w.heap.size (.slice ap k cp)) n' _ _) := hP.out.kp HB0.out hT3
              have hP3 : Hid (Pst w B0 t (Tp.put kind fr to) (.slice (some ⟨g, o, none⟩) t.ks.length c1) k N (.slice ap k cp) xs w3) := hP.out.stays hb3
              clear hT3 hb3 hP
              have hP := hP3
              clear hP3
              refine hK.out _ _ ⟨hP.out.bl, hP.out.tb⟩ (fun hS3 => ?_)
              clear hK K hS
              have hS := hS3
              clear hS3
              try simp only [Act.put, List.setIfInBounds_toArray, List.set_cons_zero, List.set_cons_succ, List.getElem_toArray, List.getElem_cons_succ, List.getElem_cons_zero]
              refine wpAnyH_ready (rs := [11]) (by kernel_rfl) (by simp) (AllReadyH.cons rfl (fun K hK => ?_) AllReadyH.nil)
              · skip
                go_simp
                have hP4 : Hid (Pst w B0 t (Tp.put kind fr to) (.slice (some ⟨g, o, none⟩) t.ks.length c1) k N (.slice ap k cp) xs (w3.alloc (.cells #[.int .i64 (Tp.put kind fr to x).k, .int .i64 (Tp.put kind fr to x).n, .slice a5 (Tp.put kind fr to x).ks.length c5] 24))) := hP.out.stays (bl_alloc (Below.refl _ _) _)
                have hT4 : Hid (TAt (w3.alloc (.cells #[.int .i64 (Tp.put kind fr to x).k, .int .i64 (Tp.put kind fr to x).n, .slice a5 (Tp.put kind fr to x).ks.length c5] 24)) (Kp B0 w.heap.size (.slice ap k cp)) n' _ _) := hTy.out.below (bl_alloc (Below.refl _ _) _)
                have hY : Hid (∀ (j : Nat) u, ([.int .i64 (Tp.put kind fr to x).k, .int .i64 (Tp.put kind fr to x).n, .slice a5 (Tp.put kind fr to x).ks.length c5] : List Value)[j]? = some u → (w3.alloc (.cells #[.int .i64 (Tp.put kind fr to x).k, .int .i64 (Tp.put kind fr to x).n, .slice a5 (Tp.put kind fr to x).ks.length c5] 24)).cell? (Addr.add ⟨w3.heap.size, 0, none⟩ j) = some u) := fun j u hu => by rw [addr_add0, cell_at (heap_alloc_at _ _)]; simpa using hu
                clear hP hTy
                have hP := hP4
                have hTy := hT4
                clear hP4 hT4
                refine hK.out _ _ ⟨hP.out.bl, hP.out.tb⟩ (fun hS3 => ?_)
                clear hK K hS
                have hS := hS3
                clear hS3
                try simp only [Act.put, List.setIfInBounds_toArray, List.set_cons_zero, List.set_cons_succ, List.getElem_toArray, List.getElem_cons_succ, List.getElem_cons_zero]
                refine wpAnyH_ready (rs := [12]) (by kernel_rfl) (by simp) (AllReadyH.cons rfl (fun K hK => ?_) AllReadyH.nil)
                refine step_append2 rfl (.tmp 39) (.tmp 49) 22 rfl (w.heap.size + 3) 24 i0 (.agg #[.int .i64 0, .int .i64 0, .slice none 0 0]) 3 40 Try.underlying22 hi0 hz0 hz1 hz2 rfl (by decide) _ k xs rfl hP.out.own ⟨w3.heap.size, 0, none⟩ 1 1 [.int .i64 (Tp.put kind fr to x).k, .int .i64 (Tp.put kind fr to x).n, .slice a5 (Tp.put kind fr to x).ks.length c5] rfl rfl hY.out (by simp [Value.oneCell']) (by unfold maxLen; omega) (by omega) hP.out.sz ?_
                intro v' w9 hown' hgrow hfresh
                obtain ⟨va, vc, rfl⟩ := own_form hown'
                have hM := hP.out.mid hgrow
                have hZ : Hid (Pst _ _ _ _ _ _ _ _ _ _) := hP.out.app hlt HX.out hTy.out HB0.out hown' hgrow hfresh
                clear hown' hgrow hfresh hP hTy hY
                refine hK.out _ _ hM.1 (fun hS => ?_)
                clear hK K
                try simp only [Act.put, List.setIfInBounds_toArray, List.set_cons_zero, List.set_cons_succ, List.getElem_toArray, List.getElem_cons_succ, List.getElem_cons_zero]
                refine wpAnyH_take (i := 13) (v := ?_) rfl (by kernel_rfl) (by kernel_rfl) (by kernel_rfl) (fun _ _ _ h => h) (Or.inl ⟨by rfl, ?_⟩) hS ?_
                rotate_left
                · intro wz hz; go_simp; try with_reducible rfl
                try simp only [Act.put, List.setIfInBounds_toArray, List.set_cons_zero, List.set_cons_succ, List.getElem_toArray, List.getElem_cons_succ, List.getElem_cons_zero]
                refine wpAnyH_ready (rs := [14]) (by kernel_rfl) (by simp) (AllReadyH.cons rfl (fun K hK => ?_) AllReadyH.nil)
                have m0 := hM.2.cell 2
                have m1 := hM.2.frozen 2
                simp only [List.getElem?_cons_succ, List.getElem?_cons_zero] at m0
                go_simp
                refine hK.out _ _ ⟨hZ.out.bl, hZ.out.tb⟩ (fun _ => ?_)
                clear hK K hM m0 m1 hS
                try simp only [Act.put, List.setIfInBounds_toArray, List.set_cons_zero, List.set_cons_succ, List.getElem_toArray, List.getElem_cons_succ, List.getElem_cons_zero]
                refine wpAnyH_done (by kernel_rfl) ?_ _
                go_wp2
                go_roundw
                case rel => exact ⟨k + 1, _, _, _, by go_num, by omega, hZ.out⟩
                case measure => simp [intOf]; omega
          · skip
            go_simp
            refine (HQ.out _ hP.out.bl.size hP.out.bl).mono ?_
            rintro e w3 ⟨vs', n', rfl, hT3, hb3⟩
            obtain ⟨a5, c5, rfl⟩ := hT3.form
            have hTy : Hid (TAt w3 (Kp B0 w.heap.size (.slice ap k cp)) n' _ _) := hP.out.kp HB0.out hT3
            have hP3 : Hid (Pst w B0 t (Tp.put kind fr to) (.slice (some ⟨g, o, none⟩) t.ks.length c1) k N (.slice ap k cp) xs w3) := hP.out.stays hb3
            clear hT3 hb3 hP
            have hP := hP3
            clear hP3
            refine hK.out _ _ ⟨hP.out.bl, hP.out.tb⟩ (fun hS3 => ?_)
            clear hK K hS
            have hS := hS3
            clear hS3
            try simp only [Act.put, List.setIfInBounds_toArray, List.set_cons_zero, List.set_cons_succ, List.getElem_toArray, List.getElem_cons_succ, List.getElem_cons_zero]
            refine wpAnyH_ready (rs := [1, 11]) (by kernel_rfl) (by simp) (AllReadyH.cons rfl (fun K hK => ?_) (AllReadyH.cons rfl (fun K hK => ?_) AllReadyH.nil))
            · skip
              have l0 := hP.out.ob.cell 2
              simp only [List.getElem?_cons_succ, List.getElem?_cons_zero] at l0
              go_simp
              refine hK.out _ _ hS (fun _ => ?_)
              clear hK K l0
              try simp only [Act.put, List.setIfInBounds_toArray, List.set_cons_zero, List.set_cons_succ, List.getElem_toArray, List.getElem_cons_succ, List.getElem_cons_zero]
              refine wpAnyH_ready (rs := [11]) (by kernel_rfl) (by simp) (AllReadyH.cons rfl (fun K hK => ?_) AllReadyH.nil)
              · skip
                go_simp
                have hP4 : Hid (Pst w B0 t (Tp.put kind fr to) (.slice (some ⟨g, o, none⟩) t.ks.length c1) k N (.slice ap k cp) xs (w3.alloc (.cells #[.int .i64 (Tp.put kind fr to x).k, .int .i64 (Tp.put kind fr to x).n, .slice a5 (Tp.put kind fr to x).ks.length c5] 24))) := hP.out.stays (bl_alloc (Below.refl _ _) _)
                have hT4 : Hid (TAt (w3.alloc (.cells #[.int .i64 (Tp.put kind fr to x).k, .int .i64 (Tp.put kind fr to x).n, .slice a5 (Tp.put kind fr to x).ks.length c5] 24)) (Kp B0 w.heap.size (.slice ap k cp)) n' _ _) := hTy.out.below (bl_alloc (Below.refl _ _) _)
                have hY : Hid (∀ (j : Nat) u, ([.int .i64 (Tp.put kind fr to x).k, .int .i64 (Tp.put kind fr to x).n, .slice a5 (Tp.put kind fr to x).ks.length c5] : List Value)[j]? = some u → (w3.alloc (.cells #[.int .i64 (Tp.put kind fr to x).k, .int .i64 (Tp.put kind fr to x).n, .slice a5 (Tp.put kind fr to x).ks.length c5] 24)).cell? (Addr.add ⟨w3.heap.size, 0, none⟩ j) = some u) := fun j u hu => by rw [addr_add0, cell_at (heap_alloc_at _ _)]; simpa using hu
                clear hP hTy
                have hP := hP4
                have hTy := hT4
                clear hP4 hT4
                refine hK.out _ _ ⟨hP.out.bl, hP.out.tb⟩ (fun hS3 => ?_)
                clear hK K hS
                have hS := hS3
                clear hS3
                try simp only [Act.put, List.setIfInBounds_toArray, List.set_cons_zero, List.set_cons_succ, List.getElem_toArray, List.getElem_cons_succ, List.getElem_cons_zero]
                refine wpAnyH_ready (rs := [12]) (by kernel_rfl) (by simp) (AllReadyH.cons rfl (fun K hK => ?_) AllReadyH.nil)
                refine step_append2 rfl (.tmp 39) (.tmp 49) 22 rfl (w.heap.size + 3) 24 i0 (.agg #[.int .i64 0, .int .i64 0, .slice none 0 0]) 3 40 Try.underlying22 hi0 hz0 hz1 hz2 rfl (by decide) _ k xs rfl hP.out.own ⟨w3.heap.size, 0, none⟩ 1 1 [.int .i64 (Tp.put kind fr to x).k, .int .i64 (Tp.put kind fr to x).n, .slice a5 (Tp.put kind fr to x).ks.length c5] rfl rfl hY.out (by simp [Value.oneCell']) (by unfold maxLen; omega) (by omega) hP.out.sz ?_
                intro v' w9 hown' hgrow hfresh
                obtain ⟨va, vc, rfl⟩ := own_form hown'
                have hM := hP.out.mid hgrow
                have hZ : Hid (Pst _ _ _ _ _ _ _ _ _ _) := hP.out.app hlt HX.out hTy.out HB0.out hown' hgrow hfresh
                clear hown' hgrow hfresh hP hTy hY
                refine hK.out _ _ hM.1 (fun hS => ?_)
                clear hK K
                try simp only [Act.put, List.setIfInBounds_toArray, List.set_cons_zero, List.set_cons_succ, List.getElem_toArray, List.getElem_cons_succ, List.getElem_cons_zero]
                refine wpAnyH_take (i := 13) (v := ?_) rfl (by kernel_rfl) (by kernel_rfl) (by kernel_rfl) (fun _ _ _ h => h) (Or.inl ⟨by rfl, ?_⟩) hS ?_
                rotate_left
                · intro wz hz; go_simp; try with_reducible rfl
                try simp only [Act.put, List.setIfInBounds_toArray, List.set_cons_zero, List.set_cons_succ, List.getElem_toArray, List.getElem_cons_succ, List.getElem_cons_zero]
                refine wpAnyH_ready (rs := [14]) (by kernel_rfl) (by simp) (AllReadyH.cons rfl (fun K hK => ?_) AllReadyH.nil)
                have m0 := hM.2.cell 2
                have m1 := hM.2.frozen 2
                simp only [List.getElem?_cons_succ, List.getElem?_cons_zero] at m0
                go_simp
                refine hK.out _ _ ⟨hZ.out.bl, hZ.out.tb⟩ (fun _ => ?_)
                clear hK K hM m0 m1 hS
                try simp only [Act.put, List.setIfInBounds_toArray, List.set_cons_zero, List.set_cons_succ, List.getElem_toArray, List.getElem_cons_succ, List.getElem_cons_zero]
                refine wpAnyH_done (by kernel_rfl) ?_ _
                go_wp2
                go_roundw
                case rel => exact ⟨k + 1, _, _, _, by go_num, by omega, hZ.out⟩
                case measure => simp [intOf]; omega
            · skip
              go_simp
              have hP4 : Hid (Pst w B0 t (Tp.put kind fr to) (.slice (some ⟨g, o, none⟩) t.ks.length c1) k N (.slice ap k cp) xs (w3.alloc (.cells #[.int .i64 (Tp.put kind fr to x).k, .int .i64 (Tp.put kind fr to x).n, .slice a5 (Tp.put kind fr to x).ks.length c5] 24))) := hP.out.stays (bl_alloc (Below.refl _ _) _)
              have hT4 : Hid (TAt (w3.alloc (.cells #[.int .i64 (Tp.put kind fr to x).k, .int .i64 (Tp.put kind fr to x).n, .slice a5 (Tp.put kind fr to x).ks.length c5] 24)) (Kp B0 w.heap.size (.slice ap k cp)) n' _ _) := hTy.out.below (bl_alloc (Below.refl _ _) _)
              have hY : Hid (∀ (j : Nat) u, ([.int .i64 (Tp.put kind fr to x).k, .int .i64 (Tp.put kind fr to x).n, .slice a5 (Tp.put kind fr to x).ks.length c5] : List Value)[j]? = some u → (w3.alloc (.cells #[.int .i64 (Tp.put kind fr to x).k, .int .i64 (Tp.put kind fr to x).n, .slice a5 (Tp.put kind fr to x).ks.length c5] 24)).cell? (Addr.add ⟨w3.heap.size, 0, none⟩ j) = some u) := fun j u hu => by rw [addr_add0, cell_at (heap_alloc_at _ _)]; simpa using hu
              clear hP hTy
              have hP := hP4
              have hTy := hT4
              clear hP4 hT4
              refine hK.out _ _ ⟨hP.out.bl, hP.out.tb⟩ (fun hS3 => ?_)
              clear hK K hS
              have hS := hS3
              clear hS3
              try simp only [Act.put, List.setIfInBounds_toArray, List.set_cons_zero, List.set_cons_succ, List.getElem_toArray, List.getElem_cons_succ, List.getElem_cons_zero]
              refine wpAnyH_ready (rs := [1]) (by kernel_rfl) (by simp) (AllReadyH.cons rfl (fun K hK => ?_) AllReadyH.nil)
              · skip
                have l0 := hP.out.ob.cell 2
                simp only [List.getElem?_cons_succ, List.getElem?_cons_zero] at l0
                go_simp
                refine hK.out _ _ hS (fun _ => ?_)
                clear hK K l0
                try simp only [Act.put, List.setIfInBounds_toArray, List.set_cons_zero, List.set_cons_succ, List.getElem_toArray, List.getElem_cons_succ, List.getElem_cons_zero]
                refine wpAnyH_ready (rs := [12]) (by kernel_rfl) (by simp) (AllReadyH.cons rfl (fun K hK => ?_) AllReadyH.nil)
                refine step_append2 rfl (.tmp 39) (.tmp 49) 22 rfl (w.heap.size + 3) 24 i0 (.agg #[.int .i64 0, .int .i64 0, .slice none 0 0]) 3 40 Try.underlying22 hi0 hz0 hz1 hz2 rfl (by decide) _ k xs rfl hP.out.own ⟨w3.heap.size, 0, none⟩ 1 1 [.int .i64 (Tp.put kind fr to x).k, .int .i64 (Tp.put kind fr to x).n, .slice a5 (Tp.put kind fr to x).ks.length c5] rfl rfl hY.out (by simp [Value.oneCell']) (by unfold maxLen; omega) (by omega) hP.out.sz ?_
                intro v' w9 hown' hgrow hfresh
                obtain ⟨va, vc, rfl⟩ := own_form hown'
                have hM := hP.out.mid hgrow
                have hZ : Hid (Pst _ _ _ _ _ _ _ _ _ _) := hP.out.app hlt HX.out hTy.out HB0.out hown' hgrow hfresh
                clear hown' hgrow hfresh hP hTy hY
                refine hK.out _ _ hM.1 (fun hS => ?_)
                clear hK K
                try simp only [Act.put, List.setIfInBounds_toArray, List.set_cons_zero, List.set_cons_succ, List.getElem_toArray, List.getElem_cons_succ, List.getElem_cons_zero]
                refine wpAnyH_take (i := 13) (v := ?_) rfl (by kernel_rfl) (by kernel_rfl) (by kernel_rfl) (fun _ _ _ h => h) (Or.inl ⟨by rfl, ?_⟩) hS ?_
                rotate_left
                · intro wz hz; go_simp; try with_reducible rfl
                try simp only [Act.put, List.setIfInBounds_toArray, List.set_cons_zero, List.set_cons_succ, List.getElem_toArray, List.getElem_cons_succ, List.getElem_cons_zero]
                refine wpAnyH_ready (rs := [14]) (by kernel_rfl) (by simp) (AllReadyH.cons rfl (fun K hK => ?_) AllReadyH.nil)
                have m0 := hM.2.cell 2
                have m1 := hM.2.frozen 2
                simp only [List.getElem?_cons_succ, List.getElem?_cons_zero] at m0
                go_simp
                refine hK.out _ _ ⟨hZ.out.bl, hZ.out.tb⟩ (fun _ => ?_)
                clear hK K hM m0 m1 hS
                try simp only [Act.put, List.setIfInBounds_toArray, List.set_cons_zero, List.set_cons_succ, List.getElem_toArray, List.getElem_cons_succ, List.getElem_cons_zero]
                refine wpAnyH_done (by kernel_rfl) ?_ _
                go_wp2
                go_roundw
                case rel => exact ⟨k + 1, _, _, _, by go_num, by omega, hZ.out⟩
                case measure => simp [intOf]; omega
        · skip
          have hkk : k = t.ks.length := by omega
          subst hkk
          have hP : Hid (Pst w B0 t (Tp.put kind fr to) (.slice a1 t.ks.length c1) t.ks.length N (.slice ap t.ks.length cp) xs wr) := hP0
          have p1 := hP0.ob.cell
          have p2 := hP0.rs.cell
          have p3 := hP0.rs.frozen
          clear hP0 ih HL HF HTo
          go_wp2
          refine bodyPost_ret (v := .agg #[.int .i64 t.k, .int .i64 t.n, .slice ap t.ks.length cp]) (by rw [results_cell1 (fn := Try.f62) (p := 8) (ty := 24) (by kernel_rfl)]; simp [go_sem, p1, p2]) rfl ?_
          go_show
          have ns : ¬ (w.heap.size + 1 < B0 ∨ w.heap.size + 3 ≤ w.heap.size + 1) := by have := HB0.out; omega
          exact ⟨[_, _, _], N + 1, rfl, hP.out.fin HB0.out (((Keeps.set (p := ⟨w.heap.size + 1, 0, none⟩) ns _).trans (Keeps.set (p := ⟨w.heap.size + 1, 1, none⟩) ns _)).trans (Keeps.set (p := ⟨w.heap.size + 1, 2, none⟩) ns _)) H64.out hkl, bl_set _ _ (bl_set _ _ (bl_set _ _ hP.out.bl (by show _ ≤ w.heap.size + 1; omega)) (by show _ ≤ w.heap.size + 1; omega)) (by show _ ≤ w.heap.size + 1; omega)⟩
theorem put_any (kind : Int) (fv tv : Value) (fr : List Int) (to : List Tp) (hlen : fr.length = to.length) (m B0 : Nat) : ∀ n, PutOf kind fv tv fr to m B0 n
  | 0 => fun w vs t h _ _ _ _ => h.elim
  | n + 1 => put_step kind fv tv fr to hlen m B0 n (put_any kind fv tv fr to hlen m B0 n)
end Go.Proofs.Ythijckdhndbdoaa
