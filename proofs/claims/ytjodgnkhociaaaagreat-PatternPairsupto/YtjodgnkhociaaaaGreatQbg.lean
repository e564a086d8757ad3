/- What fits, as plain mathematics: a bare pattern binds nothing; pairs. The walk of PatternNames. What is appended to a row of one's own; rows of two. -/
import Derived.Laws.AppendOwn
import Derived.Laws.OwnMore
import Derived.Test.YtjodgnkhociaaaaGreatQbf
import Derived.Test.YtjodgnkhociaaaaGreatQbd
import Derived.Test.YtjodgnkhociaaaaGreatQbe
namespace Go.Proofs.YtjodgnkhociaaaaGreat
set_option linter.unusedVariables false
set_option linter.unusedSimpArgs false

theorem aloneR_bare (k : Int) (s : ByteArray) (n : Int) (v : Vl) (hk : k ≠ 2) : (aloneR k s n v).1 = [] := by
  unfold aloneR
  rw [if_neg hk]
  (repeat' split) <;> rfl
mutual
theorem fit_bare : ∀ (p : Pt) (v : Vl), (fitR (bareP p) v).1 = [] ∧ (fitR (bareP p) v).2 = (fitR p v).2
  | .mk k s q n ks, v => by
    have ih := fit_bareL ks v.ks
    rw [bareP]
    by_cases h2 : k = 2
    · subst h2
      rw [if_pos rfl, fitR, fitR]
      simp only [show ¬ (1 : Int) = 7 by decide, show ¬ (1 : Int) = 8 by decide, show ¬ (2 : Int) = 7 by decide, show ¬ (2 : Int) = 8 by decide, if_false]
      by_cases h0 : ks.length = 0
      · rw [if_pos h0, if_pos h0]
        simp [aloneR]
      · rw [if_neg h0, if_neg h0]
        exact ⟨rfl, rfl⟩
    · rw [if_neg h2, fitR, fitR]
      have hl : (bareL ks).length = ks.length := by rw [bareL_map, List.length_map]
      rw [hl]
      by_cases h7 : k = 7
      · rw [if_pos h7, if_pos h7]
        split
        · exact ih
        · exact ⟨rfl, rfl⟩
      · rw [if_neg h7, if_neg h7]
        by_cases h8 : k = 8
        · rw [if_pos h8, if_pos h8]
          split
          · exact ih
          · exact ⟨rfl, rfl⟩
        · rw [if_neg h8, if_neg h8]
          split
          · exact ⟨aloneR_bare k s n v h2, rfl⟩
          · exact ⟨rfl, rfl⟩
theorem fit_bareL : ∀ (l : List Pt) (vs : List Vl), (fitL (bareL l) vs).1 = [] ∧ (fitL (bareL l) vs).2 = (fitL l vs).2
  | [], vs => by rw [bareL]; simp [fitL]
  | p :: ps, [] => by rw [bareL]; simp [fitL]
  | p :: ps, v :: vs => by
    have h1 := fit_bare p v
    have h2 := fit_bareL ps vs
    rw [bareL, fitL, fitL, h1.2]
    split
    · exact ⟨by simp [h1.1, h2.1], h2.2⟩
    · exact ⟨h1.1, rfl⟩
end
/-- A pattern of any value fits it, and binds nothing. -/
theorem fit_any1 (v : Vl) : fitR (.mk 1 ⟨#[]⟩ [] 0 []) v = ([], true) := by simp [fitR, aloneR]
/-- A pair of patterns and a pair of values. -/
theorem fit_two (p q : Pt) (v w : Vl) (s : ByteArray) (n : Int) (l : List ByteArray) (s' : ByteArray) (n' : Int) : fitR (.mk 7 s l n [p, q]) (.mk 4 n' s' [v, w]) =
    if (fitR p v).2 = true then ((fitR p v).1 ++ (fitR q w).1, (fitR q w).2) else ((fitR p v).1, false) := by
  rw [fitR]
  simp only [if_true, Vl.k, Vl.ks, List.length_cons, List.length_nil, and_self]
  rw [fitL, fitL]
  split
  · split
    · next h => simp [fitL, h]
    · next h => simp at h; simp [h]
  · rfl
end Go.Proofs.YtjodgnkhociaaaaGreat

namespace Go.Proofs.YtjodgnkhociaaaaGreat
open Go.RowKit
set_option linter.unusedVariables false
set_option linter.unusedSimpArgs false

mutual
theorem bare_cnt : ∀ p : Pt, (bareP p).cnt = p.cnt
  | .mk k s q n ks => by
    rw [bareP]
    split
    · rw [Pt.cnt, Pt.cnt]
    · rw [Pt.cnt, Pt.cnt, bare_cntL ks]
theorem bare_cntL : ∀ l : List Pt, Pt.cntL (bareL l) = Pt.cntL l
  | [] => by rw [bareL]
  | x :: r => by rw [bareL, Pt.cntL, Pt.cntL, bare_cnt x, bare_cntL r]
end
theorem outR_len (p : Pt) (v : Vl) : (fitR p v).2 = false → (outR p v).length = 0 := by
  intro h
  unfold outR
  rw [h]
  rfl
set_option maxHeartbeats 8000000 in
set_option maxRecDepth 100000 in
theorem names_law (w : World) (n : Nat) (pvs : List Value) (p : Pt) (hP : PtAt w Any n pvs p) (M : Nat) (vvs : List Value) (v : Vl) (hV : VAt w Any M vvs v) (hcp : p.cnt ≤ 1048576) (hcv : v.cnt ≤ 1048576) :
    Calls Tryz.prog 3 #[.agg pvs.toArray, .agg vvs.toArray] w fun e w' => e = .returned (.bool true) ∧ Below w.heap.size w w' := by
  obtain ⟨pa, pc, ka, kc, rfl, -, -⟩ := hP.form
  obtain ⟨va, vc, rfl, -⟩ := hV.form
  have hbl : Below w.heap.size w ((w.alloc (.cells #[.int .i64 p.k, .string p.s, .slice pa p.p.length pc, .int .i64 p.n, .slice ka p.ks.length kc] PAT5)).alloc (.cells #[.int .i64 v.k, .int .i64 v.n, .string v.s, .slice va v.ks.length vc] VT)) := bl_alloc (bl_alloc (Below.refl _ _) _) _
  have HF : Hid (∀ wz, Below w.heap.size w wz → Calls Tryz.prog 5 #[.agg #[.int .i64 p.k, .string p.s, .slice pa p.p.length pc, .int .i64 p.n, .slice ka p.ks.length kc], .agg #[.int .i64 v.k, .int .i64 v.n, .string v.s, .slice va v.ks.length vc]] wz fun e w' => (∃ a c a' c', e = .returned (.tuple #[.slice a (outR p v).length c, .slice a' (outR p v).length c', .bool (fitR p v).2])) ∧ Below wz.heap.size wz w') := hid fun wz hz => by
    refine (PFits_any wz n _ p (hP.below hz) M _ v (hV.below hz) hcp hcv).mono ?_
    rintro e w' ⟨⟨a, c, a', c', rfl, -⟩, hb⟩
    exact ⟨⟨a, c, a', c', rfl⟩, hb⟩
  have HA : Hid (∀ wz, Below w.heap.size w wz → Calls Tryz.prog 5 #[.agg #[.int .i64 1, .string ⟨#[]⟩, .slice none 0 0, .int .i64 0, .slice none 0 0], .agg #[.int .i64 v.k, .int .i64 v.n, .string v.s, .slice va v.ks.length vc]] wz fun e w' => (∃ a c a' c', e = .returned (.tuple #[.slice a 0 c, .slice a' 0 c', .bool true])) ∧ Below wz.heap.size wz w') := hid fun wz hz => by
    have hp1 : PtAt wz Any 1 [.int .i64 1, .string ⟨#[]⟩, .slice none 0 0, .int .i64 0, .slice none 0 0] (.mk 1 ⟨#[]⟩ [] 0 []) := ⟨_, _, rfl, .inr ⟨rfl, _, _, rfl⟩, .inr ⟨rfl, _, _, rfl⟩⟩
    refine (PFits_any wz 1 _ _ hp1 M _ v (hV.below hz) (by simp [Pt.cnt, Pt.cntL]) hcv).mono ?_
    rintro e w' ⟨⟨a, c, a', c', rfl, -⟩, hb⟩
    have ho : outR (.mk 1 ⟨#[]⟩ [] 0 []) v = [] := by rw [outR, fit_any1]; rfl
    rw [ho, fit_any1]
    exact ⟨⟨a, c, a', c', rfl⟩, hb⟩
  have HB0 : Hid (∀ wz, Below w.heap.size w wz → Calls Tryz.prog 6 #[.agg #[.int .i64 p.k, .string p.s, .slice pa p.p.length pc, .int .i64 p.n, .slice ka p.ks.length kc]] wz fun e w' => (∃ vs' : List Value, e = .returned (.agg vs'.toArray) ∧ ∀ wy : World, Below w'.heap.size w' wy → Calls Tryz.prog 5 #[.agg vs'.toArray, .agg #[.int .i64 v.k, .int .i64 v.n, .string v.s, .slice va v.ks.length vc]] wy fun e w'' => (∃ a c a' c', e = .returned (.tuple #[.slice a 0 c, .slice a' 0 c', .bool (fitR p v).2])) ∧ Below wy.heap.size wy w'') ∧ Below wz.heap.size wz w') := hid fun wz hz => by
    refine (bare_any wz.heap.size n wz _ p (Nat.le_refl _) ((hP.below hz).old) hcp).mono ?_
    rintro e w' ⟨n', k, s, z, pp, l, c, m, d, e', rfl, hb', hbl'⟩
    refine ⟨⟨[.int .i64 k, .string s, .slice pp l c, .int .i64 z, .slice m d e'], rfl, fun wy hy => ?_⟩, hbl'⟩
    refine (PFits_any wy n' _ _ ((hb'.any).below hy) M _ v (hV.below (bl_tr hz (bl_tr hbl' hy))) (by rw [bare_cnt]; exact hcp) hcv).mono ?_
    rintro e w'' ⟨⟨a, c, a', c', rfl, -⟩, hb⟩
    have h0 := fit_bare p v
    have ho : outR (bareP p) v = [] := by rw [outR, h0.1]; split <;> rfl
    rw [ho, h0.2]
    exact ⟨⟨a, c, a', c', rfl⟩, hb⟩
  clear hP hV hcp hcv
  have hm := outR_len p v
  generalize (outR p v).length = m at HF hm
  generalize (fitR p v).2 = b at HF HB0 hm
  have HM := hid hm
  have x1 : Arr (w.alloc (.cells #[.int .i64 p.k, .string p.s, .slice pa p.p.length pc, .int .i64 p.n, .slice ka p.ks.length kc] PAT5)) w.heap.size PAT5 [.int .i64 p.k, .string p.s, .slice pa p.p.length pc, .int .i64 p.n, .slice ka p.ks.length kc] := ⟨heap_alloc_at _ _⟩
  have X1 := x1.stays (bl_alloc (Below.refl _ (w.alloc (.cells #[.int .i64 p.k, .string p.s, .slice pa p.p.length pc, .int .i64 p.n, .slice ka p.ks.length kc] PAT5))) (.cells #[.int .i64 v.k, .int .i64 v.n, .string v.s, .slice va v.ks.length vc] VT))
  have x2 : Arr ((w.alloc (.cells #[.int .i64 p.k, .string p.s, .slice pa p.p.length pc, .int .i64 p.n, .slice ka p.ks.length kc] PAT5)).alloc (.cells #[.int .i64 v.k, .int .i64 v.n, .string v.s, .slice va v.ks.length vc] VT)) (w.heap.size + 1) VT [.int .i64 v.k, .int .i64 v.n, .string v.s, .slice va v.ks.length vc] := ⟨by have := heap_alloc_at (w.alloc (.cells #[.int .i64 p.k, .string p.s, .slice pa p.p.length pc, .int .i64 p.n, .slice ka p.ks.length kc] PAT5)) (.cells #[.int .i64 v.k, .int .i64 v.n, .string v.s, .slice va v.ks.length vc] VT); rw [size_alloc] at this; exact this⟩
  have p0 := X1.cell
  have v0 := x2.cell
  have HX1 := hid X1
  have HX2 := hid x2
  have HBL := hid hbl
  clear x1 X1 x2 hm hbl
  go_enter Tryz.func3, Tryz.ntmps3
  go_wp2_with (go_at_call 5; refine (HF.out _ HBL.out).mono ?_; rintro e w1 ⟨⟨a1, c1, d1, e1, rfl⟩, b1⟩; have B1 := hid (bl_tr HBL.out b1); have Y1 := HX1.out.stays b1; have Y2 := HX2.out.stays b1; clear b1)
  have D1 := Below.drew (Below.refl w1.heap.size w1)
  have hk : Hid (∀ wz, Below w1.drew.heap.size w1.drew wz → (wz.cell? ⟨w.heap.size, 0, none⟩ = some (.int .i64 p.k) ∧ wz.cell? ⟨w.heap.size, 1, none⟩ = some (.string p.s) ∧ wz.cell? ⟨w.heap.size, 2, none⟩ = some (.slice pa p.p.length pc) ∧ wz.cell? ⟨w.heap.size, 3, none⟩ = some (.int .i64 p.n) ∧ wz.cell? ⟨w.heap.size, 4, none⟩ = some (.slice ka p.ks.length kc) ∧ wz.cell? ⟨w.heap.size + 1, 0, none⟩ = some (.int .i64 v.k) ∧ wz.cell? ⟨w.heap.size + 1, 1, none⟩ = some (.int .i64 v.n) ∧ wz.cell? ⟨w.heap.size + 1, 2, none⟩ = some (.string v.s) ∧ wz.cell? ⟨w.heap.size + 1, 3, none⟩ = some (.slice va v.ks.length vc))) := hid (fun wz hz => by
    have q1 := ((Y1.stays D1).stays hz).cell
    have q2 := ((Y2.stays D1).stays hz).cell
    exact ⟨q1 0, q1 1, q1 2, q1 3, q1 4, q2 0, q2 1, q2 2, q2 3⟩)
  have s2 : w1.drew.cell? ⟨w.heap.size, 0, none⟩ = some (.int .i64 p.k) ∧ w1.drew.cell? ⟨w.heap.size, 1, none⟩ = some (.string p.s) ∧ w1.drew.cell? ⟨w.heap.size, 2, none⟩ = some (.slice pa p.p.length pc) ∧ w1.drew.cell? ⟨w.heap.size, 3, none⟩ = some (.int .i64 p.n) ∧ w1.drew.cell? ⟨w.heap.size, 4, none⟩ = some (.slice ka p.ks.length kc) ∧ w1.drew.cell? ⟨w.heap.size + 1, 0, none⟩ = some (.int .i64 v.k) ∧ w1.drew.cell? ⟨w.heap.size + 1, 1, none⟩ = some (.int .i64 v.n) ∧ w1.drew.cell? ⟨w.heap.size + 1, 2, none⟩ = some (.string v.s) ∧ w1.drew.cell? ⟨w.heap.size + 1, 3, none⟩ = some (.slice va v.ks.length vc) := hk.out _ (Below.refl _ _)
  have HB : Hid (∀ wz, Below w1.drew.heap.size w1.drew wz → Calls Tryz.prog 6 #[.agg #[.int .i64 p.k, .string p.s, .slice pa p.p.length pc, .int .i64 p.n, .slice ka p.ks.length kc]] wz fun e w' => (∃ vs' : List Value, e = .returned (.agg vs'.toArray) ∧ ∀ wy : World, Below w'.heap.size w' wy → Calls Tryz.prog 5 #[.agg vs'.toArray, .agg #[.int .i64 v.k, .int .i64 v.n, .string v.s, .slice va v.ks.length vc]] wy fun e w'' => (∃ a c a' c', e = .returned (.tuple #[.slice a 0 c, .slice a' 0 c', .bool b])) ∧ Below wy.heap.size wy w'') ∧ Below wz.heap.size wz w') := hid fun wz hz => HB0.out wz (bl_tr (bl_tr B1.out D1) hz)
  have BD := hid (bl_tr B1.out D1)
  clear Y1 Y2 D1 HB0 p0 v0 HX1 HX2
  refine wp_region_held_drew (S := fun wz => wz.cell? ⟨w.heap.size, 0, none⟩ = some (.int .i64 p.k) ∧ wz.cell? ⟨w.heap.size, 1, none⟩ = some (.string p.s) ∧ wz.cell? ⟨w.heap.size, 2, none⟩ = some (.slice pa p.p.length pc) ∧ wz.cell? ⟨w.heap.size, 3, none⟩ = some (.int .i64 p.n) ∧ wz.cell? ⟨w.heap.size, 4, none⟩ = some (.slice ka p.ks.length kc) ∧ wz.cell? ⟨w.heap.size + 1, 0, none⟩ = some (.int .i64 v.k) ∧ wz.cell? ⟨w.heap.size + 1, 1, none⟩ = some (.int .i64 v.n) ∧ wz.cell? ⟨w.heap.size + 1, 2, none⟩ = some (.string v.s) ∧ wz.cell? ⟨w.heap.size + 1, 3, none⟩ = some (.slice va v.ks.length vc)) (by kernel_rfl) (s2) (fun hS => ?_)
  generalize w1.drew = wd at hS HB hk s2 B1 BD ⊢
  refine wpAnyH_take (i := 0) (v := ?_) rfl (by kernel_rfl) (by kernel_rfl) (by kernel_rfl) (fun _ _ _ h => h) (Or.inl ⟨by rfl, ?_⟩) hS ?_
  rotate_left
  · intro wz hz; obtain ⟨yy0, yy1, yy2, yy3, yy4, yy5, yy6, yy7, yy8⟩ := hz; go_simp; try with_reducible rfl
  try simp only [Act.put, List.setIfInBounds_toArray, List.set_cons_zero, List.set_cons_succ, List.getElem_toArray, List.getElem_cons_succ, List.getElem_cons_zero]
  refine wpAnyH_take (i := 2) (v := ?_) rfl (by kernel_rfl) (by kernel_rfl) (by kernel_rfl) (fun _ _ _ h => h) (Or.inl ⟨by rfl, ?_⟩) hS ?_
  rotate_left
  · intro wz hz; obtain ⟨yy0, yy1, yy2, yy3, yy4, yy5, yy6, yy7, yy8⟩ := hz; go_simp; try with_reducible rfl
  try simp only [Act.put, List.setIfInBounds_toArray, List.set_cons_zero, List.set_cons_succ, List.getElem_toArray, List.getElem_cons_succ, List.getElem_cons_zero]
  refine wpAnyH_ready (rs := [1]) (by kernel_rfl) (by simp) (AllReadyH.cons rfl (fun K hK => ?a1_1) AllReadyH.nil)
  case' a1_1 =>
    go_simp
    refine (HB.out _ (Below.refl _ _)).mono ?_
    rintro e w8 ⟨⟨vs8, rfl, h8⟩, b8⟩
    have H8 := hid h8
    have B8 := hid b8
    clear h8 b8
    refine hK.out _ _ ((hk.out _ B8.out)) (fun hSn => ?_)
    clear hK K hS
    have hS := hSn
    clear hSn
    try simp only [Act.put, List.setIfInBounds_toArray, List.set_cons_zero, List.set_cons_succ, List.getElem_toArray, List.getElem_cons_succ, List.getElem_cons_zero]
    refine wpAnyH_ready (rs := [3]) (by kernel_rfl) (by simp) (AllReadyH.cons rfl (fun K hK => ?a2_3) AllReadyH.nil)
    case' a2_3 =>
      go_simp
      refine (H8.out _ (Below.refl _ _)).mono ?_
      rintro e w9 ⟨⟨a9, c9, d9, e9, rfl⟩, b9⟩
      have B9 := hid (bl_tr B8.out b9)
      clear b9
      refine hK.out _ _ ((hk.out _ B9.out)) (fun hSn => ?_)
      clear hK K hS
      have hS := hSn
      clear hSn
      try simp only [Act.put, List.setIfInBounds_toArray, List.set_cons_zero, List.set_cons_succ, List.getElem_toArray, List.getElem_cons_succ, List.getElem_cons_zero]
      refine wpAnyH_take (i := 4) (v := ?_) rfl (by kernel_rfl) (by kernel_rfl) (by kernel_rfl) (fun _ _ _ h => h) (Or.inl ⟨by rfl, ?_⟩) hS ?_
      rotate_left
      · intro wz hz; go_simp; try with_reducible rfl
      try simp only [Act.put, List.setIfInBounds_toArray, List.set_cons_zero, List.set_cons_succ, List.getElem_toArray, List.getElem_cons_succ, List.getElem_cons_zero]
      refine wpAnyH_take (i := 5) (v := ?_) rfl (by kernel_rfl) (by kernel_rfl) (by kernel_rfl) (fun _ _ _ h => h) (Or.inl ⟨by rfl, ?_⟩) hS ?_
      rotate_left
      · intro wz hz; go_simp; try with_reducible rfl
      try simp only [Act.put, List.setIfInBounds_toArray, List.set_cons_zero, List.set_cons_succ, List.getElem_toArray, List.getElem_cons_succ, List.getElem_cons_zero]
      refine wpAnyH_take (i := 6) (v := ?_) rfl (by kernel_rfl) (by kernel_rfl) (by kernel_rfl) (fun _ _ _ h => h) (Or.inl ⟨by rfl, ?_⟩) hS ?_
      rotate_left
      · intro wz hz; go_simp; try with_reducible rfl
      try simp only [Act.put, List.setIfInBounds_toArray, List.set_cons_zero, List.set_cons_succ, List.getElem_toArray, List.getElem_cons_succ, List.getElem_cons_zero]
      refine wpAnyH_take (i := 7) (v := ?_) rfl (by kernel_rfl) (by kernel_rfl) (by kernel_rfl) (fun _ _ _ h => h) (Or.inl ⟨by rfl, ?_⟩) hS ?_
      rotate_left
      · intro wz hz; go_simp; try with_reducible rfl
      try simp only [Act.put, List.setIfInBounds_toArray, List.set_cons_zero, List.set_cons_succ, List.getElem_toArray, List.getElem_cons_succ, List.getElem_cons_zero]
      refine wpAnyH_take (i := 8) (v := ?_) rfl (by kernel_rfl) (by kernel_rfl) (by kernel_rfl) (fun _ _ _ h => h) (Or.inl ⟨by rfl, ?_⟩) hS ?_
      rotate_left
      · intro wz hz; go_simp; try with_reducible rfl
      try simp only [Act.put, List.setIfInBounds_toArray, List.set_cons_zero, List.set_cons_succ, List.getElem_toArray, List.getElem_cons_succ, List.getElem_cons_zero]
      refine wpAnyH_take (i := 9) (v := ?_) rfl (by kernel_rfl) (by kernel_rfl) (by kernel_rfl) (fun _ _ _ h => h) (Or.inl ⟨by rfl, ?_⟩) hS ?_
      rotate_left
      · intro wz hz; go_simp; try with_reducible rfl
      try simp only [Act.put, List.setIfInBounds_toArray, List.set_cons_zero, List.set_cons_succ, List.getElem_toArray, List.getElem_cons_succ, List.getElem_cons_zero]
      refine wpAnyH_take (i := 10) (v := ?_) rfl (by kernel_rfl) (by kernel_rfl) (by kernel_rfl) (fun _ _ _ h => h) (Or.inl ⟨by rfl, ?_⟩) hS ?_
      rotate_left
      · intro wz hz; go_simp; try with_reducible rfl
      try simp only [Act.put, List.setIfInBounds_toArray, List.set_cons_zero, List.set_cons_succ, List.getElem_toArray, List.getElem_cons_succ, List.getElem_cons_zero]
      refine wpAnyH_done (by kernel_rfl) ?_ _
  all_goals (
    have z := hk.out _ B9.out
    obtain ⟨zz0, zz1, zz2, zz3, zz4, zz5, zz6, zz7, zz8⟩ := z
    clear s2 hS
    have HB9 := hid (bl_tr BD.out B9.out)
    rcases b with _ | _
    · have h0 : m = 0 := HM.out rfl
      subst h0
      clear HM
      go_wp2_with (first
        | (go_at_call 5; refine (HA.out _ HB9.out).mono ?_; rintro e w2 ⟨⟨a2, c2, d2, e2, rfl⟩, b2⟩; have B2 := hid (bl_tr HB9.out b2); clear b2)
        | (go_at_call 7; refine (alive_any _).mono ?_; rintro e w3 ⟨rfl, b3⟩; have B3 := hid (bl_tr B2.out b3); clear b3))
      go_ret
      exact ⟨rfl, B3.out⟩
    · clear HM
      go_wp2_with (first
        | (go_at_call 5; refine (HA.out _ HB9.out).mono ?_; rintro e w2 ⟨⟨a2, c2, d2, e2, rfl⟩, b2⟩; have B2 := hid (bl_tr HB9.out b2); clear b2)
        | (go_at_call 7; refine (alive_any _).mono ?_; rintro e w3 ⟨rfl, b3⟩; have B3 := hid (bl_tr B2.out b3); clear b3))
      go_ret
      exact ⟨rfl, B3.out⟩)
end Go.Proofs.YtjodgnkhociaaaaGreat

namespace Go.Proofs.YtjodgnkhociaaaaGreat
open Go.RowKit
set_option linter.unusedVariables false
set_option linter.unusedSimpArgs false

/-- What a slice that is appended holds. -/
def Sr (w : World) (k : Nat) (v : Value) (m : Nat) (news : List Value) : Prop := (∃ c, v = .slice none 0 c ∧ m = 0 ∧ news = []) ∨ ∃ ad c, v = .slice (some ad) m c ∧ news.length = m * k ∧ (∀ (j : Nat) u, news[j]? = some u → w.cell? (ad.add j) = some u) ∧ ∀ u ∈ news, u.oneCell' = true
theorem Sr.below {w w' : World} {k : Nat} {v : Value} {m : Nat} {news : List Value} (h : Sr w k v m news) (hb : Below w.heap.size w w') : Sr w' k v m news := by
  rcases h with h | ⟨ad, c, h1, h2, h3, h4⟩
  · exact .inl h
  · exact .inr ⟨ad, c, h1, h2, fun j u hu => (hb.cell (World.block_lt_of_cell? w _ (h3 j u hu))).trans (h3 j u hu), h4⟩

theorem run_app_none {P : Program} {w : World} (base : Nat) (t ty e : TypeId) (i : TypeInfo) (size : Nat) (ht : P.underlying t = some (.slice e)) (hi : P.info? e = some i)
    (v : Value) (n : Nat) (xs : List Value) (hown : w.ownsRow base e size v n xs) (c : Nat) :
    (Builtin.append_ #[t, t] ty #[v, .slice none 0 c]).run P w = .ok v w := by
  rcases hown.2 with ⟨rfl, rfl⟩ | ⟨g, cap, cur, rfl, _, _, hnc, _⟩
  · simp [Builtin.append_, run_underlying ht, sizeOf, typeInfo, hi, Builtin.lenOf, Builtin.firstCells]
  · simp [Builtin.append_, run_underlying ht, sizeOf, typeInfo, hi, Builtin.lenOf, Builtin.firstCells, hnc, storeCells]

theorem wp_app {P : Program} {ops : Array Oper} {rest : List Oper} {o : Oper} {a : Act} {w : World} {Q : Exit → Act → World → Prop} (hgd : o.guard = none) (s x : Operand) (t : TypeId)
    (ho : o.op = .call { callee := .builtin .append, args := #[s, x], argTypes := #[t, t] })
    (base : Nat) (e : TypeId) (i : TypeInfo) (z : Value) (size bytes : Nat) (ht : P.underlying t = some (.slice e)) (hi : P.info? e = some i) (hz : i.zero = some z)
    (hsize : i.size = size) (hby : i.bytes = bytes) (hzs : z.cells.size = size) (hsz : 0 < size) (v0 : Value) (n : Nat) (xs : List Value) (hs : a.eval s = v0) (hown : w.ownsRow base e size v0 n xs)
    (v : Value) (m : Nat) (news : List Value) (hx : a.eval x = v) (hsrc : Sr w size v m news) (hm : n + m ≤ 2097152) (hb : bytes ≤ 64) (hg : base ≤ w.heap.size)
    (h : ∀ v' w', w'.ownsRow base e size v' (n + m) (xs ++ news) → Below base w w' → wpList P ops Q rest (a.put o.dst v') w') : wpList P ops Q (o :: rest) a w := by
  rcases hsrc with ⟨c, rfl, rfl, rfl⟩ | ⟨ad, c, rfl, hl, hnews, h1⟩
  · refine wpList_plain hgd fun K hK => ?_
    have hrun := run_app_none (P := P) (w := w) base t o.type e i size ht hi v0 n xs hown c
    unfold Oper.wp
    simp [execOp, ho, resolve, invoke, builtin, hs, hx, hrun, Result.andThen]
    refine hK _ _ (h _ _ ?_ (Below.refl _ _))
    rw [Nat.add_zero, List.append_nil]
    exact hown
  · refine wpList_append_own w hgd s x t ho base e i z size bytes ht hi hz hsize hby hzs hsz v0 n xs hs hown ad m c news hx hl hnews h1 (by unfold maxLen; omega) (Nat.le_trans (Nat.mul_le_mul hm hb) (by decide)) hg ?_
    intro v' w' h2 h3 _
    exact h v' w' h2 ((Below.refl base w).grown h3 hg (fun b hb => (hown.lt b hb).1))

theorem StL.sr {w : World} {K : Nat → Prop} {v : Value} {l : List ByteArray} (h : StL w K v l) : Sr w 1 v l.length (l.map strV) := by
  rcases h with ⟨b, o, c, rfl, -, -, -, hc⟩ | ⟨rfl, p, c, rfl⟩
  · refine .inr ⟨_, c, rfl, by simp, fun j u hu => ?_, fun u hu => ?_⟩
    · rw [List.getElem?_map] at hu
      obtain ⟨x, hx, rfl⟩ := Option.map_eq_some_iff.1 hu
      obtain ⟨vs, hl, hcs, rfl⟩ := hc j x hx
      have := hcs 0 _ rfl
      rw [show (⟨b, o, none⟩ : Addr).add j = ⟨b, o + j * 1 + 0, none⟩ by simp [Addr.add]]
      exact this
    · obtain ⟨x, -, rfl⟩ := List.mem_map.1 hu
      rfl
  · cases p with
    | none => exact .inl ⟨c, rfl, rfl, rfl⟩
    | some ad => exact .inr ⟨ad, c, rfl, rfl, fun j u hu => by simp at hu, fun u hu => by simp at hu⟩
theorem VAtL.sr {w : World} {K : Nat → Prop} {n : Nat} {v : Value} {l : List Vl} (h : VAtL w K n v l) : ∃ vals, vals.length = l.length * 4 ∧ Sr w 4 v l.length vals ∧ ∀ (i : Nat) x, l[i]? = some x → ∃ vs, VAt w K n vs x ∧ Seg vals (i * 4) vs := by
  rcases h with ⟨b, o, c, rfl, -, -, -, hc⟩ | ⟨rfl, p, c, rfl⟩
  · have hcell : ∀ j, j < l.length * 4 → ∃ u, w.cell? ⟨b, o + j, none⟩ = some u ∧ u.oneCell' = true := by
      intro j hj
      obtain ⟨x, hx⟩ : ∃ x, l[j / 4]? = some x := ⟨_, List.getElem?_eq_getElem (by omega)⟩
      obtain ⟨vs, hl, hcs, hv⟩ := hc _ x hx
      obtain ⟨a1, c1, rfl, -⟩ := hv.form
      rcases (by omega : j % 4 = 0 ∨ j % 4 = 1 ∨ j % 4 = 2 ∨ j % 4 = 3) with hr | hr | hr | hr
      · exact ⟨_, by rw [show o + j = o + j / 4 * 4 + 0 by omega]; exact hcs 0 _ rfl, rfl⟩
      · exact ⟨_, by rw [show o + j = o + j / 4 * 4 + 1 by omega]; exact hcs 1 _ rfl, rfl⟩
      · exact ⟨_, by rw [show o + j = o + j / 4 * 4 + 2 by omega]; exact hcs 2 _ rfl, rfl⟩
      · exact ⟨_, by rw [show o + j = o + j / 4 * 4 + 3 by omega]; exact hcs 3 _ rfl, rfl⟩
    have hvl : ((List.range (l.length * 4)).map fun j => (w.cell? ⟨b, o + j, none⟩).getD (.bool false)).length = l.length * 4 := by simp
    have hvals : ∀ (j : Nat) u, ((List.range (l.length * 4)).map fun j => (w.cell? ⟨b, o + j, none⟩).getD (.bool false))[j]? = some u → w.cell? ⟨b, o + j, none⟩ = some u ∧ u.oneCell' = true := by
      intro j u hu
      obtain ⟨hj, e⟩ := List.getElem?_eq_some_iff.1 hu
      rw [hvl] at hj
      obtain ⟨u', h1, h2⟩ := hcell j hj
      rw [List.getElem_map, List.getElem_range, h1] at e
      simp at e
      subst e
      exact ⟨h1, h2⟩
    refine ⟨_, hvl, .inr ⟨_, c, rfl, hvl, fun j u hu => ?_, fun u hu => ?_⟩, fun i x hx => ?_⟩
    · rw [show (⟨b, o, none⟩ : Addr).add j = ⟨b, o + j, none⟩ by simp [Addr.add]]
      exact (hvals j u hu).1
    · obtain ⟨j, hj⟩ := List.getElem?_of_mem hu
      exact (hvals j u hj).2
    · obtain ⟨vs, hl, hcs, hv⟩ := hc i x hx
      refine ⟨vs, hv, fun j u hu => ?_⟩
      have hi := (List.getElem?_eq_some_iff.1 hx).1
      have hj := (List.getElem?_eq_some_iff.1 hu).1
      have h9 := hcs j u hu
      rw [List.getElem?_map, List.getElem?_range (by omega)]
      simp only [Option.map_some, Option.some.injEq]
      rw [show o + (i * 4 + j) = o + i * 4 + j by omega, h9]
      rfl
  · refine ⟨[], rfl, ?_, fun i x hx => by simp at hx⟩
    cases p with
    | none => exact .inl ⟨c, rfl, rfl, rfl⟩
    | some ad => exact .inr ⟨ad, c, rfl, rfl, fun j u hu => by simp at hu, fun u hu => by simp at hu⟩
theorem Seg.left {a b : List Value} {o : Nat} {vs : List Value} (h : Seg a o vs) : Seg (a ++ b) o vs := fun j u hu => by
  have := h j u hu
  rw [List.getElem?_append_left (List.getElem?_eq_some_iff.1 this).1]
  exact this
theorem Seg.right {a b : List Value} {o k : Nat} {vs : List Value} (h : Seg b o vs) (hk : k = a.length + o) : Seg (a ++ b) k vs := fun j u hu => by
  have := h j u hu
  subst hk
  rw [List.getElem?_append_right (by omega), show a.length + o + j - a.length = o + j by omega]
  exact this
/-- The elements of two lists of values behind one another. -/
theorem two_els {w : World} {F n m : Nat} {l1 l2 : List Vl} {v1 v2 : List Value} (hl : v1.length = l1.length * 4) (h1 : ∀ (i : Nat) x, l1[i]? = some x → ∃ vs, VAt w (· < F) n vs x ∧ Seg v1 (i * 4) vs) (h2 : ∀ (i : Nat) x, l2[i]? = some x → ∃ vs, VAt w (· < F) m vs x ∧ Seg v2 (i * 4) vs) :
    ∀ (i : Nat) x, (l1 ++ l2)[i]? = some x → ∃ vs, VAt w (· < F) (max n m) vs x ∧ Seg (v1 ++ v2) (i * 4) vs := by
  intro i x hx
  by_cases hi : i < l1.length
  · rw [List.getElem?_append_left hi] at hx
    obtain ⟨vs, q1, q2⟩ := h1 i x hx
    exact ⟨vs, q1.le (by omega), q2.left⟩
  · rw [List.getElem?_append_right (by omega)] at hx
    obtain ⟨vs, q1, q2⟩ := h2 _ x hx
    exact ⟨vs, q1.le (by omega), q2.right (by rw [hl]; omega)⟩
theorem Arr.all {w : World} {g : Nat} {T : TypeId} {cur : List Value} (h : Arr w g T cur) : Cells w g 0 cur := fun j u hu => by rw [Nat.zero_add]; exact (h.cell j).trans hu
theorem Cells.left {w : World} {b o : Nat} {x y : List Value} (h : Cells w b o (x ++ y)) : Cells w b o x := fun j u hu => h j u (by rw [List.getElem?_append_left (List.getElem?_eq_some_iff.1 hu).1]; exact hu)
theorem Cells.right {w : World} {b o k : Nat} {x y : List Value} (h : Cells w b o (x ++ y)) (hk : k = o + x.length) : Cells w b k y := fun j u hu => by
  have := h (x.length + j) u (by rw [List.getElem?_append_right (by omega), show x.length + j - x.length = j by omega]; exact hu)
  rw [hk, show o + x.length + j = o + (x.length + j) by omega]
  exact this
/-- A pair of patterns whose Kids lie in a row. -/
theorem two_pt {w : World} {B n : Nat} {pv qv : List Value} {p q : Pt} (hp : PtAt w Any n pv p) (hq : PtAt w Any n qv q) (h : Cells w B 0 (pv ++ qv)) : PtAt w Any (n + 1) [.int .i64 7, .string ⟨#[]⟩, .slice none 0 0, .int .i64 0, .slice (some ⟨B, 0, none⟩) 2 2] (.mk 7 ⟨#[]⟩ [] 0 [p, q]) := by
  have hl : pv.length = 5 := by obtain ⟨a, c, a', c', rfl, -, -⟩ := hp.form; rfl
  have hl2 : qv.length = 5 := by obtain ⟨a, c, a', c', rfl, -, -⟩ := hq.form; rfl
  refine ⟨_, _, rfl, .inr ⟨rfl, _, _, rfl⟩, .inl ⟨B, 0, 2, rfl, trivial, (by show (2 : Nat) ≤ 2; decide), (by show (2 : Nat) ≤ maxLen; decide), fun i x hx => ?_⟩⟩
  match i, hx with
  | 0, hx => injection hx with hx; subst hx; exact ⟨pv, hl, h.left, hp⟩
  | 1, hx => injection hx with hx; subst hx; exact ⟨qv, hl2, h.right (by rw [hl]), hq⟩
/-- A pair of values whose Kids lie in a row. -/
theorem two_vl {w : World} {B n : Nat} {pv qv : List Value} {p q : Vl} (hp : VAt w Any n pv p) (hq : VAt w Any n qv q) (h : Cells w B 0 (pv ++ qv)) : VAt w Any (n + 1) [.int .i64 4, .int .i64 0, .string ⟨#[]⟩, .slice (some ⟨B, 0, none⟩) 2 2] (.mk 4 0 ⟨#[]⟩ [p, q]) := by
  have hl : pv.length = 4 := by obtain ⟨a, c, rfl, -⟩ := hp.form; rfl
  have hl2 : qv.length = 4 := by obtain ⟨a, c, rfl, -⟩ := hq.form; rfl
  refine ⟨_, rfl, .inl ⟨B, 0, 2, rfl, trivial, (by show (2 : Nat) ≤ 2; decide), (by show (2 : Nat) ≤ maxLen; decide), fun i x hx => ?_⟩⟩
  match i, hx with
  | 0, hx => injection hx with hx; subst hx; exact ⟨pv, hl, h.left, hp⟩
  | 1, hx => injection hx with hx; subst hx; exact ⟨qv, hl2, h.right (by rw [hl]), hq⟩
end Go.Proofs.YtjodgnkhociaaaaGreat
