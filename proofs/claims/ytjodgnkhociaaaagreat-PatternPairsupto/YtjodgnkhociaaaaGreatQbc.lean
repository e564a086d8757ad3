/- Fits. -/
import Derived.Test.YtjodgnkhociaaaaGreatQbb
namespace Go.Proofs.YtjodgnkhociaaaaGreat
open Go.RowKit
set_option linter.unusedVariables false
set_option linter.unusedSimpArgs false

theorem Vl.cntL_append : ∀ (a b : List Vl), Vl.cntL (a ++ b) = Vl.cntL a + Vl.cntL b
  | [], b => by simp [Vl.cntL]
  | x :: r, b => by rw [List.cons_append, Vl.cntL, Vl.cntL, Vl.cntL_append r b]; omega
theorem aloneR_cnt (k : Int) (s : ByteArray) (n : Int) (v : Vl) : Vl.cntL ((aloneR k s n v).1.map Prod.snd) ≤ v.cnt := by
  unfold aloneR; (repeat' split) <;> simp [Vl.cntL]
mutual
theorem fitR_cnt : ∀ (p : Pt) (v : Vl), Vl.cntL ((fitR p v).1.map Prod.snd) ≤ v.cnt
  | .mk k s q n ks, v => by
    rw [fitR]
    have h1 := fitL_cnt ks v.ks
    have h2 := aloneR_cnt k s n v
    have h3 := Vl.cnt_ks v
    (repeat' split) <;> first | omega | (simp only [List.map_nil, Vl.cntL]; omega)
theorem fitL_cnt : ∀ (l : List Pt) (vs : List Vl), Vl.cntL ((fitL l vs).1.map Prod.snd) ≤ Vl.cntL vs
  | [], vs => by simp [fitL, Vl.cntL]
  | p :: ps, [] => by simp [fitL, Vl.cntL]
  | p :: ps, v :: vs => by
    rw [fitL, Vl.cntL]
    have h1 := fitR_cnt p v
    have h2 := fitL_cnt ps vs
    split
    · simp only [List.map_append, Vl.cntL_append]; omega
    · simp only; omega
end
/-- What Fits answers. -/
def outR (p : Pt) (v : Vl) : List (ByteArray × Vl) := if (fitR p v).2 = true then (fitR p v).1 else []
abbrev StL (w : World) (K : Nat → Prop) (v : Value) (l : List ByteArray) : Prop := GRow w K 1 (fun vs x => vs = [.string x]) v l
theorem own_st {w : World} {base : Nat} {v : Value} {l : List ByteArray} (h : w.ownsRow base STT 1 v l.length (l.map strV)) : StL w (fun b => base ≤ b) v l := by
  rcases h.2 with ⟨rfl, h0⟩ | ⟨g, cap, cur, rfl, hb, hh, hle, hcm, hsz, htk⟩
  · have h0' : l = [] := List.eq_nil_of_length_eq_zero h0
    subst h0'
    exact .inr ⟨rfl, none, 0, rfl⟩
  · refine .inl ⟨g, 0, cap, rfl, hb, hle, by omega, fun i x hx => ⟨[.string x], rfl, fun j u hu => ?_, rfl⟩⟩
    have hj := (List.getElem?_eq_some_iff.1 hu).1
    simp only [List.length_cons, List.length_nil] at hj
    obtain rfl : j = 0 := by omega
    simp only [List.getElem?_cons_zero, Option.some.injEq] at hu
    subst hu
    rw [cell_at hh]
    have hq : (l.map strV)[i]? = some (.string x) := by rw [List.getElem?_map, hx]; rfl
    rw [← htk, List.getElem?_take] at hq
    split at hq
    · rw [Array.getElem?_toList] at hq
      rw [show 0 + i * 1 + 0 = i by omega]
      exact hq
    · cases hq
theorem own_vals {w : World} {base N F : Nat} {v : Value} {l : List Vl} {xs : List Value} (h : w.ownsRow base VT 4 v l.length xs) (he : ∀ (i : Nat) y, l[i]? = some y → ∃ vs, VAt w (· < F) N vs y ∧ Seg xs (i * 4) vs) : VAtL w Any N v l := by
  rcases h.2 with ⟨rfl, h0⟩ | ⟨g, cap, cur, rfl, hb, hh, hle, hcm, hsz, htk⟩
  · have h0' : l = [] := List.eq_nil_of_length_eq_zero h0
    subst h0'
    exact .inr ⟨rfl, none, 0, rfl⟩
  · refine .inl ⟨g, 0, cap, rfl, trivial, hle, by omega, fun i x hx => ?_⟩
    obtain ⟨vs, h1, h2⟩ := he i x hx
    obtain ⟨a, c, e, -⟩ := h1.form
    refine ⟨vs, by rw [e]; rfl, fun j u hu => ?_, h1.any⟩
    have hq := h2 j u hu
    rw [← htk, List.getElem?_take] at hq
    split at hq
    · rw [cell_at hh, Nat.zero_add]
      rw [Array.getElem?_toList] at hq
      exact hq
    · cases hq

set_option maxHeartbeats 4000000 in
set_option maxRecDepth 100000 in
theorem PFits_any (w : World) (n : Nat) (vs : List Value) (p : Pt) (hP : PtAt w Any n vs p) (M : Nat) (ws : List Value) (v : Vl) (hV : VAt w Any M ws v) (hcp : p.cnt ≤ 1048576) (hcv : v.cnt ≤ 1048576) :
    Calls Tryz.prog 5 #[.agg vs.toArray, .agg ws.toArray] w fun e w' => (∃ a c a' c', e = .returned (.tuple #[.slice a (outR p v).length c, .slice a' (outR p v).length c', .bool (fitR p v).2]) ∧ StL w' (fun b => w.heap.size ≤ b) (.slice a (outR p v).length c) ((outR p v).map Prod.fst) ∧ ∃ N, VAtL w' (fun b => w.heap.size ≤ b) N (.slice a' (outR p v).length c') ((outR p v).map Prod.snd)) ∧ Below w.heap.size w w' := by
  have hfo := hP.old
  have hvo := hV.old
  obtain ⟨pa, pc, ka, kc, rfl, -, -⟩ := hP.form
  obtain ⟨va, vc, rfl, -⟩ := hV.form
  have hlen := fitR_len p v
  have hcnt := fitR_cnt p v
  -- the world behind the boxes
  have hW : ∀ W3, W3 = ((w.alloc (.cells #[.int .i64 p.k, .string p.s, .slice pa p.p.length pc, .int .i64 p.n, .slice ka p.ks.length kc] 25)).alloc (.cells #[.int .i64 v.k, .int .i64 v.n, .string v.s, .slice va v.ks.length vc] VT)).alloc (.cells #[.slice none 0 0, .slice none 0 0] FIT) →
      Below w.heap.size w W3 ∧ Calls Tryz.prog 9 #[.pointer (some ⟨w.heap.size + 2, 0, none⟩), .pointer (some ⟨w.heap.size, 0, none⟩), .pointer (some ⟨w.heap.size + 1, 0, none⟩)] W3 (FPost (w.heap.size + 2) (w.heap.size + 3) [] [] W3 (fitR p v)) := by
    rintro W3 rfl
    have hb3 := bl_alloc (bl_alloc (bl_alloc (Below.refl w.heap.size w) (.cells #[.int .i64 p.k, .string p.s, .slice pa p.p.length pc, .int .i64 p.n, .slice ka p.ks.length kc] 25)) (.cells #[.int .i64 v.k, .int .i64 v.n, .string v.s, .slice va v.ks.length vc] VT)) (.cells #[.slice none 0 0, .slice none 0 0] FIT)
    refine ⟨hb3, ?_⟩
    have x0 : Arr (w.alloc (.cells #[.int .i64 p.k, .string p.s, .slice pa p.p.length pc, .int .i64 p.n, .slice ka p.ks.length kc] 25)) w.heap.size 25 [.int .i64 p.k, .string p.s, .slice pa p.p.length pc, .int .i64 p.n, .slice ka p.ks.length kc] := ⟨heap_alloc_at _ _⟩
    have x0' := (x0.stays (bl_alloc (Below.refl _ _) (.cells #[.int .i64 v.k, .int .i64 v.n, .string v.s, .slice va v.ks.length vc] VT))).stays (bl_alloc (Below.refl _ _) (.cells #[.slice none 0 0, .slice none 0 0] FIT))
    have x1 : Arr ((w.alloc (.cells #[.int .i64 p.k, .string p.s, .slice pa p.p.length pc, .int .i64 p.n, .slice ka p.ks.length kc] 25)).alloc (.cells #[.int .i64 v.k, .int .i64 v.n, .string v.s, .slice va v.ks.length vc] VT)) (w.heap.size + 1) VT [.int .i64 v.k, .int .i64 v.n, .string v.s, .slice va v.ks.length vc] := ⟨by have := heap_alloc_at (w.alloc (.cells #[.int .i64 p.k, .string p.s, .slice pa p.p.length pc, .int .i64 p.n, .slice ka p.ks.length kc] 25)) (.cells #[.int .i64 v.k, .int .i64 v.n, .string v.s, .slice va v.ks.length vc] VT); rw [size_alloc] at this; exact this⟩
    have x1' := x1.stays (bl_alloc (Below.refl _ _) (.cells #[.slice none 0 0, .slice none 0 0] FIT))
    have x2 : Arr (((w.alloc (.cells #[.int .i64 p.k, .string p.s, .slice pa p.p.length pc, .int .i64 p.n, .slice ka p.ks.length kc] 25)).alloc (.cells #[.int .i64 v.k, .int .i64 v.n, .string v.s, .slice va v.ks.length vc] VT)).alloc (.cells #[.slice none 0 0, .slice none 0 0] FIT)) (w.heap.size + 2) FIT [.slice none 0 0, .slice none 0 0] := ⟨by have := heap_alloc_at ((w.alloc (.cells #[.int .i64 p.k, .string p.s, .slice pa p.p.length pc, .int .i64 p.n, .slice ka p.ks.length kc] 25)).alloc (.cells #[.int .i64 v.k, .int .i64 v.n, .string v.s, .slice va v.ks.length vc] VT)) (.cells #[.slice none 0 0, .slice none 0 0] FIT); rw [size_alloc, size_alloc] at this; exact this⟩
    refine fit_all (w.heap.size + 2) (w.heap.size + 3) n _ (.slice none 0 0) (.slice none 0 0) [] [] [] 0 w.heap.size 0 [.int .i64 p.k, .string p.s, .slice pa p.p.length pc, .int .i64 p.n, .slice ka p.ks.length kc] p (w.heap.size + 1) 0 [.int .i64 v.k, .int .i64 v.n, .string v.s, .slice va v.ks.length vc] v M ⟨x2, World.ownsRow_nil _ _ _ _, World.ownsRow_nil _ _ _ _, fun b e => by simp [Value.ownBlock] at e, fun i y hy => by simp at hy, Nat.lt_succ_self _, by rw [size_alloc, size_alloc, size_alloc]; omega⟩ (by simp; omega) (by simp; omega) ?_ ?_ (by omega) ?_ ?_ (by omega)
    · intro j u hu; rw [Nat.zero_add, x0'.cell]; exact hu
    · exact hfo.move (Keeps.of_below hb3) (fun b hb => by omega)
    · intro j u hu; rw [Nat.zero_add, x1'.cell]; exact hu
    · exact hvo.move (Keeps.of_below hb3) (fun b hb => by omega)
  obtain ⟨hB, hQ0⟩ := hW _ rfl
  have HB := hid hB
  have hQ : Hid (Calls Tryz.prog 9 #[.pointer (some ⟨w.heap.size + 2, 0, none⟩), .pointer (some ⟨w.heap.size, 0, none⟩), .pointer (some ⟨w.heap.size + 1, 0, none⟩)] _ fun e w' => e = .returned (.bool (fitR p v).2) ∧ (∃ nv' pv' xs' N', Ft w' (w.heap.size + 2) (w.heap.size + 3) nv' pv' ((fitR p v).1.map Prod.fst) ((fitR p v).1.map Prod.snd) xs' N') ∧ Fe (w.heap.size + 2) (w.heap.size + 3) _ w') := hid (hQ0.mono fun e w' ⟨h1, h2, h3⟩ => ⟨h1, by simpa using h2, h3⟩)
  have hO : outR p v = if (fitR p v).2 = true then (fitR p v).1 else [] := rfl
  rw [hO]
  generalize fitR p v = r at hQ hlen hcnt hO ⊢
  clear hP hV hfo hvo hW hB hQ0 hO
  obtain ⟨l, t⟩ := r
  cases t with
  | false =>
    simp only [Bool.false_eq_true, if_false]
    go_enter Tryz.func5, Tryz.ntmps5
    go_wp2_with (go_at_call 9; refine hQ.out.mono ?_; rintro e w9 ⟨rfl, -, h9⟩; have H9 := hid h9; clear h9)
    go_ret3
    exact ⟨⟨none, 0, none, 0, rfl, GRow.empty _ _, 0, GRow.empty _ _⟩, HB.out.trans ((H9.out.below (by omega)).mono (by omega))⟩
  | true =>
    simp only [if_true]
    have hl1 := hid (show (l.map Prod.fst).length = l.length from List.length_map _)
    have hl2 := hid (show (l.map Prod.snd).length = l.length from List.length_map _)
    simp only at hcnt hQ
    generalize l.map Prod.fst = l1 at hQ hl1 ⊢
    generalize l.map Prod.snd = l2 at hQ hl2 hcnt ⊢
    go_enter Tryz.func5, Tryz.ntmps5
    go_wp2_with (go_at_call 9; refine hQ.out.mono ?_; rintro e w9 ⟨rfl, h8, h9⟩; have H8 := hid h8; have H9' := hid h9; clear h8 h9)
    obtain ⟨nv', pv', xs', N', hFt⟩ := H8.out
    obtain ⟨pa', pc', rfl⟩ := own_form hFt.pown
    obtain ⟨na', nc', rfl⟩ := own_form hFt.nown
    have HF := hid hFt
    have s0 : w9.drew.cell? ⟨w.heap.size + 2, 0, none⟩ = some (.slice na' l1.length nc') ∧ w9.drew.cell? ⟨w.heap.size + 2, 1, none⟩ = some (.slice pa' l2.length pc') := ⟨hFt.bx.cell 0, hFt.bx.cell 1⟩
    have hL : Hid (Calls Tryz.prog 10 #[.slice pa' l2.length pc', .func (.func 11) #[] #[]] w9.drew fun e w' => ∃ a9 c9 N9, e = .returned (.slice a9 l2.length c9) ∧ VAtL w' (fun b => w9.drew.heap.size ≤ b) N9 (.slice a9 l2.length c9) l2 ∧ Below w9.drew.heap.size w9.drew w') := by
      refine (renL_any N' w9.drew _ l2 (GRow.move (own_vals hFt.pown hFt.el) (Keeps.of_below (Below.refl _ _).drew) (fun _ h => h) fun _ _ h => h.below (Below.refl _ _).drew) (by omega)).mono ?_
      rintro e w' ⟨v', n', rfl, h1, h2⟩
      obtain ⟨a9, c9, rfl, -⟩ := h1.form
      exact ⟨a9, c9, n', rfl, h1, h2⟩
    have hlt : w.heap.size + 2 < w9.heap.size := hFt.bx.lt
    have hk : Hid (∀ wz, Below w9.drew.heap.size w9.drew wz → wz.cell? ⟨w.heap.size + 2, 0, none⟩ = some (.slice na' l1.length nc') ∧ wz.cell? ⟨w.heap.size + 2, 1, none⟩ = some (.slice pa' l2.length pc')) := fun wz hb => by
      have e := hb.block (w.heap.size + 2) hlt
      exact ⟨(World.cell?_of_block (w := w9.drew) e).trans s0.1, (World.cell?_of_block (w := w9.drew) e).trans s0.2⟩
    clear hFt H8 hQ hlen hcnt hlt
    go_wp2
    refine wp_region_held_drew (S := fun wz => wz.cell? ⟨w.heap.size + 2, 0, none⟩ = some (.slice na' l1.length nc') ∧ wz.cell? ⟨w.heap.size + 2, 1, none⟩ = some (.slice pa' l2.length pc')) (by kernel_rfl) (s0) (fun hS => ?_)
    refine wpAnyH_take (i := 0) (v := ?_) rfl (by kernel_rfl) (by kernel_rfl) (by kernel_rfl) (fun _ _ _ h => h) (Or.inl ⟨by rfl, ?_⟩) hS ?_
    rotate_left
    · intro wz hz; go_simp; try with_reducible rfl
    try simp only [Act.put, List.setIfInBounds_toArray, List.set_cons_zero, List.set_cons_succ, List.getElem_toArray, List.getElem_cons_succ, List.getElem_cons_zero]
    refine wpAnyH_take (i := 1) (v := ?_) rfl (by kernel_rfl) (by kernel_rfl) (by kernel_rfl) (fun _ _ _ h => h) (Or.inl ⟨by rfl, ?_⟩) hS ?_
    rotate_left
    · intro wz hz; obtain ⟨yy0, yy1⟩ := hz; go_simp; try with_reducible rfl
    try simp only [Act.put, List.setIfInBounds_toArray, List.set_cons_zero, List.set_cons_succ, List.getElem_toArray, List.getElem_cons_succ, List.getElem_cons_zero]
    refine wpAnyH_take (i := 2) (v := ?_) rfl (by kernel_rfl) (by kernel_rfl) (by kernel_rfl) (fun _ _ _ h => h) (Or.inl ⟨by rfl, ?_⟩) hS ?_
    rotate_left
    · intro wz hz; go_simp; try with_reducible rfl
    try simp only [Act.put, List.setIfInBounds_toArray, List.set_cons_zero, List.set_cons_succ, List.getElem_toArray, List.getElem_cons_succ, List.getElem_cons_zero]
    refine wpAnyH_take (i := 3) (v := ?_) rfl (by kernel_rfl) (by kernel_rfl) (by kernel_rfl) (fun _ _ _ h => h) (Or.inl ⟨by rfl, ?_⟩) hS ?_
    rotate_left
    · intro wz hz; obtain ⟨yy0, yy1⟩ := hz; go_simp; try with_reducible rfl
    try simp only [Act.put, List.setIfInBounds_toArray, List.set_cons_zero, List.set_cons_succ, List.getElem_toArray, List.getElem_cons_succ, List.getElem_cons_zero]
    refine wpAnyH_ready (rs := [4]) (by kernel_rfl) (by simp) (AllReadyH.cons rfl (fun K hK => ?a1_4) AllReadyH.nil)
    case' a1_4 =>
      go_simp
      refine hL.out.mono ?_
      rintro e w10 ⟨a9, c9, N9, rfl, h9, b9⟩
      have H9 := hid h9
      have B9 := hid b9
      clear h9 b9
      refine hK.out _ _ ((hk.out _ B9.out)) (fun hSn => ?_)
      clear hK K hS
      have hS := hSn
      clear hSn
      try simp only [Act.put, List.setIfInBounds_toArray, List.set_cons_zero, List.set_cons_succ, List.getElem_toArray, List.getElem_cons_succ, List.getElem_cons_zero]
      refine wpAnyH_take (i := 5) (v := ?_) rfl (by kernel_rfl) (by kernel_rfl) (by kernel_rfl) (fun _ _ _ h => h) (Or.inl ⟨by rfl, ?_⟩) hS ?_
      rotate_left
      · intro wz hz; go_simp; try with_reducible rfl
      try simp only [Act.put, List.setIfInBounds_toArray, List.set_cons_zero, List.set_cons_succ, List.getElem_toArray, List.getElem_cons_succ, List.getElem_cons_zero]
      refine wpAnyH_take (i := 6) (v := ?_) rfl (by kernel_rfl) (by kernel_rfl) (by kernel_rfl) (fun _ _ _ h => h) (Or.inl ⟨by rfl, ?_⟩) hS ?_
      rotate_left
      · intro wz hz; go_simp; try with_reducible rfl
      try simp only [Act.put, List.setIfInBounds_toArray, List.set_cons_zero, List.set_cons_succ, List.getElem_toArray, List.getElem_cons_succ, List.getElem_cons_zero]
      refine wpAnyH_take (i := 7) (v := ?_) rfl (by kernel_rfl) (by kernel_rfl) (by kernel_rfl) (fun _ _ _ h => h) (Or.inl ⟨by rfl, ?_⟩) hS ?_
      rotate_left
      · intro wz hz; go_simp; try with_reducible rfl
      try simp only [Act.put, List.setIfInBounds_toArray, List.set_cons_zero, List.set_cons_succ, List.getElem_toArray, List.getElem_cons_succ, List.getElem_cons_zero]
      refine wpAnyH_done (by kernel_rfl) ?_ _
    go_wp2
    go_ret3
    have hst := own_st HF.out.nown
    have hb2 : Below w9.heap.size w9 w10 := bl_tr (Below.refl _ _).drew B9.out
    have hsz : w.heap.size ≤ w9.heap.size := by have := H9'.out.size; rw [size_alloc, size_alloc, size_alloc] at this; omega
    refine ⟨⟨na', nc', a9, c9, by (show Ending.returned (.tuple #[.slice na' l1.length nc', .slice a9 l2.length c9, .bool true]) = _); rw [hl1.out, hl2.out], ?_, N9, ?_⟩, HB.out.trans (((H9'.out.below (by omega)).mono (by omega)).trans (hb2.mono hsz))⟩
    · rw [← hl1.out]
      exact GRow.move hst (Keeps.of_below hb2) (fun b hb => by omega) fun _ _ h => h
    · rw [← hl2.out]
      exact GRow.move H9.out (Keeps.refl _ _) (fun b hb => by have hb : w9.heap.size ≤ b := hb; omega) fun _ _ h => VAt.move (Keeps.refl _ _) (fun b hb => by have hb : w9.heap.size ≤ b := hb; omega) h
end Go.Proofs.YtjodgnkhociaaaaGreat
