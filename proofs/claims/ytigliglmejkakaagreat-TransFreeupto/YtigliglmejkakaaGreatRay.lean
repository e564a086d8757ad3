/- The makers behind alive's labels: out, types$1, types$2. The binary search in alive's three labels. -/
import Derived.Test.YtigliglmejkakaaGreatRax
namespace Go.Proofs.YtigliglmejkakaaGreat
open Go.RowKit
set_option linter.unusedVariables false
set_option linter.unusedSimpArgs false

theorem ok5 : Tp.okT (.mk 6 5 []) = true := by decide
theorem okList : okSum listC = true := by decide
theorem okC0 : okC 5 ⟨(ByteArray.mk #[78, 105, 108]), []⟩ = true := by decide
theorem okC1 : okC 5 ⟨(ByteArray.mk #[67, 111, 110, 115]), [listT]⟩ = true := by decide
theorem TtAns2.yes {y : Tgt.Tt} {w : World} {e : Ending} {w' : World} (h : TtAns2 true y w e w') : ∃ a' c' a c N, e = .returned (.tuple #[.agg #[.int .i64 y.k, .int .i64 y.n, .slice a' y.ls.length c', .slice a y.ks.length c], .int .i64 0]) ∧ Tgt.TAt w' (fun b => w.heap.size ≤ b) N [.int .i64 y.k, .int .i64 y.n, .slice a' y.ls.length c', .slice a y.ks.length c] y := by
  rcases h with ⟨-, h⟩ | ⟨h, -⟩
  · exact h
  · cases h

theorem yes1 {w : World} {e : Ending} {w' : World} (h : TtAns true (Tp.made 0 (.mk 6 5 [])) w e w') : ∃ (q1' : Option Addr) (d1' : Nat) (q1 : Option Addr) (d1 N1 : Nat), e = .returned (.tuple #[.agg #[.int .i64 6, .int .i64 5, .slice none 0 0, .slice q1 0 d1], .int .i64 0]) ∧ Tgt.TAt w' (fun b => w.heap.size ≤ b) N1 [.int .i64 6, .int .i64 5, .slice none 0 0, .slice q1 0 d1] (.mk 6 5 [] []) := by
  rcases h with ⟨-, a, c, N, g1, g2, -⟩ | ⟨h, -⟩
  · exact ⟨none, 0, a, c, N, g1, g2⟩
  · cases h

set_option maxHeartbeats 2000000 in
set_option maxRecDepth 100000 in
theorem out_14 (w : World) (tb r : Nat) (hm : Arr w tb 67 [.string (ByteArray.mk #[116]), .int .i64 6, .int .i64 5, .slice none 0 0, .slice (some ⟨r, 0, none⟩) 2 2]) (hl : CtL w Any 2 (.slice (some ⟨r, 0, none⟩) 2 2) listC) :
    Calls Tryz.prog 128 #[.pointer (some ⟨tb, 0, none⟩)] w fun e w' => (∃ k n a' l' c' a l c, e = .returned (.tuple #[.agg #[.int .i64 k, .int .i64 n, .slice a' l' c', .slice a l c], .int .i64 0])) ∧ Below w.heap.size w w' := by
  have HT : Hid (∀ wz, Below w.heap.size w wz → Calls Tryz.prog 6 #[.agg #[.int .i64 6, .int .i64 5, .slice none 0 0]] wz fun e w' => (∃ (q1' : Option Addr) (d1' : Nat) (q1 : Option Addr) (d1 N1 : Nat), e = .returned (.tuple #[.agg #[.int .i64 6, .int .i64 5, .slice none 0 0, .slice q1 0 d1], .int .i64 0]) ∧ Tgt.TAt w' (fun b => wz.heap.size ≤ b) N1 [.int .i64 6, .int .i64 5, .slice none 0 0, .slice q1 0 d1] (.mk 6 5 [] [])) ∧ Below wz.heap.size wz w') := fun wz hz => (TType_any wz 1 _ (.mk 6 5 []) (tat0 6 5 ⟨by omega, by omega⟩ ⟨by omega, by omega⟩) (by decide)).mono fun e w' ⟨h1, h2⟩ => ⟨(yes1 (by rw [← ok5]; exact h1)), h2⟩
  obtain ⟨y2, hy2⟩ : ∃ y2, sumT listC = y2 := ⟨_, rfl⟩
  have HSu : Hid (∀ wz, Below w.heap.size w wz → Calls Tryz.prog 51 #[.slice (some ⟨r, 0, none⟩) 2 2] wz fun e w' => (∃ q2' d2' q2 d2 N2, e = .returned (.tuple #[.agg #[.int .i64 y2.k, .int .i64 y2.n, .slice q2' y2.ls.length d2', .slice q2 y2.ks.length d2], .int .i64 0]) ∧ Tgt.TAt w' (fun b => wz.heap.size ≤ b) N2 [.int .i64 y2.k, .int .i64 y2.n, .slice q2' y2.ls.length d2', .slice q2 y2.ks.length d2] y2) ∧ Below wz.heap.size wz w') := fun wz hz => (Sum_any wz 2 _ listC (hl.below hz) (by decide) (by decide)).mono fun e w' ⟨h1, h2⟩ => ⟨by rw [okList, hy2] at h1; exact h1.yes, h2⟩
  have HB1 : Hid (Below w.heap.size w (w.alloc (.cells #[.int .i64 0, .int .i64 0, .slice none 0 0, .slice none 0 0] 28))) := bl_alloc (Below.refl _ _) _
  have Y1 : Hid (Arr (w.alloc (.cells #[.int .i64 0, .int .i64 0, .slice none 0 0, .slice none 0 0] 28)) w.heap.size 28 [.int .i64 0, .int .i64 0, .slice none 0 0, .slice none 0 0]) := ⟨heap_alloc_at _ _⟩
  have HM1 := hid (hm.stays HB1.out)
  have m1 := HM1.out.cell
  have HSS : Hid (∀ (W : World) i u, Below w.heap.size w W → Below w.heap.size w (W.setCell ⟨w.heap.size, i, none⟩ u)) := fun W i u h => bl_set _ _ h (Nat.le_refl _)
  clear hm hl hy2
  go_enter Tryz.func128, Tryz.ntmps128
  go_wp2_with (first | (go_at_call 6; refine (HT.out _ HB1.out).mono ?_; rintro e w2 ⟨⟨q1', d1', q1, d1, N1, rfl, hT2⟩, b2⟩; have hb2 := bl_alloc b2 (.cells #[.int .i64 6, .int .i64 5, .slice none 0 0, .slice q1 0 d1] 28); have HB2 := hid (bl_tr HB1.out hb2); have Y2 := hid (Y1.out.stays hb2); have HM2 := hid (HM1.out.stays hb2); have m2 := HM2.out.cell; have A2 : Hid (Arr (w2.alloc (.cells #[.int .i64 6, .int .i64 5, .slice none 0 0, .slice q1 0 d1] 28)) w2.heap.size 28 [.int .i64 6, .int .i64 5, .slice none 0 0, .slice q1 0 d1]) := ⟨heap_alloc_at _ _⟩; have T2 := hid ((hT2.any).below (bl_alloc (Below.refl _ _) (.cells #[.int .i64 6, .int .i64 5, .slice none 0 0, .slice q1 0 d1] 28))); clear b2 hb2 hT2 m1 HT) | (go_at_call 51; refine (HSu.out _ HB2.out).mono ?_; rintro e w3 ⟨⟨q2', d2', q2, d2, N2, rfl, hT3⟩, b3⟩; have hb3 := bl_alloc b3 (.cells #[.int .i64 y2.k, .int .i64 y2.n, .slice q2' y2.ls.length d2', .slice q2 y2.ks.length d2] 28); have HB3 := hid (bl_tr HB2.out hb3); have Y3 := hid (Y2.out.stays hb3); have A3 := hid (A2.out.stays hb3); have T3 := hid (T2.out.below hb3); have C3 : Hid (Arr (w3.alloc (.cells #[.int .i64 y2.k, .int .i64 y2.n, .slice q2' y2.ls.length d2', .slice q2 y2.ks.length d2] 28)) w3.heap.size 28 [.int .i64 y2.k, .int .i64 y2.n, .slice q2' y2.ls.length d2', .slice q2 y2.ks.length d2]) := ⟨heap_alloc_at _ _⟩; have U3 := hid (hT3.any.below (bl_alloc (Below.refl _ _) (.cells #[.int .i64 y2.k, .int .i64 y2.n, .slice q2' y2.ls.length d2', .slice q2 y2.ks.length d2] 28))); have x3 := A3.out.cell; have y3 := C3.out.cell; clear b3 hb3 hT3 m2 HSu) | (go_at_call 49; refine (both_any _ Tgt.Any (max N1 N2) 4 (.mk 6 5 [] []) y2 none q1 q2' q2 0 d1 d2' d2 ⟨by omega, by omega⟩ (T3.out.le (Nat.le_max_left _ _)) (U3.out.le (Nat.le_max_right _ _)) (fun _ _ => trivial)).mono ?_; rintro e w4 ⟨q4, d4, rfl, -, b4⟩; have HB4 := hid (bl_tr HB3.out b4); have r4 := (Y3.out.stays b4).cell; have s4 := (Y3.out.stays b4).frozen; clear b4))
  refine bodyPost_ret (v := .tuple #[.agg #[.int .i64 4, .int .i64 0, .slice none 0 0, .slice q4 2 d4], .int .i64 0]) (by rw [results_cell2t (fn := Tryz.f128) (p := 2) (a := 3) (ty := 28) (by kernel_rfl)]; simp [go_sem, r4, s4]) rfl ?_
  exact ⟨⟨_, _, _, _, _, _, _, _, rfl⟩, HSS.out _ _ _ (HSS.out _ _ _ (HSS.out _ _ _ (HSS.out _ _ _ HB4.out)))⟩

set_option maxHeartbeats 1000000 in
set_option maxRecDepth 100000 in
theorem made1_14 (w : World) (m tb r : Nat) (hp : Arr w m 216 [.pointer (some ⟨tb, 0, none⟩)]) (hm : Arr w tb 67 [.string (ByteArray.mk #[116]), .int .i64 6, .int .i64 5, .slice none 0 0, .slice (some ⟨r, 0, none⟩) 2 2]) (hl : CtL w Any 2 (.slice (some ⟨r, 0, none⟩) 2 2) listC) :
    Calls Tryz.prog 127 #[.pointer (some ⟨m, 0, none⟩)] w fun e w' => (∃ k n a' l' c' a l c, e = .returned (.tuple #[.agg #[.int .i64 k, .int .i64 n, .slice a' l' c', .slice a l c], .int .i64 0])) ∧ Below w.heap.size w w' := by
  have HB1 : Hid (Below w.heap.size w (w.alloc (.cells #[.int .i64 0, .int .i64 0, .slice none 0 0, .slice none 0 0] 28))) := bl_alloc (Below.refl _ _) _
  have Y1 : Hid (Arr (w.alloc (.cells #[.int .i64 0, .int .i64 0, .slice none 0 0, .slice none 0 0] 28)) w.heap.size 28 [.int .i64 0, .int .i64 0, .slice none 0 0, .slice none 0 0]) := ⟨heap_alloc_at _ _⟩
  have HQ := hid (out_14 (w.alloc (.cells #[.int .i64 0, .int .i64 0, .slice none 0 0, .slice none 0 0] 28)) tb r (hm.stays HB1.out) (hl.below HB1.out))
  have p1 := (hp.stays HB1.out).cell
  have HSS : Hid (∀ (W : World) i u, Below w.heap.size w W → Below w.heap.size w (W.setCell ⟨w.heap.size, i, none⟩ u)) := fun W i u h => bl_set _ _ h (Nat.le_refl _)
  clear hp hm hl
  go_enter Tryz.func127, Tryz.ntmps127
  go_wp2_with (go_at_call 128; refine HQ.out.mono ?_; rintro e w2 ⟨⟨k, n, a', l', c', a, l, c, rfl⟩, b2⟩; have HB2 := hid (bl_tr HB1.out b2); have r2 := (Y1.out.stays b2).cell; have s2 := (Y1.out.stays b2).frozen; clear b2)
  refine bodyPost_ret (v := .tuple #[.agg #[.int .i64 k, .int .i64 n, .slice a' l' c', .slice a l c], .int .i64 0]) (by rw [results_cell2t (fn := Tryz.f127) (p := 1) (a := 2) (ty := 28) (by kernel_rfl)]; simp [go_sem, r2, s2]) rfl ?_
  exact ⟨⟨_, _, _, _, _, _, _, _, rfl⟩, HSS.out _ _ _ (HSS.out _ _ _ (HSS.out _ _ _ (HSS.out _ _ _ HB2.out)))⟩

set_option maxHeartbeats 2000000 in
set_option maxRecDepth 100000 in
theorem made2_14 (w : World) (m tb r cb n : Nat) (c : Ct) (ga : Option Addr) (gc : Nat) (hok : okC 5 c = true) (hcc : Tp.cntL c.args ≤ 1048576) (hp : Arr w m 216 [.pointer (some ⟨tb, 0, none⟩)]) (hm : Arr w tb 67 [.string (ByteArray.mk #[116]), .int .i64 6, .int .i64 5, .slice none 0 0, .slice (some ⟨r, 0, none⟩) 2 2]) (hc : Arr w cb 125 [.string c.nm, .slice ga c.args.length gc]) (hct : CtAt w Any n [.string c.nm, .slice ga c.args.length gc] c) :
    Calls Tryz.prog 130 #[.pointer (some ⟨m, 0, none⟩), .pointer (some ⟨cb, 0, none⟩)] w fun e w' => (∃ k n a' l' c' a l c, e = .returned (.tuple #[.agg #[.int .i64 k, .int .i64 n, .slice a' l' c', .slice a l c], .int .i64 0])) ∧ Below w.heap.size w w' := by
  have HB1 : Hid (Below w.heap.size w (w.alloc (.cells #[.int .i64 0, .int .i64 0, .slice none 0 0, .slice none 0 0] 28))) := bl_alloc (Below.refl _ _) _
  have Y1 : Hid (Arr (w.alloc (.cells #[.int .i64 0, .int .i64 0, .slice none 0 0, .slice none 0 0] 28)) w.heap.size 28 [.int .i64 0, .int .i64 0, .slice none 0 0, .slice none 0 0]) := ⟨heap_alloc_at _ _⟩
  have HQ : Hid (∀ wz, Below w.heap.size w wz → Calls Tryz.prog 131 #[.int .i64 5, .agg #[.string c.nm, .slice ga c.args.length gc]] wz fun e w' => (∃ k n a' l' c' a l c, e = .returned (.tuple #[.agg #[.int .i64 k, .int .i64 n, .slice a' l' c', .slice a l c], .int .i64 0])) ∧ Below wz.heap.size wz w') := fun wz hz => (Con_any wz n 5 _ c (hct.below hz) hcc).mono fun e w' ⟨h1, h2⟩ => ⟨by rw [hok] at h1; obtain ⟨a', c', a, c, N, g, -⟩ := h1.yes; exact ⟨_, _, _, _, _, _, _, _, g⟩, h2⟩
  have HSS : Hid (∀ (W : World) i u, Below w.heap.size w W → Below w.heap.size w (W.setCell ⟨w.heap.size, i, none⟩ u)) := fun W i u h => bl_set _ _ h (Nat.le_refl _)
  have hml : m ≠ w.heap.size := Nat.ne_of_lt hp.lt
  have htl : tb ≠ w.heap.size := Nat.ne_of_lt hm.lt
  have hcl : cb ≠ w.heap.size := Nat.ne_of_lt hc.lt
  have HDB : Hid (Below (w.alloc (.cells #[.int .i64 0, .int .i64 0, .slice none 0 0, .slice none 0 0] 28)).heap.size (w.alloc (.cells #[.int .i64 0, .int .i64 0, .slice none 0 0, .slice none 0 0] 28)) (w.alloc (.cells #[.int .i64 0, .int .i64 0, .slice none 0 0, .slice none 0 0] 28)).drew) := (Below.refl _ _).drew
  have hs0 : Hid (Arr (w.alloc (.cells #[.int .i64 0, .int .i64 0, .slice none 0 0, .slice none 0 0] 28)).drew m 216 [.pointer (some ⟨tb, 0, none⟩)] ∧ Arr (w.alloc (.cells #[.int .i64 0, .int .i64 0, .slice none 0 0, .slice none 0 0] 28)).drew tb 67 [.string (ByteArray.mk #[116]), .int .i64 6, .int .i64 5, .slice none 0 0, .slice (some ⟨r, 0, none⟩) 2 2] ∧ Arr (w.alloc (.cells #[.int .i64 0, .int .i64 0, .slice none 0 0, .slice none 0 0] 28)).drew cb 125 [.string c.nm, .slice ga c.args.length gc] ∧ Below w.heap.size w (w.alloc (.cells #[.int .i64 0, .int .i64 0, .slice none 0 0, .slice none 0 0] 28)).drew) := ⟨(hp.stays HB1.out).stays HDB.out, (hm.stays HB1.out).stays HDB.out, (hc.stays HB1.out).stays HDB.out, bl_tr HB1.out HDB.out⟩
  have Y2 := hid (Y1.out.stays HDB.out)
  have HO : Hid (∀ (W : World) i u, (Arr W m 216 [.pointer (some ⟨tb, 0, none⟩)] ∧ Arr W tb 67 [.string (ByteArray.mk #[116]), .int .i64 6, .int .i64 5, .slice none 0 0, .slice (some ⟨r, 0, none⟩) 2 2] ∧ Arr W cb 125 [.string c.nm, .slice ga c.args.length gc] ∧ Below w.heap.size w W) → (Arr (W.setCell ⟨w.heap.size, i, none⟩ u) m 216 [.pointer (some ⟨tb, 0, none⟩)] ∧ Arr (W.setCell ⟨w.heap.size, i, none⟩ u) tb 67 [.string (ByteArray.mk #[116]), .int .i64 6, .int .i64 5, .slice none 0 0, .slice (some ⟨r, 0, none⟩) 2 2] ∧ Arr (W.setCell ⟨w.heap.size, i, none⟩ u) cb 125 [.string c.nm, .slice ga c.args.length gc] ∧ Below w.heap.size w (W.setCell ⟨w.heap.size, i, none⟩ u))) := fun W i u h => ⟨h.1.other (p := ⟨w.heap.size, i, none⟩) hml u, h.2.1.other (p := ⟨w.heap.size, i, none⟩) htl u, h.2.2.1.other (p := ⟨w.heap.size, i, none⟩) hcl u, HSS.out _ _ _ h.2.2.2⟩
  clear hp hm hc hct hok hcc HDB Y1 HB1
  go_enter Tryz.func130, Tryz.ntmps130
  go_wp2
  refine wp_region_held_drew (S := fun wz => Arr wz m 216 [.pointer (some ⟨tb, 0, none⟩)] ∧ Arr wz tb 67 [.string (ByteArray.mk #[116]), .int .i64 6, .int .i64 5, .slice none 0 0, .slice (some ⟨r, 0, none⟩) 2 2] ∧ Arr wz cb 125 [.string c.nm, .slice ga c.args.length gc] ∧ Below w.heap.size w wz) (by kernel_rfl) (hs0.out) (fun hS => ?_)
  generalize (w.alloc (.cells #[.int .i64 0, .int .i64 0, .slice none 0 0, .slice none 0 0] 28)).drew = wd at hS Y2 ⊢
  refine wpAnyH_take (i := 0) (v := ?_) rfl (by kernel_rfl) (by kernel_rfl) (by kernel_rfl) (fun _ _ _ h => h) (Or.inl ⟨by rfl, ?_⟩) hS ?_
  rotate_left
  · intro wz hz; have yy0 := hz.1.cell; have yy1 := hz.2.1.cell; have yy2 := hz.2.2.1.cell; go_simp; try with_reducible rfl
  try simp only [Act.put, List.setIfInBounds_toArray, List.set_cons_zero, List.set_cons_succ, List.getElem_toArray, List.getElem_cons_succ, List.getElem_cons_zero]
  refine wpAnyH_take (i := 5) (v := ?_) rfl (by kernel_rfl) (by kernel_rfl) (by kernel_rfl) (fun _ _ _ h => h) (Or.inl ⟨by rfl, ?_⟩) hS ?_
  rotate_left
  · intro wz hz; have yy0 := hz.1.cell; have yy1 := hz.2.1.cell; have yy2 := hz.2.2.1.cell; go_simp; try with_reducible rfl
  try simp only [Act.put, List.setIfInBounds_toArray, List.set_cons_zero, List.set_cons_succ, List.getElem_toArray, List.getElem_cons_succ, List.getElem_cons_zero]
  refine wpAnyH_ready (rs := [1]) (by kernel_rfl) (by simp) (AllReadyH.cons rfl (fun K hK => ?a1_1) AllReadyH.nil)
  case' a1_1 =>
    go_simp
    refine hK.out _ _ (hS) (fun hSn => ?_)
    clear hK K hS
    have hS := hSn
    clear hSn
    try simp only [Act.put, List.setIfInBounds_toArray, List.set_cons_zero, List.set_cons_succ, List.getElem_toArray, List.getElem_cons_succ, List.getElem_cons_zero]
    refine wpAnyH_take (i := 2) (v := ?_) rfl (by kernel_rfl) (by kernel_rfl) (by kernel_rfl) (fun _ _ _ h => h) (Or.inl ⟨by rfl, ?_⟩) hS ?_
    rotate_left
    · intro wz hz; go_simp; try with_reducible rfl
    try simp only [Act.put, List.setIfInBounds_toArray, List.set_cons_zero, List.set_cons_succ, List.getElem_toArray, List.getElem_cons_succ, List.getElem_cons_zero]
    refine wpAnyH_take (i := 3) (v := ?_) rfl (by kernel_rfl) (by kernel_rfl) (by kernel_rfl) (fun _ _ _ h => h) (Or.inl ⟨by rfl, ?_⟩) hS ?_
    rotate_left
    · intro wz hz; go_simp; try with_reducible rfl
    try simp only [Act.put, List.setIfInBounds_toArray, List.set_cons_zero, List.set_cons_succ, List.getElem_toArray, List.getElem_cons_succ, List.getElem_cons_zero]
    refine wpAnyH_take (i := 4) (v := ?_) rfl (by kernel_rfl) (by kernel_rfl) (by kernel_rfl) (fun _ _ _ h => h) (Or.inl ⟨by rfl, ?_⟩) hS ?_
    rotate_left
    · intro wz hz; have yy0 := hz.1.cell; have yy1 := hz.2.1.cell; have yy2 := hz.2.2.1.cell; go_simp; try with_reducible rfl
    try simp only [Act.put, List.setIfInBounds_toArray, List.set_cons_zero, List.set_cons_succ, List.getElem_toArray, List.getElem_cons_succ, List.getElem_cons_zero]
    refine wpAnyH_ready (rs := [6]) (by kernel_rfl) (by simp) (AllReadyH.cons rfl (fun K hK => ?a2_6) AllReadyH.nil)
    case' a2_6 =>
      go_simp
      refine (HQ.out _ hS.2.2.2).mono ?_
      rintro e w4 ⟨⟨k, n', a', l', c', a, l, c9, rfl⟩, b4⟩
      have Y4 := hid (Y2.out.stays b4)
      have y4 := Y4.out.cell
      have z4 := Y4.out.frozen
      refine hK.out _ _ (⟨hS.1.stays b4, hS.2.1.stays b4, hS.2.2.1.stays b4, bl_tr hS.2.2.2 b4⟩) (fun hSn => ?_)
      clear hK K hS
      have hS := hSn
      clear hSn
      try simp only [Act.put, List.setIfInBounds_toArray, List.set_cons_zero, List.set_cons_succ, List.getElem_toArray, List.getElem_cons_succ, List.getElem_cons_zero]
      clear b4 Y2
      refine wpAnyH_take (i := 7) (v := ?_) rfl (by kernel_rfl) (by kernel_rfl) (by kernel_rfl) (fun _ _ _ h => h) (Or.inl ⟨by rfl, ?_⟩) hS ?_
      rotate_left
      · intro wz hz; go_simp; try with_reducible rfl
      try simp only [Act.put, List.setIfInBounds_toArray, List.set_cons_zero, List.set_cons_succ, List.getElem_toArray, List.getElem_cons_succ, List.getElem_cons_zero]
      refine wpAnyH_take (i := 8) (v := ?_) rfl (by kernel_rfl) (by kernel_rfl) (by kernel_rfl) (fun _ _ _ h => h) (Or.inl ⟨by rfl, ?_⟩) hS ?_
      rotate_left
      · intro wz hz; go_simp; try with_reducible rfl
      try simp only [Act.put, List.setIfInBounds_toArray, List.set_cons_zero, List.set_cons_succ, List.getElem_toArray, List.getElem_cons_succ, List.getElem_cons_zero]
      refine wpAnyH_ready (rs := [9]) (by kernel_rfl) (by simp) (AllReadyH.cons rfl (fun K hK => ?a3_9) AllReadyH.nil)
      case' a3_9 =>
        go_simp
        refine hK.out _ _ (HO.out _ _ _ (HO.out _ _ _ (HO.out _ _ _ (HO.out _ _ _ hS)))) (fun hSn => ?_)
        clear hK K hS
        have hS := hSn
        clear hSn
        try simp only [Act.put, List.setIfInBounds_toArray, List.set_cons_zero, List.set_cons_succ, List.getElem_toArray, List.getElem_cons_succ, List.getElem_cons_zero]
        refine wpAnyH_ready (rs := [10]) (by kernel_rfl) (by simp) (AllReadyH.cons rfl (fun K hK => ?a4_10) AllReadyH.nil)
        case' a4_10 =>
          go_simp
          refine hK.out _ _ (hS) (fun hSn => ?_)
          clear hK K hS
          have hS := hSn
          clear hSn
          try simp only [Act.put, List.setIfInBounds_toArray, List.set_cons_zero, List.set_cons_succ, List.getElem_toArray, List.getElem_cons_succ, List.getElem_cons_zero]
          refine wpAnyH_done (by kernel_rfl) ?_ _
  all_goals (
    go_wp2
    refine bodyPost_ret (v := .tuple #[.agg #[.int .i64 k, .int .i64 n', .slice a' l' c', .slice a l c9], .int .i64 0]) (by rw [results_cell2t (fn := Tryz.f130) (p := 2) (a := 3) (ty := 28) (by kernel_rfl)]; simp [go_sem, y4, z4]) rfl ?_
    exact ⟨⟨_, _, _, _, _, _, _, _, rfl⟩, hS.2.2.2⟩)
end Go.Proofs.YtigliglmejkakaaGreat

namespace Go.Proofs.YtigliglmejkakaaGreat
open Go.RowKit Go.Shelf Go.Sort
set_option linter.unusedVariables false
set_option linter.unusedSimpArgs false

theorem cmp_bCbC (w : World) : Calls Tryz.prog 87 #[.string ⟨bC.toArray⟩, .string ⟨bC.toArray⟩] w fun e w' => e = .returned (.int .i64 (0)) ∧ w' = w := (cmp_any _ _ w).mono fun e w' ⟨h1, h2⟩ => ⟨h1.trans (by rw [show Lib.compareBytes (ByteArray.mk bC.toArray).data.toList (ByteArray.mk bC.toArray).data.toList = 0 from by decide +kernel]), h2⟩
theorem cmp_bNbN (w : World) : Calls Tryz.prog 87 #[.string ⟨bN.toArray⟩, .string ⟨bN.toArray⟩] w fun e w' => e = .returned (.int .i64 (0)) ∧ w' = w := (cmp_any _ _ w).mono fun e w' ⟨h1, h2⟩ => ⟨h1.trans (by rw [show Lib.compareBytes (ByteArray.mk bN.toArray).data.toList (ByteArray.mk bN.toArray).data.toList = 0 from by decide +kernel]), h2⟩
theorem cmp_bObO (w : World) : Calls Tryz.prog 87 #[.string ⟨bO.toArray⟩, .string ⟨bO.toArray⟩] w fun e w' => e = .returned (.int .i64 (0)) ∧ w' = w := (cmp_any _ _ w).mono fun e w' ⟨h1, h2⟩ => ⟨h1.trans (by rw [show Lib.compareBytes (ByteArray.mk bO.toArray).data.toList (ByteArray.mk bO.toArray).data.toList = 0 from by decide +kernel]), h2⟩
theorem cmp_bNbO (w : World) : Calls Tryz.prog 87 #[.string ⟨bN.toArray⟩, .string ⟨bO.toArray⟩] w fun e w' => e = .returned (.int .i64 (-1)) ∧ w' = w := (cmp_any _ _ w).mono fun e w' ⟨h1, h2⟩ => ⟨h1.trans (by rw [show Lib.compareBytes (ByteArray.mk bN.toArray).data.toList (ByteArray.mk bO.toArray).data.toList = -1 from by decide +kernel]), h2⟩
theorem cmp_bCbN (w : World) : Calls Tryz.prog 87 #[.string ⟨bC.toArray⟩, .string ⟨bN.toArray⟩] w fun e w' => e = .returned (.int .i64 (-1)) ∧ w' = w := (cmp_any _ _ w).mono fun e w' ⟨h1, h2⟩ => ⟨h1.trans (by rw [show Lib.compareBytes (ByteArray.mk bC.toArray).data.toList (ByteArray.mk bN.toArray).data.toList = -1 from by decide +kernel]), h2⟩
theorem cmp_bNbC (w : World) : Calls Tryz.prog 87 #[.string ⟨bN.toArray⟩, .string ⟨bC.toArray⟩] w fun e w' => e = .returned (.int .i64 (1)) ∧ w' = w := (cmp_any _ _ w).mono fun e w' ⟨h1, h2⟩ => ⟨h1.trans (by rw [show Lib.compareBytes (ByteArray.mk bN.toArray).data.toList (ByteArray.mk bC.toArray).data.toList = 1 from by decide +kernel]), h2⟩

set_option maxHeartbeats 1000000 in
set_option maxRecDepth 100000 in
theorem search_bO (w : World) (lb : Nat) (hH : Holds encStr w lb 0 #[bC, bN, bO]) : Calls Tryz.prog 86 #[.slice (some ⟨lb, 0, none⟩) 3 3, .string ⟨bO.toArray⟩, .func (.func 87) #[] #[]] w fun e w' => e = .returned (.tuple #[.int .i64 2, .bool true]) ∧ w' = w := by
  have c0 : w.cell? ⟨lb, 0, none⟩ = some (.string ⟨bC.toArray⟩) := (hH 0 (by decide)).1
  have c1 : w.cell? ⟨lb, 1, none⟩ = some (.string ⟨bN.toArray⟩) := (hH 1 (by decide)).1
  have c2 : w.cell? ⟨lb, 2, none⟩ = some (.string ⟨bO.toArray⟩) := (hH 2 (by decide)).1
  have m0 : Hid True := trivial
  have m1 : Hid True := trivial
  have m2 : Hid True := trivial
  have eC : ∀ args w, (callFunc 87 args).run Tryz.prog w = .ok (.enter 87 args) w := enters_of Tryz.func87 (by kernel_rfl) rfl
  clear hH
  go_enter Tryz.func86, Tryz.ntmps86
  go_wp2
  refine wp_loop_rounds 3 ?_
  rw [rounds_succ]
  go_wp2_with (go_at_call 87; have := m0; refine (cmp_bNbO _).mono ?_; rintro e w' ⟨rfl, hw⟩; rw [hw]; clear hw w' m0)
  rw [rounds_succ]
  go_wp2_with (go_at_call 87; have := m1; refine (cmp_bObO _).mono ?_; rintro e w' ⟨rfl, hw⟩; rw [hw]; clear hw w' m1)
  rw [rounds_succ]
  go_wp2_with (go_at_call 87; have := m2; refine (cmp_bObO _).mono ?_; rintro e w' ⟨rfl, hw⟩; rw [hw]; clear hw w' m2)
  go_ret2
  exact ⟨rfl, rfl⟩

set_option maxHeartbeats 1000000 in
set_option maxRecDepth 100000 in
theorem search_bN (w : World) (lb : Nat) (hH : Holds encStr w lb 0 #[bC, bN, bO]) : Calls Tryz.prog 86 #[.slice (some ⟨lb, 0, none⟩) 3 3, .string ⟨bN.toArray⟩, .func (.func 87) #[] #[]] w fun e w' => e = .returned (.tuple #[.int .i64 1, .bool true]) ∧ w' = w := by
  have c0 : w.cell? ⟨lb, 0, none⟩ = some (.string ⟨bC.toArray⟩) := (hH 0 (by decide)).1
  have c1 : w.cell? ⟨lb, 1, none⟩ = some (.string ⟨bN.toArray⟩) := (hH 1 (by decide)).1
  have c2 : w.cell? ⟨lb, 2, none⟩ = some (.string ⟨bO.toArray⟩) := (hH 2 (by decide)).1
  have m0 : Hid True := trivial
  have m1 : Hid True := trivial
  have m2 : Hid True := trivial
  have eC : ∀ args w, (callFunc 87 args).run Tryz.prog w = .ok (.enter 87 args) w := enters_of Tryz.func87 (by kernel_rfl) rfl
  clear hH
  go_enter Tryz.func86, Tryz.ntmps86
  go_wp2
  refine wp_loop_rounds 3 ?_
  rw [rounds_succ]
  go_wp2_with (go_at_call 87; have := m0; refine (cmp_bNbN _).mono ?_; rintro e w' ⟨rfl, hw⟩; rw [hw]; clear hw w' m0)
  rw [rounds_succ]
  go_wp2_with (go_at_call 87; have := m1; refine (cmp_bCbN _).mono ?_; rintro e w' ⟨rfl, hw⟩; rw [hw]; clear hw w' m1)
  rw [rounds_succ]
  go_wp2_with (go_at_call 87; have := m2; refine (cmp_bNbN _).mono ?_; rintro e w' ⟨rfl, hw⟩; rw [hw]; clear hw w' m2)
  go_ret2
  exact ⟨rfl, rfl⟩

set_option maxHeartbeats 1000000 in
set_option maxRecDepth 100000 in
theorem search_bC (w : World) (lb : Nat) (hH : Holds encStr w lb 0 #[bC, bN, bO]) : Calls Tryz.prog 86 #[.slice (some ⟨lb, 0, none⟩) 3 3, .string ⟨bC.toArray⟩, .func (.func 87) #[] #[]] w fun e w' => e = .returned (.tuple #[.int .i64 0, .bool true]) ∧ w' = w := by
  have c0 : w.cell? ⟨lb, 0, none⟩ = some (.string ⟨bC.toArray⟩) := (hH 0 (by decide)).1
  have c1 : w.cell? ⟨lb, 1, none⟩ = some (.string ⟨bN.toArray⟩) := (hH 1 (by decide)).1
  have c2 : w.cell? ⟨lb, 2, none⟩ = some (.string ⟨bO.toArray⟩) := (hH 2 (by decide)).1
  have m0 : Hid True := trivial
  have m1 : Hid True := trivial
  have m2 : Hid True := trivial
  have eC : ∀ args w, (callFunc 87 args).run Tryz.prog w = .ok (.enter 87 args) w := enters_of Tryz.func87 (by kernel_rfl) rfl
  clear hH
  go_enter Tryz.func86, Tryz.ntmps86
  go_wp2
  refine wp_loop_rounds 3 ?_
  rw [rounds_succ]
  go_wp2_with (go_at_call 87; have := m0; refine (cmp_bNbC _).mono ?_; rintro e w' ⟨rfl, hw⟩; rw [hw]; clear hw w' m0)
  rw [rounds_succ]
  go_wp2_with (go_at_call 87; have := m1; refine (cmp_bCbC _).mono ?_; rintro e w' ⟨rfl, hw⟩; rw [hw]; clear hw w' m1)
  rw [rounds_succ]
  go_wp2_with (go_at_call 87; have := m2; refine (cmp_bCbC _).mono ?_; rintro e w' ⟨rfl, hw⟩; rw [hw]; clear hw w' m2)
  go_ret2
  exact ⟨rfl, rfl⟩
end Go.Proofs.YtigliglmejkakaaGreat
