/- The makers behind alive's labels: out, types$1, types$2. -/
import Derived.Test.YtigliglmejkakaaQbj
namespace Go.Proofs.Ytigliglmejkakaa
open Go.RowKit
set_option linter.unusedVariables false
set_option linter.unusedSimpArgs false

theorem ok5 : Tp.okT (.mk 6 5 []) = true := by decide
theorem okList : okSum listC = true := by decide
theorem okC0 : okC 5 ⟨(ByteArray.mk #[78, 105, 108]), []⟩ = true := by decide
theorem okC1 : okC 5 ⟨(ByteArray.mk #[67, 111, 110, 115]), [listT]⟩ = true := by decide
theorem TtAns2.yes {y : Tgt.Tt} {w : World} {e : Ending} {w' : World} (h : TtAns2 true y w e w') : ∃ a' c' a c N, e = .returned (.tuple #[.agg #[.int .i64 y.k, .int .i64 y.n, .slice a' y.ls.length c', .slice a y.ks.length c], .int .i64 0]) ∧ Tgt.TAt w' (fun b => w.heap.size ≤ b) N [.int .i64 y.k, .int .i64 y.n, .slice a' y.ls.length c', .slice a y.ks.length c] y := by
  rcases h with ⟨-, h⟩ | ⟨h, -⟩
  · exact h
  · cases h

theorem yes1 {w : World} {e : Ending} {w' : World} (h : TtAns true (Tp.made 0 (.mk 6 5 [])) w e w') : ∃ (q1' : Option Addr) (d1' : Nat) (q1 : Option Addr) (d1 N1 : Nat), e = .returned (.tuple #[.agg #[.int .i64 6, .int .i64 5, .slice none 0 0, .slice q1 0 d1], .int .i64 0]) ∧ Tgt.TAt w' (fun b => w.heap.size ≤ b) N1 [.int .i64 6, .int .i64 5, .slice none 0 0, .slice q1 0 d1] (.mk 6 5 [] []) := by
  rcases h with ⟨-, a, c, N, g1, g2, -⟩ | ⟨h, -⟩
  · exact ⟨none, 0, a, c, N, g1, g2⟩
  · cases h

set_option maxHeartbeats 2000000 in
set_option maxRecDepth 100000 in
theorem out_14 (w : World) (tb r : Nat) (hm : Arr w tb 59 [.string (ByteArray.mk #[116]), .int .i64 6, .int .i64 5, .slice none 0 0, .slice (some ⟨r, 0, none⟩) 2 2]) (hl : CtL w Any 2 (.slice (some ⟨r, 0, none⟩) 2 2) listC) :
    Calls Try.prog 75 #[.pointer (some ⟨tb, 0, none⟩)] w fun e w' => (∃ k n a' l' c' a l c, e = .returned (.tuple #[.agg #[.int .i64 k, .int .i64 n, .slice a' l' c', .slice a l c], .int .i64 0])) ∧ Below w.heap.size w w' := by
  have HT : Hid (∀ wz, Below w.heap.size w wz → Calls Try.prog 5 #[.agg #[.int .i64 6, .int .i64 5, .slice none 0 0]] wz fun e w' => (∃ (q1' : Option Addr) (d1' : Nat) (q1 : Option Addr) (d1 N1 : Nat), e = .returned (.tuple #[.agg #[.int .i64 6, .int .i64 5, .slice none 0 0, .slice q1 0 d1], .int .i64 0]) ∧ Tgt.TAt w' (fun b => wz.heap.size ≤ b) N1 [.int .i64 6, .int .i64 5, .slice none 0 0, .slice q1 0 d1] (.mk 6 5 [] [])) ∧ Below wz.heap.size wz w') := fun wz hz => (TType_any wz 1 _ (.mk 6 5 []) (tat0 6 5 ⟨by omega, by omega⟩ ⟨by omega, by omega⟩) (by decide)).mono fun e w' ⟨h1, h2⟩ => ⟨(yes1 (by rw [← ok5]; exact h1)), h2⟩
  obtain ⟨y2, hy2⟩ : ∃ y2, sumT listC = y2 := ⟨_, rfl⟩
  have HSu : Hid (∀ wz, Below w.heap.size w wz → Calls Try.prog 11 #[.slice (some ⟨r, 0, none⟩) 2 2] wz fun e w' => (∃ q2' d2' q2 d2 N2, e = .returned (.tuple #[.agg #[.int .i64 y2.k, .int .i64 y2.n, .slice q2' y2.ls.length d2', .slice q2 y2.ks.length d2], .int .i64 0]) ∧ Tgt.TAt w' (fun b => wz.heap.size ≤ b) N2 [.int .i64 y2.k, .int .i64 y2.n, .slice q2' y2.ls.length d2', .slice q2 y2.ks.length d2] y2) ∧ Below wz.heap.size wz w') := fun wz hz => (Sum_any wz 2 _ listC (hl.below hz) (by decide) (by decide)).mono fun e w' ⟨h1, h2⟩ => ⟨by rw [okList, hy2] at h1; exact h1.yes, h2⟩
  have HB1 : Hid (Below w.heap.size w (w.alloc (.cells #[.int .i64 0, .int .i64 0, .slice none 0 0, .slice none 0 0] 30))) := bl_alloc (Below.refl _ _) _
  have Y1 : Hid (Arr (w.alloc (.cells #[.int .i64 0, .int .i64 0, .slice none 0 0, .slice none 0 0] 30)) w.heap.size 30 [.int .i64 0, .int .i64 0, .slice none 0 0, .slice none 0 0]) := ⟨heap_alloc_at _ _⟩
  have HM1 := hid (hm.stays HB1.out)
  have m1 := HM1.out.cell
  have HSS : Hid (∀ (W : World) i u, Below w.heap.size w W → Below w.heap.size w (W.setCell ⟨w.heap.size, i, none⟩ u)) := fun W i u h => bl_set _ _ h (Nat.le_refl _)
  clear hm hl hy2
  go_enter Try.func75, Try.ntmps75
  go_wp2_with (first | (go_at_call 5; refine (HT.out _ HB1.out).mono ?_; rintro e w2 ⟨⟨q1', d1', q1, d1, N1, rfl, hT2⟩, b2⟩; have hb2 := bl_alloc b2 (.cells #[.int .i64 6, .int .i64 5, .slice none 0 0, .slice q1 0 d1] 30); have HB2 := hid (bl_tr HB1.out hb2); have Y2 := hid (Y1.out.stays hb2); have HM2 := hid (HM1.out.stays hb2); have m2 := HM2.out.cell; have A2 : Hid (Arr (w2.alloc (.cells #[.int .i64 6, .int .i64 5, .slice none 0 0, .slice q1 0 d1] 30)) w2.heap.size 30 [.int .i64 6, .int .i64 5, .slice none 0 0, .slice q1 0 d1]) := ⟨heap_alloc_at _ _⟩; have T2 := hid ((hT2.any).below (bl_alloc (Below.refl _ _) (.cells #[.int .i64 6, .int .i64 5, .slice none 0 0, .slice q1 0 d1] 30))); clear b2 hb2 hT2 m1 HT) | (go_at_call 11; refine (HSu.out _ HB2.out).mono ?_; rintro e w3 ⟨⟨q2', d2', q2, d2, N2, rfl, hT3⟩, b3⟩; have hb3 := bl_alloc b3 (.cells #[.int .i64 y2.k, .int .i64 y2.n, .slice q2' y2.ls.length d2', .slice q2 y2.ks.length d2] 30); have HB3 := hid (bl_tr HB2.out hb3); have Y3 := hid (Y2.out.stays hb3); have A3 := hid (A2.out.stays hb3); have T3 := hid (T2.out.below hb3); have C3 : Hid (Arr (w3.alloc (.cells #[.int .i64 y2.k, .int .i64 y2.n, .slice q2' y2.ls.length d2', .slice q2 y2.ks.length d2] 30)) w3.heap.size 30 [.int .i64 y2.k, .int .i64 y2.n, .slice q2' y2.ls.length d2', .slice q2 y2.ks.length d2]) := ⟨heap_alloc_at _ _⟩; have U3 := hid (hT3.any.below (bl_alloc (Below.refl _ _) (.cells #[.int .i64 y2.k, .int .i64 y2.n, .slice q2' y2.ls.length d2', .slice q2 y2.ks.length d2] 30))); have x3 := A3.out.cell; have y3 := C3.out.cell; clear b3 hb3 hT3 m2 HSu) | (go_at_call 39; refine (both_any _ Tgt.Any (max N1 N2) 4 (.mk 6 5 [] []) y2 none q1 q2' q2 0 d1 d2' d2 ⟨by omega, by omega⟩ (T3.out.le (Nat.le_max_left _ _)) (U3.out.le (Nat.le_max_right _ _)) (fun _ _ => trivial)).mono ?_; rintro e w4 ⟨q4, d4, rfl, -, b4⟩; have HB4 := hid (bl_tr HB3.out b4); have r4 := (Y3.out.stays b4).cell; have s4 := (Y3.out.stays b4).frozen; clear b4))
  refine bodyPost_ret (v := .tuple #[.agg #[.int .i64 4, .int .i64 0, .slice none 0 0, .slice q4 2 d4], .int .i64 0]) (by rw [results_cell2t (fn := Try.f75) (p := 2) (a := 3) (ty := 30) (by kernel_rfl)]; simp [go_sem, r4, s4]) rfl ?_
  exact ⟨⟨_, _, _, _, _, _, _, _, rfl⟩, HSS.out _ _ _ (HSS.out _ _ _ (HSS.out _ _ _ (HSS.out _ _ _ HB4.out)))⟩

set_option maxHeartbeats 1000000 in
set_option maxRecDepth 100000 in
theorem made1_14 (w : World) (m tb r : Nat) (hp : Arr w m 110 [.pointer (some ⟨tb, 0, none⟩)]) (hm : Arr w tb 59 [.string (ByteArray.mk #[116]), .int .i64 6, .int .i64 5, .slice none 0 0, .slice (some ⟨r, 0, none⟩) 2 2]) (hl : CtL w Any 2 (.slice (some ⟨r, 0, none⟩) 2 2) listC) :
    Calls Try.prog 74 #[.pointer (some ⟨m, 0, none⟩)] w fun e w' => (∃ k n a' l' c' a l c, e = .returned (.tuple #[.agg #[.int .i64 k, .int .i64 n, .slice a' l' c', .slice a l c], .int .i64 0])) ∧ Below w.heap.size w w' := by
  have HB1 : Hid (Below w.heap.size w (w.alloc (.cells #[.int .i64 0, .int .i64 0, .slice none 0 0, .slice none 0 0] 30))) := bl_alloc (Below.refl _ _) _
  have Y1 : Hid (Arr (w.alloc (.cells #[.int .i64 0, .int .i64 0, .slice none 0 0, .slice none 0 0] 30)) w.heap.size 30 [.int .i64 0, .int .i64 0, .slice none 0 0, .slice none 0 0]) := ⟨heap_alloc_at _ _⟩
  have HQ := hid (out_14 (w.alloc (.cells #[.int .i64 0, .int .i64 0, .slice none 0 0, .slice none 0 0] 30)) tb r (hm.stays HB1.out) (hl.below HB1.out))
  have p1 := (hp.stays HB1.out).cell
  have HSS : Hid (∀ (W : World) i u, Below w.heap.size w W → Below w.heap.size w (W.setCell ⟨w.heap.size, i, none⟩ u)) := fun W i u h => bl_set _ _ h (Nat.le_refl _)
  clear hp hm hl
  go_enter Try.func74, Try.ntmps74
  go_wp2_with (go_at_call 75; refine HQ.out.mono ?_; rintro e w2 ⟨⟨k, n, a', l', c', a, l, c, rfl⟩, b2⟩; have HB2 := hid (bl_tr HB1.out b2); have r2 := (Y1.out.stays b2).cell; have s2 := (Y1.out.stays b2).frozen; clear b2)
  refine bodyPost_ret (v := .tuple #[.agg #[.int .i64 k, .int .i64 n, .slice a' l' c', .slice a l c], .int .i64 0]) (by rw [results_cell2t (fn := Try.f74) (p := 1) (a := 2) (ty := 30) (by kernel_rfl)]; simp [go_sem, r2, s2]) rfl ?_
  exact ⟨⟨_, _, _, _, _, _, _, _, rfl⟩, HSS.out _ _ _ (HSS.out _ _ _ (HSS.out _ _ _ (HSS.out _ _ _ HB2.out)))⟩

set_option maxHeartbeats 2000000 in
set_option maxRecDepth 100000 in
theorem made2_14 (w : World) (m tb r cb n : Nat) (c : Ct) (ga : Option Addr) (gc : Nat) (hok : okC 5 c = true) (hcc : Tp.cntL c.args ≤ 1048576) (hp : Arr w m 110 [.pointer (some ⟨tb, 0, none⟩)]) (hm : Arr w tb 59 [.string (ByteArray.mk #[116]), .int .i64 6, .int .i64 5, .slice none 0 0, .slice (some ⟨r, 0, none⟩) 2 2]) (hc : Arr w cb 43 [.string c.nm, .slice ga c.args.length gc]) (hct : CtAt w Any n [.string c.nm, .slice ga c.args.length gc] c) :
    Calls Try.prog 77 #[.pointer (some ⟨m, 0, none⟩), .pointer (some ⟨cb, 0, none⟩)] w fun e w' => (∃ k n a' l' c' a l c, e = .returned (.tuple #[.agg #[.int .i64 k, .int .i64 n, .slice a' l' c', .slice a l c], .int .i64 0])) ∧ Below w.heap.size w w' := by
  have HB1 : Hid (Below w.heap.size w (w.alloc (.cells #[.int .i64 0, .int .i64 0, .slice none 0 0, .slice none 0 0] 30))) := bl_alloc (Below.refl _ _) _
  have Y1 : Hid (Arr (w.alloc (.cells #[.int .i64 0, .int .i64 0, .slice none 0 0, .slice none 0 0] 30)) w.heap.size 30 [.int .i64 0, .int .i64 0, .slice none 0 0, .slice none 0 0]) := ⟨heap_alloc_at _ _⟩
  have HQ : Hid (∀ wz, Below w.heap.size w wz → Calls Try.prog 15 #[.int .i64 5, .agg #[.string c.nm, .slice ga c.args.length gc]] wz fun e w' => (∃ k n a' l' c' a l c, e = .returned (.tuple #[.agg #[.int .i64 k, .int .i64 n, .slice a' l' c', .slice a l c], .int .i64 0])) ∧ Below wz.heap.size wz w') := fun wz hz => (Con_any wz n 5 _ c (hct.below hz) hcc).mono fun e w' ⟨h1, h2⟩ => ⟨by rw [hok] at h1; obtain ⟨a', c', a, c, N, g, -⟩ := h1.yes; exact ⟨_, _, _, _, _, _, _, _, g⟩, h2⟩
  have HSS : Hid (∀ (W : World) i u, Below w.heap.size w W → Below w.heap.size w (W.setCell ⟨w.heap.size, i, none⟩ u)) := fun W i u h => bl_set _ _ h (Nat.le_refl _)
  have hml : m ≠ w.heap.size := Nat.ne_of_lt hp.lt
  have htl : tb ≠ w.heap.size := Nat.ne_of_lt hm.lt
  have hcl : cb ≠ w.heap.size := Nat.ne_of_lt hc.lt
  have HDB : Hid (Below (w.alloc (.cells #[.int .i64 0, .int .i64 0, .slice none 0 0, .slice none 0 0] 30)).heap.size (w.alloc (.cells #[.int .i64 0, .int .i64 0, .slice none 0 0, .slice none 0 0] 30)) (w.alloc (.cells #[.int .i64 0, .int .i64 0, .slice none 0 0, .slice none 0 0] 30)).drew) := (Below.refl _ _).drew
  have hs0 : Hid (Arr (w.alloc (.cells #[.int .i64 0, .int .i64 0, .slice none 0 0, .slice none 0 0] 30)).drew m 110 [.pointer (some ⟨tb, 0, none⟩)] ∧ Arr (w.alloc (.cells #[.int .i64 0, .int .i64 0, .slice none 0 0, .slice none 0 0] 30)).drew tb 59 [.string (ByteArray.mk #[116]), .int .i64 6, .int .i64 5, .slice none 0 0, .slice (some ⟨r, 0, none⟩) 2 2] ∧ Arr (w.alloc (.cells #[.int .i64 0, .int .i64 0, .slice none 0 0, .slice none 0 0] 30)).drew cb 43 [.string c.nm, .slice ga c.args.length gc] ∧ Below w.heap.size w (w.alloc (.cells #[.int .i64 0, .int .i64 0, .slice none 0 0, .slice none 0 0] 30)).drew) := ⟨(hp.stays HB1.out).stays HDB.out, (hm.stays HB1.out).stays HDB.out, (hc.stays HB1.out).stays HDB.out, bl_tr HB1.out HDB.out⟩
  have Y2 := hid (Y1.out.stays HDB.out)
  have HO : Hid (∀ (W : World) i u, (Arr W m 110 [.pointer (some ⟨tb, 0, none⟩)] ∧ Arr W tb 59 [.string (ByteArray.mk #[116]), .int .i64 6, .int .i64 5, .slice none 0 0, .slice (some ⟨r, 0, none⟩) 2 2] ∧ Arr W cb 43 [.string c.nm, .slice ga c.args.length gc] ∧ Below w.heap.size w W) → (Arr (W.setCell ⟨w.heap.size, i, none⟩ u) m 110 [.pointer (some ⟨tb, 0, none⟩)] ∧ Arr (W.setCell ⟨w.heap.size, i, none⟩ u) tb 59 [.string (ByteArray.mk #[116]), .int .i64 6, .int .i64 5, .slice none 0 0, .slice (some ⟨r, 0, none⟩) 2 2] ∧ Arr (W.setCell ⟨w.heap.size, i, none⟩ u) cb 43 [.string c.nm, .slice ga c.args.length gc] ∧ Below w.heap.size w (W.setCell ⟨w.heap.size, i, none⟩ u))) := fun W i u h => ⟨h.1.other (p := ⟨w.heap.size, i, none⟩) hml u, h.2.1.other (p := ⟨w.heap.size, i, none⟩) htl u, h.2.2.1.other (p := ⟨w.heap.size, i, none⟩) hcl u, HSS.out _ _ _ h.2.2.2⟩
  clear hp hm hc hct hok hcc HDB Y1 HB1
  go_enter Try.func77, Try.ntmps77
  go_wp2
  refine wp_region_held_drew (S := fun wz => Arr wz m 110 [.pointer (some ⟨tb, 0, none⟩)] ∧ Arr wz tb 59 [.string (ByteArray.mk #[116]), .int .i64 6, .int .i64 5, .slice none 0 0, .slice (some ⟨r, 0, none⟩) 2 2] ∧ Arr wz cb 43 [.string c.nm, .slice ga c.args.length gc] ∧ Below w.heap.size w wz) (by kernel_rfl) (hs0.out) (fun hS => ?_)
  generalize (w.alloc (.cells #[.int .i64 0, .int .i64 0, .slice none 0 0, .slice none 0 0] 30)).drew = wd at hS Y2 ⊢
  refine wpAnyH_take (i := 0) (v := ?_) rfl (by kernel_rfl) (by kernel_rfl) (by kernel_rfl) (fun _ _ _ h => h) (Or.inl ⟨by rfl, ?_⟩) hS ?_
  rotate_left
  · intro wz hz; have yy0 := hz.1.cell; have yy1 := hz.2.1.cell; have yy2 := hz.2.2.1.cell; go_simp; try with_reducible rfl
  try simp only [Act.put, List.setIfInBounds_toArray, List.set_cons_zero, List.set_cons_succ, List.getElem_toArray, List.getElem_cons_succ, List.getElem_cons_zero]
  refine wpAnyH_take (i := 5) (v := ?_) rfl (by kernel_rfl) (by kernel_rfl) (by kernel_rfl) (fun _ _ _ h => h) (Or.inl ⟨by rfl, ?_⟩) hS ?_
  rotate_left
  · intro wz hz; have yy0 := hz.1.cell; have yy1 := hz.2.1.cell; have yy2 := hz.2.2.1.cell; go_simp; try with_reducible rfl
  try simp only [Act.put, List.setIfInBounds_toArray, List.set_cons_zero, List.set_cons_succ, List.getElem_toArray, List.getElem_cons_succ, List.getElem_cons_zero]
  refine wpAnyH_ready (rs := [1]) (by kernel_rfl) (by simp) (AllReadyH.cons rfl (fun K hK => ?a1_1) AllReadyH.nil)
  case' a1_1 =>
    go_simp
    refine hK.out _ _ (hS) (fun hSn => ?_)
    clear hK K hS
    have hS := hSn
    clear hSn
    try simp only [Act.put, List.setIfInBounds_toArray, List.set_cons_zero, List.set_cons_succ, List.getElem_toArray, List.getElem_cons_succ, List.getElem_cons_zero]
    refine wpAnyH_take (i := 2) (v := ?_) rfl (by kernel_rfl) (by kernel_rfl) (by kernel_rfl) (fun _ _ _ h => h) (Or.inl ⟨by rfl, ?_⟩) hS ?_
    rotate_left
    · intro wz hz; go_simp; try with_reducible rfl
    try simp only [Act.put, List.setIfInBounds_toArray, List.set_cons_zero, List.set_cons_succ, List.getElem_toArray, List.getElem_cons_succ, List.getElem_cons_zero]
    refine wpAnyH_take (i := 3) (v := ?_) rfl (by kernel_rfl) (by kernel_rfl) (by kernel_rfl) (fun _ _ _ h => h) (Or.inl ⟨by rfl, ?_⟩) hS ?_
    rotate_left
    · intro wz hz; go_simp; try with_reducible rfl
    try simp only [Act.put, List.setIfInBounds_toArray, List.set_cons_zero, List.set_cons_succ, List.getElem_toArray, List.getElem_cons_succ, List.getElem_cons_zero]
    refine wpAnyH_take (i := 4) (v := ?_) rfl (by kernel_rfl) (by kernel_rfl) (by kernel_rfl) (fun _ _ _ h => h) (Or.inl ⟨by rfl, ?_⟩) hS ?_
    rotate_left
    · intro wz hz; have yy0 := hz.1.cell; have yy1 := hz.2.1.cell; have yy2 := hz.2.2.1.cell; go_simp; try with_reducible rfl
    try simp only [Act.put, List.setIfInBounds_toArray, List.set_cons_zero, List.set_cons_succ, List.getElem_toArray, List.getElem_cons_succ, List.getElem_cons_zero]
    refine wpAnyH_ready (rs := [6]) (by kernel_rfl) (by simp) (AllReadyH.cons rfl (fun K hK => ?a2_6) AllReadyH.nil)
    case' a2_6 =>
      go_simp
      refine (HQ.out _ hS.2.2.2).mono ?_
      rintro e w4 ⟨⟨k, n', a', l', c', a, l, c9, rfl⟩, b4⟩
      have Y4 := hid (Y2.out.stays b4)
      have y4 := Y4.out.cell
      have z4 := Y4.out.frozen
      refine hK.out _ _ (⟨hS.1.stays b4, hS.2.1.stays b4, hS.2.2.1.stays b4, bl_tr hS.2.2.2 b4⟩) (fun hSn => ?_)
      clear hK K hS
      have hS := hSn
      clear hSn
      try simp only [Act.put, List.setIfInBounds_toArray, List.set_cons_zero, List.set_cons_succ, List.getElem_toArray, List.getElem_cons_succ, List.getElem_cons_zero]
      clear b4 Y2
      refine wpAnyH_take (i := 7) (v := ?_) rfl (by kernel_rfl) (by kernel_rfl) (by kernel_rfl) (fun _ _ _ h => h) (Or.inl ⟨by rfl, ?_⟩) hS ?_
      rotate_left
      · intro wz hz; go_simp; try with_reducible rfl
      try simp only [Act.put, List.setIfInBounds_toArray, List.set_cons_zero, List.set_cons_succ, List.getElem_toArray, List.getElem_cons_succ, List.getElem_cons_zero]
      refine wpAnyH_take (i := 8) (v := ?_) rfl (by kernel_rfl) (by kernel_rfl) (by kernel_rfl) (fun _ _ _ h => h) (Or.inl ⟨by rfl, ?_⟩) hS ?_
      rotate_left
      · intro wz hz; go_simp; try with_reducible rfl
      try simp only [Act.put, List.setIfInBounds_toArray, List.set_cons_zero, List.set_cons_succ, List.getElem_toArray, List.getElem_cons_succ, List.getElem_cons_zero]
      refine wpAnyH_ready (rs := [9]) (by kernel_rfl) (by simp) (AllReadyH.cons rfl (fun K hK => ?a3_9) AllReadyH.nil)
      case' a3_9 =>
        go_simp
        refine hK.out _ _ (HO.out _ _ _ (HO.out _ _ _ (HO.out _ _ _ (HO.out _ _ _ hS)))) (fun hSn => ?_)
        clear hK K hS
        have hS := hSn
        clear hSn
        try simp only [Act.put, List.setIfInBounds_toArray, List.set_cons_zero, List.set_cons_succ, List.getElem_toArray, List.getElem_cons_succ, List.getElem_cons_zero]
        refine wpAnyH_ready (rs := [10]) (by kernel_rfl) (by simp) (AllReadyH.cons rfl (fun K hK => ?a4_10) AllReadyH.nil)
        case' a4_10 =>
          go_simp
          refine hK.out _ _ (hS) (fun hSn => ?_)
          clear hK K hS
          have hS := hSn
          clear hSn
          try simp only [Act.put, List.setIfInBounds_toArray, List.set_cons_zero, List.set_cons_succ, List.getElem_toArray, List.getElem_cons_succ, List.getElem_cons_zero]
          refine wpAnyH_done (by kernel_rfl) ?_ _
  all_goals (
    go_wp2
    refine bodyPost_ret (v := .tuple #[.agg #[.int .i64 k, .int .i64 n', .slice a' l' c', .slice a l c9], .int .i64 0]) (by rw [results_cell2t (fn := Try.f77) (p := 2) (a := 3) (ty := 30) (by kernel_rfl)]; simp [go_sem, y4, z4]) rfl ?_
    exact ⟨⟨_, _, _, _, _, _, _, _, rfl⟩, hS.2.2.2⟩)
end Go.Proofs.Ytigliglmejkakaa
